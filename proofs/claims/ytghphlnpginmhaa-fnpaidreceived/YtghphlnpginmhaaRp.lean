/- Receipts, plainly: what is there of each line behind so many receipts, which receipt is the first that may not be; tolerances. -/
import Derived.Test.YtghphlnpginmhaaOb
import Derived.Test.YtghphlnpginmhaaRa
import Derived.Test.YtghphlnpginmhaaEa
import Derived.Test.YtghphlnpginmhaaAr
namespace Go.Proofs.Ytghphlnpginmhaa
open Go.ChangeShapes Go.WideShapes Go.ChangeAt Go.RowKit
set_option linter.unusedVariables false
set_option linter.unusedSimpArgs false

def mostV (q ov : Int) : Int := q + mdV q ov 1000 1
def gS (rc : Nat → RC2) : Nat → Nat → Int
  | 0, _ => 0
  | k + 1, j => if (rc k).line = (j : Int) then gS rc k j + (rc k).qty else gS rc k j
theorem gS_hit {rc : Nat → RC2} {k L : Nat} {q : Int} (h : rc k = ⟨(L : Int), q⟩) : gS rc (k + 1) L = gS rc k L + q := by
  show (if (rc k).line = (L : Int) then gS rc k L + (rc k).qty else gS rc k L) = _
  rw [h]; exact if_pos rfl
theorem gS_miss {rc : Nat → RC2} {k L j : Nat} {q : Int} (h : rc k = ⟨(L : Int), q⟩) (hj : j ≠ L) : gS rc (k + 1) j = gS rc k j := by
  show (if (rc k).line = (j : Int) then gS rc k j + (rc k).qty else gS rc k j) = _
  rw [h]; exact if_neg (by simp only; omega)
def rcB (len : Nat) (c : Nat → OL3) (rc : Nat → RC2) (ov : Int) (k : Nat) : Bool := inB (rc k).line 0 ((len : Int) - 1) && (inB (rc k).qty (-1000000) 1000000 && inB (gS rc (k + 1) (rc k).line.toNat) 0 (mostV (c (rc k).line.toNat).qty ov))
theorem rcB_1 {len : Nat} {c : Nat → OL3} {rc : Nat → RC2} {ov ln q : Int} {k : Nat} (h : rc k = ⟨ln, q⟩) (g : inB ln 0 ((len : Int) - 1) = false) : rcB len c rc ov k = false := by unfold rcB; rw [h]; simp [g]
theorem rcB_2 {len : Nat} {c : Nat → OL3} {rc : Nat → RC2} {ov ln q : Int} {k : Nat} (h : rc k = ⟨ln, q⟩) (g : inB q (-1000000) 1000000 = false) : rcB len c rc ov k = false := by unfold rcB; rw [h]; simp [g]
theorem rcB_3 {len : Nat} {c : Nat → OL3} {rc : Nat → RC2} {ov q : Int} {k L : Nat} (h : rc k = ⟨(L : Int), q⟩) (g : inB (gS rc k L + q) 0 (mostV (c L).qty ov) = false) : rcB len c rc ov k = false := by
  have e := gS_hit h
  unfold rcB; rw [h]; simp only [Int.toNat_natCast]; rw [e, g]; simp
theorem rcB_t {len : Nat} {c : Nat → OL3} {rc : Nat → RC2} {ov q : Int} {k L : Nat} (h : rc k = ⟨(L : Int), q⟩) (h1 : inB (L : Int) 0 ((len : Int) - 1) = true) (h2 : inB q (-1000000) 1000000 = true) (g : inB (gS rc k L + q) 0 (mostV (c L).qty ov) = true) : rcB len c rc ov k = true := by
  have e := gS_hit h
  unfold rcB; rw [h]; simp only [Int.toNat_natCast]; rw [e, g, h1, h2]; rfl
theorem gS_bd {len : Nat} {c : Nat → OL3} {rc : Nat → RC2} {ov : Int} (hc : ∀ j, j < len → olB (c j) = true) : ∀ {k : Nat}, (∀ i, i < k → rcB len c rc ov i = true) → ∀ j, 0 ≤ gS rc k j ∧ gS rc k j ≤ 200000000000
  | 0, _, j => by unfold gS; omega
  | k + 1, h, j => by
    by_cases e : (rc k).line = (j : Int)
    · have hk := h k (by omega)
      unfold rcB at hk
      simp only [Bool.and_eq_true] at hk
      have h1 := inB_t hk.1
      have h3 := inB_t hk.2.2
      rw [e] at h3 h1
      simp only [Int.toNat_natCast] at h3
      have ho := (olB_p (hc j (by omega))).2.1
      have hm := md_abs (c j).qty ov 1000 1
      unfold mostV at h3
      omega
    · have e2 : gS rc (k + 1) j = gS rc k j := if_neg e
      rw [e2]; exact gS_bd hc (fun i hi => h i (by omega)) j
def tolB (ov pr le : Int) : Bool := inB ov 0 1000 && (inB pr 0 1000 && inB le 0 100000000000)
def told (len : Nat) (c : Nat → OL3) (nr : Nat) (rc : Nat → RC2) (ov : Int) : Int := fstF (fun k => !rcB len c rc ov k) nr 0

theorem tolRight_any (ov pr le : Int) (w : World) : Calls Try.prog 106 #[.agg #[.int .i64 ov, .int .i64 pr, .int .i64 le]] w fun e w' => e = .returned (.bool (tolB ov pr le)) ∧ Below w.heap.size w w' := by
  cases h1 : inB ov 0 1000
  · go_enter Try.func106, Try.ntmps106
    go_wp2_with (first | (go_at_call 139; refine (isThou_any _ _).mono ?_; rintro e w1 ⟨rfl, rfl⟩) | (go_at_call 140; refine (isAmt0_any _ _).mono ?_; rintro e w1 ⟨rfl, rfl⟩))
    go_returns
    exact ⟨ret_bool (by simp [tolB, h1]), by go_grown⟩
  cases h2 : inB pr 0 1000
  · go_enter Try.func106, Try.ntmps106
    go_wp2_with (first | (go_at_call 139; refine (isThou_any _ _).mono ?_; rintro e w1 ⟨rfl, rfl⟩) | (go_at_call 140; refine (isAmt0_any _ _).mono ?_; rintro e w1 ⟨rfl, rfl⟩))
    go_returns
    exact ⟨ret_bool (by simp [tolB, h1, h2]), by go_grown⟩
  go_enter Try.func106, Try.ntmps106
  go_wp2_with (first | (go_at_call 139; refine (isThou_any _ _).mono ?_; rintro e w1 ⟨rfl, rfl⟩) | (go_at_call 140; refine (isAmt0_any _ _).mono ?_; rintro e w1 ⟨rfl, rfl⟩))
  go_returns
  exact ⟨ret_bool (by simp [tolB, h1, h2]), by go_grown⟩
theorem l12Tol_any (ov pr le : Int) (w : World) : Calls Try.prog 104 #[.agg #[.int .i64 ov, .int .i64 pr, .int .i64 le]] w fun e w' => e = .returned (.bool (tolB ov pr le)) ∧ Below w.heap.size w w' := by
  cases h1 : inB ov 0 1000
  · go_enter Try.func104, Try.ntmps104
    go_wp2_with (first | (go_at_call 67; refine (l1In_any _ _ _ _).mono ?_; rintro e w1 ⟨rfl, rfl⟩))
    go_returns
    exact ⟨ret_bool (by simp [tolB, h1]), by go_grown⟩
  cases h2 : inB pr 0 1000
  · go_enter Try.func104, Try.ntmps104
    go_wp2_with (first | (go_at_call 67; refine (l1In_any _ _ _ _).mono ?_; rintro e w1 ⟨rfl, rfl⟩))
    go_returns
    exact ⟨ret_bool (by simp [tolB, h1, h2]), by go_grown⟩
  go_enter Try.func104, Try.ntmps104
  go_wp2_with (first | (go_at_call 67; refine (l1In_any _ _ _ _).mono ?_; rintro e w1 ⟨rfl, rfl⟩))
  go_returns
  exact ⟨ret_bool (by simp [tolB, h1, h2]), by go_grown⟩
theorem mostOf_any (ov pr le q M : Int) (w : World) (hq : 0 ≤ q ∧ q ≤ 1000000) (hM : mostV q ov = M) : Calls Try.prog 141 #[.agg #[.int .i64 ov, .int .i64 pr, .int .i64 le], .int .i64 q] w fun e w' => e = .returned (.int .i64 M) ∧ Below w.heap.size w w' := by
  have hm := md_abs q ov 1000 1
  have HMD : Hid (∀ W, Calls Try.prog 117 #[.int .i64 q, .int .i64 ov, .int .i64 1000, .int .i64 1] W fun e w' => e = .returned (.tuple #[.int .i64 (mdV q ov 1000 1), .bool (mdB q ov 1000 1)]) ∧ Below W.heap.size W w') := fun W => implMulDiv_any q ov 1000 1 W
  unfold mostV at hM
  obtain ⟨D, hD⟩ : ∃ D, mdV q ov 1000 1 = D := ⟨_, rfl⟩
  obtain ⟨DB, hDB⟩ : ∃ D, mdB q ov 1000 1 = D := ⟨_, rfl⟩
  rw [hD, hDB] at HMD
  rw [hD] at hm hM
  clear hD hDB
  subst hM
  go_enter Try.func141, Try.ntmps141
  go_wp2_with (go_at_call 117; refine (HMD.out _).mono ?_; rintro e w1 ⟨rfl, b1⟩)
  go_returns
  exact ⟨rfl, bel_on (by go_grown) b1⟩
theorem results_row_tmp {P : Program} {fn : Func} {p q : Tmp} {ty : TypeId} (h : fn.results = #[.cell p ty, .tmp q]) (tmps : Array Value) (w : World) (g : Nat) (t : TypeId) (cs : Array Value) (fr : Nat × Nat) (d : TypeDesc)
    (hp : tmps.getD p undef = .pointer (some ⟨g, 0, none⟩)) (hg : w.heap[g]? = some (.cells cs t fr))
    (hu : P.underlying ty = some d) (hd : (match d with | .struct _ | .array _ _ => true | _ => false) = true) (hi : (P.info? ty).map (·.size) = some cs.size) :
    (results fn tmps).run P w = .ok (.tuple #[.agg cs, tmps.getD q undef]) w := by
  have hp' : tmps[p]?.getD undef = .pointer (some ⟨g, 0, none⟩) := by simpa using hp
  simp [results, h, hp', asAddr, run_loadVar_row w g t ty cs fr d hg hu hd hi]
end Go.Proofs.Ytghphlnpginmhaa
