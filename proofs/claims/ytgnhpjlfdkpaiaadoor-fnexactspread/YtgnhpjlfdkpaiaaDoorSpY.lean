/- Spread, plain; the program's days of periods. Spread, the program's. Spread, the model's. -/
import Derived.Test.YtgnhpjlfdkpaiaaDoorPsV
import Derived.Test.YtgnhpjlfdkpaiaaDoorZC
import Derived.Test.YtgnhpjlfdkpaiaaDoorTl
import Derived.Test.YtgnhpjlfdkpaiaaDoorGe
import Derived.Test.YtgnhpjlfdkpaiaaDoorFm
import Derived.Deep.RegionHeld3
import Derived.Test.YtgnhpjlfdkpaiaaDoorSf
import Derived.Test.YtgnhpjlfdkpaiaaDoorSk
import Derived.Test.YtgnhpjlfdkpaiaaDoorHs
import Derived.Test.YtgnhpjlfdkpaiaaDoorGd2
import Derived.BigQuiet
import Derived.Deep.CutRange
namespace Go.Proofs.YtgnhpjlfdkpaiaaDoor.Sh
open Go Go.RowKit
theorem shV_bd {T : Int} {N : Nat} {z : Nat → Int} (hq : ShOk T N z) {j : Nat} (hj : j < N) : -200000000000 ≤ shV T N z j ∧ shV T N z j ≤ 200000000000 := by
  obtain ⟨K, k1, k2, _⟩ := lf_bd hq
  have := gst_bd (one := on1 (lf T N z)) (o := qv T N z) (r := rs T N z) (M := 100000000000) (by unfold on1; split <;> omega) (by omega) (fun j hj => qv_bd hq hj) K j hj
  have := hq.2.1
  unfold shV; rw [k2]; omega
end Go.Proofs.YtgnhpjlfdkpaiaaDoor.Sh
namespace Go.Proofs.YtgnhpjlfdkpaiaaDoor
open Go Go.ChangeShapes Go.WideShapes Go.ChangeAt Go.RowKit
set_option linter.unusedVariables false
set_option linter.unusedSimpArgs false

/-- The days of period j, as the program reckons them. -/
def dW (x y : Nat → Int) (j : Nat) : Int := wrap64 (wrap64 (y j - x j) + 1)
/-- And as they are. -/
def wt (x y : Nat → Int) (j : Nat) : Int := y j - x j + 1
def spText : ByteArray := ⟨#[115, 112, 114, 101, 97, 100]⟩
def spL (frm tu dim s : Int) (j : Nat) : L5 := if j = 0 then ⟨tu, dim, 0, s, s⟩ else ⟨frm, dim, 0, -s, -s⟩
def spE (frm tu dim : Int) (y : Nat → Int) (S : Nat → Int) (i : Nat) : E4 := ⟨y i, 0, spText, 2, spL frm tu dim (S i)⟩
def DivP (x y : Nat → Int) (n : Nat) : Prop := ∀ j, j < n → 1 ≤ dW x y j ∧ dW x y j ≤ 10000000
/-- What the program takes. -/
def SpI (len : Nat) (c : Nat → C3) (d u tot frm tu dim : Int) (n : Nat) (x y : Nat → Int) : Prop := DivP x y n ∧ Sh.ShOk tot n (dW x y) ∧ ∀ i, i < n → enB len c d u (spE frm tu dim y (Sh.shV tot n (dW x y)) i) = true
/-- What the model takes. -/
def PdP (x y : Nat → Int) (n : Nat) : Prop := ∀ j, j < n → (0 ≤ y j ∧ y j ≤ 40000) ∧ (-10000000 ≤ x j ∧ x j ≤ 40000) ∧ x j ≤ y j
def SpS (len : Nat) (c : Nat → C3) (d u tot frm tu dim : Int) (n : Nat) (x y : Nat → Int) : Prop := PdP x y n ∧ Sh.ShOk tot n (wt x y) ∧ ∀ i, i < n → enB len c d u (spE frm tu dim y (Sh.shV tot n (wt x y)) i) = true
theorem wrap_bd (x : Int) : -9223372036854775808 ≤ wrap64 x ∧ wrap64 x ≤ 9223372036854775807 := by unfold wrap64; omega
theorem dW_of {x y : Int} (hx : -9223372036854775808 ≤ x ∧ x ≤ 9223372036854775807) (hy : 0 ≤ y ∧ y ≤ 40000) (h : 1 ≤ wrap64 (wrap64 (y - x) + 1) ∧ wrap64 (wrap64 (y - x) + 1) ≤ 10000000) : wrap64 (wrap64 (y - x) + 1) = y - x + 1 := by
  unfold wrap64 at *
  omega
theorem wt_of {x y : Int} (hy : 0 ≤ y ∧ y ≤ 40000) (hx : -10000000 ≤ x ∧ x ≤ 40000) : wrap64 (wrap64 (y - x) + 1) = y - x + 1 := by
  unfold wrap64
  omega
theorem sp_iff {len : Nat} {c : Nat → C3} {d u tot frm tu dim : Int} {n : Nat} {x y : Nat → Int} (hx : ∀ j, -9223372036854775808 ≤ x j ∧ x j ≤ 9223372036854775807) (h0 : ∀ j, n ≤ j → x j = 0 ∧ y j = 0) : (SpI len c d u tot frm tu dim n x y ↔ SpS len c d u tot frm tu dim n x y) ∧ (SpI len c d u tot frm tu dim n x y → dW x y = wt x y) := by
  have z0 : ∀ j, n ≤ j → dW x y j = wt x y j := fun j hj => by
    obtain ⟨a, b⟩ := h0 j hj
    unfold dW wt; rw [a, b]; unfold wrap64; omega
  have e1 : SpI len c d u tot frm tu dim n x y → dW x y = wt x y := fun h => by
    funext j
    by_cases hj : j < n
    · have hd := (enB_out (h.2.2 j hj)).2.1
      exact dW_of (hx j) hd (h.1 j hj)
    · exact z0 j (by omega)
  have e2 : SpS len c d u tot frm tu dim n x y → dW x y = wt x y := fun h => by
    funext j
    by_cases hj : j < n
    · have hd := h.1 j hj
      exact wt_of hd.1 hd.2.1
    · exact z0 j (by omega)
  refine ⟨⟨fun h => ?_, fun h => ?_⟩, e1⟩
  · have e := e1 h
    obtain ⟨a, b, c'⟩ := h
    rw [e] at b c'
    refine ⟨fun j hj => ?_, b, c'⟩
    have hd : 0 ≤ y j ∧ y j ≤ 40000 := (enB_out (c' j hj)).2.1
    have hw := a j hj
    rw [e] at hw
    unfold wt at hw
    omega
  · have e := e2 h
    obtain ⟨a, b, c'⟩ := h
    refine ⟨fun j hj => ?_, e ▸ b, e ▸ c'⟩
    have hw := b.2.2.1 j hj
    have ha := a j hj
    rw [e]
    unfold wt at hw ⊢
    omega

theorem isDivisor_any (x : Int) (w : World) : Calls Tryd.prog 138 #[.int .i64 x] w fun e w' => e = .returned (.bool (inB x 1 10000000)) ∧ w' = w := by
  by_cases h1 : 1 ≤ x
  · by_cases h2 : x ≤ 10000000
    · rw [inB_iff.2 ⟨h1, h2⟩]
      go_enter Tryd.func138, Tryd.ntmps138
      go_wp2
      go_returns
      exact ⟨rfl, rfl⟩
    · rw [inB_f (fun q => h2 q.2)]
      go_enter Tryd.func138, Tryd.ntmps138
      go_wp2
      go_returns
      exact ⟨rfl, rfl⟩
  · rw [inB_f (fun q => h1 q.1)]
    go_enter Tryd.func138, Tryd.ntmps138
    go_wp2
    go_returns
    exact ⟨rfl, rfl⟩
theorem set_ne'' {cs : Array Value} {i j : Nat} {v : Value} (h : i ≠ j) : (cs.setIfInBounds i v)[j]? = cs[j]? := by rw [Array.getElem?_setIfInBounds, if_neg h]
theorem set_eq'' {cs : Array Value} {i : Nat} {v : Value} (h : i < cs.size) : (cs.setIfInBounds i v)[i]? = some v := by rw [Array.getElem?_setIfInBounds, if_pos rfl, if_pos h]
open Classical in
noncomputable def dN (x y : Nat → Int) (n : Nat) : Nat := if DivP x y n then n else 0
theorem dN_t {x y : Nat → Int} {n : Nat} (h : DivP x y n) : dN x y n = n := if_pos h
theorem dN_f {x y : Nat → Int} {n : Nat} (h : ¬ DivP x y n) : dN x y n = 0 := if_neg h

set_option maxRecDepth 20000 in
set_option maxHeartbeats 4000000 in
theorem daysOf_any (ad : Option Addr) (n cap : Nat) (x y : Nat → Int) (w : World) (hn : (n : Int) ≤ 1048576) (hr : PR w ad n x y) :
    Calls Tryd.prog 91 #[.slice ad n cap] w fun e w' => ∃ a c, e = .returned (.slice a (dN x y n) c) ∧ Sh.IR w' a (dN x y n) (dW x y) ∧ Below w.heap.size w w' := by
  have HR : Hid (PR w ad n x y) := hr
  have hmk := Sh.mkI n hn
  clear hr
  go_enter Tryd.func91, Tryd.ntmps91
  go_wp2
  go_loopw [11] (fun i wr => ∃ (k : Nat) (cs : Array Value), k ≤ n ∧ i = .int .i64 (k : Int) ∧ CB wr w.heap.size cs 3 ∧ cs.size = n ∧ (∀ j, j < k → cs[j]? = some (.int .i64 (dW x y j)) ∧ 1 ≤ dW x y j ∧ dW x y j ≤ 10000000) ∧ Below w.heap.size w wr) (fun i _ => n - (intOf i).toNat)
  case atStart => exact ⟨0, Sh.zeros n, Nat.zero_le _, rfl, CB.new _ _, Sh.zeros_size _, fun j hj => by omega, (Below.refl _ _).alloc (Nat.le_refl _) _⟩
  case round =>
    obtain ⟨k, cs, hk, rfl, hC, hsz, hcs, hB⟩ := hrel
    by_cases hlt : k < n
    · obtain ⟨kb, off, rfl, hkb⟩ := HR.out.addr (by omega)
      obtain ⟨c1, c2⟩ := (HR.out.below hB).cell hlt
      obtain ⟨v1, d1⟩ : ∃ v, cs[k]? = some v := ⟨cs[k]'(by omega), Array.getElem?_eq_getElem (by omega)⟩
      have x1 := (hC.cell k).trans d1
      have f1 := hC.fr k
      have hl1 := hC.lt
      have hne : w.heap.size ≠ wr.heap.size := by omega
      have hne2 : wr.heap.size ≠ w.heap.size := by omega
      have hlti : (k : Int) < (n : Int) := by omega
      obtain ⟨X, hX⟩ : ∃ X, x k = X := ⟨_, rfl⟩
      obtain ⟨Y, hY⟩ : ∃ Y, y k = Y := ⟨_, rfl⟩
      obtain ⟨D, hD⟩ : ∃ D, wrap64 (wrap64 (Y - X) + 1) = D := ⟨_, rfl⟩
      have HD : Hid (dW x y k = D) := by show dW x y k = D; unfold dW; rw [hX, hY, hD]
      rw [hX] at c1
      rw [hY] at c2
      have HC : Hid (CB wr w.heap.size cs 3) := hC
      have HS : Hid (cs.size = n) := hsz
      have HCS : Hid (∀ j, j < k → cs[j]? = some (.int .i64 (dW x y j)) ∧ 1 ≤ dW x y j ∧ dW x y j ≤ 10000000) := hcs
      have HB : Hid (Below w.heap.size w wr) := hB
      clear hX hY hC hsz hcs hB
      by_cases hdv : 1 ≤ D ∧ D ≤ 10000000
      · have hb := inB_iff.2 hdv
        have HDV : Hid (1 ≤ D ∧ D ≤ 10000000) := hdv
        clear hdv
        go_wp2_with (go_at_call 138; refine (isDivisor_any _ _).mono ?_; rintro e w1 ⟨rfl, ew⟩; replace ew := ew.symm; subst ew; first | rw [hb] | (rw [hD, hb]))
        go_roundw
        case rel =>
          refine ⟨k + 1, _, by omega, by go_num, (HC.out.set k (.int .i64 D)).alloc _, by simpa using HS.out, fun j hj => ?_, (HB.out.setCell (p := ⟨w.heap.size, k, none⟩) (by simp) _).alloc (by simpa [World.setCell] using HB.out.size) _⟩
          by_cases e : j = k
          · subst e
            rw [HD.out]
            exact ⟨set_eq'' (by have := HS.out; omega), HDV.out⟩
          · have hq := HCS.out j (by omega)
            exact ⟨(set_ne'' (by omega)).trans hq.1, hq.2⟩
        case measure => simp [intOf]; omega
      · have hb := inB_f hdv
        have HND : Hid (¬ DivP x y n) := fun q => hdv (by have := q k hlt; rw [HD.out] at this; exact this)
        clear hdv
        go_wp2_with (go_at_call 138; refine (isDivisor_any _ _).mono ?_; rintro e w1 ⟨rfl, ew⟩; replace ew := ew.symm; subst ew; first | rw [hb] | (rw [hD, hb]))
        go_returns
        rw [dN_f HND.out]
        have hB := HB.out
        exact ⟨_, _, rfl, .inl rfl, ((hB.setCell (p := ⟨w.heap.size, k, none⟩) (by simp) _).alloc (by simpa [World.setCell] using hB.size) _).alloc (by have := hB.size; simp [World.setCell] <;> omega) _⟩
    · obtain rfl : k = n := by omega
      have HI : Hid (DivP x y k ∧ Sh.IR wr (some ⟨w.heap.size, 0, none⟩) k (dW x y)) := ⟨fun j hj => (hcs j hj).2, Sh.IR.of_block hC k _ (fun j hj => (hcs j hj).1)⟩
      have HB : Hid (Below w.heap.size w wr) := hB
      clear hC hcs hB
      go_wp2
      go_returns
      rw [dN_t HI.out.1]
      exact ⟨_, _, rfl, HI.out.2, HB.out⟩
end Go.Proofs.YtgnhpjlfdkpaiaaDoor

namespace Go.Proofs.YtgnhpjlfdkpaiaaDoor
open Go Go.ChangeShapes Go.WideShapes Go.ChangeAt Go.RowKit
set_option linter.unusedVariables false
set_option linter.unusedSimpArgs false

theorem ownLine_any (a dm s : Int) (w : World) : Calls Tryd.prog 92 #[.int .i64 a, .int .i64 dm, .int .i64 s] w fun e w' => e = .returned (.agg #[.int .i64 a, .int .i64 dm, .int .i64 0, .int .i64 s, .int .i64 s]) ∧ Below w.heap.size w w' := by
  go_enter Tryd.func92, Tryd.ntmps92
  go_wp2
  go_returns
  exact ⟨rfl, by go_grown⟩
open Classical in
noncomputable def spN (len : Nat) (c : Nat → C3) (d u tot frm tu dim : Int) (n : Nat) (x y : Nat → Int) : Nat := if SpI len c d u tot frm tu dim n x y then n else 0
theorem spN_t {len : Nat} {c : Nat → C3} {d u tot frm tu dim : Int} {n : Nat} {x y : Nat → Int} (h : SpI len c d u tot frm tu dim n x y) : spN len c d u tot frm tu dim n x y = n := if_pos h
theorem spN_f {len : Nat} {c : Nat → C3} {d u tot frm tu dim : Int} {n : Nat} {x y : Nat → Int} (h : ¬ SpI len c d u tot frm tu dim n x y) : spN len c d u tot frm tu dim n x y = 0 := if_neg h
/-- What Spread tells. -/
def SpP (M : Nat) (E : Nat → E4) (w : World) (e : Ending) (w' : World) : Prop := ∃ ad cap, e = .returned (.slice ad M cap) ∧ NewE w.heap.size w'.heap.size w' ad M E 32 56 ∧ Below w.heap.size w w'
/-- The entries that are made, behind the world v. -/
structure SI (v : World) (n k : Nat) (E : Nat → E4) (bl : Nat → Nat) (W : World) : Prop where
  own : OwnE W v.heap.size n k E bl 32 56
  blo : ∀ j, j < k → v.heap.size < bl j
  bel : Below v.heap.size v W
section
variable {v W W' : World} {n k : Nat} {E : Nat → E4} {bl : Nat → Nat}
theorem SI.below (h : SI v n k E bl W) (b : Below W.heap.size W W') : SI v n k E bl W' := ⟨h.own.keep b, h.blo, bel_on h.bel b⟩
theorem SI.lt (h : SI v n k E bl W) : v.heap.size < W.heap.size := by obtain ⟨cs, h', _⟩ := h.own.main; exact h'.lt
end
theorem two_own {w : World} {frm tu dim s : Int} : OwnL (w.alloc (.cells #[.int .i64 tu, .int .i64 dim, .int .i64 0, .int .i64 s, .int .i64 s, .int .i64 frm, .int .i64 dim, .int .i64 0, .int .i64 (-s), .int .i64 (-s)] 56 (0, 0))) w.heap.size 2 (spL frm tu dim s) 56 := by
  refine ⟨_, CB.new _ _, rfl, fun i hi => ?_⟩
  rcases (by omega : i = 0 ∨ i = 1) with rfl | rfl
  · exact ⟨rfl, rfl, rfl, rfl, rfl⟩
  · exact ⟨rfl, rfl, rfl, rfl, rfl⟩
theorem sh0 {tot : Int} {n : Nat} {x y : Nat → Int} (h : ¬ (DivP x y n ∧ Sh.ShOk tot n (dW x y))) : Sh.shM tot (dN x y n) (dW x y) = 0 := by
  by_cases hd : DivP x y n
  · rw [dN_t hd]; exact Sh.shM_no (fun q => h ⟨hd, q⟩)
  · rw [dN_f hd]; exact Sh.shM_no (fun q => by have := q.2.2.2; simp [Sh.sm] at this)

set_option maxRecDepth 20000 in
set_option maxHeartbeats 4000000 in
theorem implSpread_any (fa : Option Addr) (len cap : Nat) (c : Nat → C3) (d u tot frm tu dim : Int) (ad : Option Addr) (n lcap : Nat) (x y : Nat → Int) (w : World) (hl : (len : Int) ≤ 1048576) (hc : ∀ j, (c j).code.size ≤ maxLen) (hr : CR w fa len c) (hE : EL w) (hn : (n : Int) ≤ 1048576) (hp : PR w ad n x y) :
    Calls Tryd.prog 26 #[.agg #[.slice fa len cap, .int .i64 d, .int .i64 u], .int .i64 tot, .int .i64 frm, .int .i64 tu, .int .i64 dim, .slice ad n lcap] w (SpP (spN len c d u tot frm tu dim n x y) (spE frm tu dim y (Sh.shV tot n (dW x y))) w) := by
  have HC : Hid (∀ j, (c j).code.size ≤ maxLen) := hc
  have HR : Hid (CR w fa len c) := hr
  have HE : Hid (EL w) := hE
  have HP : Hid (PR w ad n x y) := hp
  clear hc hr hE hp
  by_cases hok : DivP x y n ∧ Sh.ShOk tot n (dW x y)
  case neg =>
    have HN : Hid (spN len c d u tot frm tu dim n x y = 0) := spN_f (fun q => hok ⟨q.1, q.2.1⟩)
    have HS0 : Hid (Sh.shM tot (dN x y n) (dW x y) = 0) := sh0 hok
    have hmk : ∀ w, (Instr.makeSlice 27 (.int .i64 0) (.int .i64 0)).run Tryd.prog w = .ok (.slice (some ⟨w.heap.size, 0, none⟩) 0 0) (w.alloc (.cells (zeros4e 0) 32)) := mkEntries 0 (by omega)
    have hdN : ((dN x y n : Nat) : Int) ≤ 1048576 := by unfold dN; split <;> omega
    have HdN : Hid (((dN x y n : Nat) : Int) ≤ 1048576) := hdN
    clear hok hdN
    go_enter Tryd.func26, Tryd.ntmps26
    go_wp2_with (first
      | (go_at_call 68; go_loud (refine (lay_any _ _ _ c _ _ _ hl HC.out (HR.out.alloc _) (HE.out.alloc' _)).mono ?_; rintro e w1 ⟨T, rfl, hT, b1⟩; have HB1 : Hid (Below w.heap.size w w1) := bel_on ((Below.refl _ _).alloc (Nat.le_refl _) _) b1; clear hT b1))
      | (go_at_call 91; go_loud (refine (daysOf_any _ _ _ x y _ hn ((HP.out.below HB1.out).alloc _)).mono ?_; rintro e w2 ⟨a, ca, rfl, ir, b2⟩; have HB2 : Hid (Below w.heap.size w w2) := bel_on (HB1.out.alloc HB1.out.size _) b2; have HIR : Hid (Sh.IR w2 a (dN x y n) (dW x y)) := ir; clear ir b2))
      | (go_at_call 90; go_loud (refine (Sh.implShares_any _ _ _ _ _ _ HdN.out HIR.out).mono ?_; rintro e w3 ⟨sa, sc, rfl, o3, b3⟩; have HB3 : Hid (Below w.heap.size w w3) := bel_on HB2.out b3; rw [HS0.out]; clear o3 b3)))
    have HB4 : Hid (Below w.heap.size w (w3.alloc (.cells (zeros4e 0) 32))) := HB3.out.alloc HB3.out.size _
    generalize (w3.alloc (.cells (zeros4e 0) 32)) = w4 at HB4 ⊢
    go_loopw [30] (fun v wr => v = .int .i64 0 ∧ wr = w4) (fun _ _ => 0)
    case atStart => exact ⟨rfl, rfl⟩
    case round =>
      obtain ⟨rfl, rfl⟩ := hrel
      go_wp2
      go_returns
      rw [HN.out]
      exact ⟨_, _, rfl, .inl rfl, HB4.out⟩
  case pos =>
    obtain ⟨hd, hs⟩ := hok
    have hn200 : n ≤ 200 := hs.2.1
    have hn1 : 0 < n := by
      rcases Nat.eq_zero_or_pos n with e | e
      · have := hs.2.2.2; rw [e] at this; simp [Sh.sm] at this
      · exact e
    obtain ⟨S, hS⟩ : ∃ S, Sh.shV tot n (dW x y) = S := ⟨_, rfl⟩
    have HSB : Hid (∀ j, j < n → -200000000000 ≤ S j ∧ S j ≤ 200000000000) := fun j hj => hS ▸ Sh.shV_bd hs hj
    have HSH : Hid (Sh.shM tot n (dW x y) = n) := Sh.shM_ok hs
    have HDN : Hid (dN x y n = n) := dN_t hd
    obtain ⟨E, hE⟩ : ∃ E, spE frm tu dim y S = E := ⟨_, rfl⟩
    have HEK : Hid (∀ k, E k = ⟨y k, 0, spText, 2, spL frm tu dim (S k)⟩) := fun k => by rw [← hE]; rfl
    have HNO : Hid (∀ k, k < n → enB len c d u (E k) = false → spN len c d u tot frm tu dim n x y = 0) := fun k hk h => spN_f (fun q => by have := q.2.2 k hk; rw [hS, hE, h] at this; cases this)
    have HYES : Hid ((∀ k, k < n → enB len c d u (E k) = true) → spN len c d u tot frm tu dim n x y = n) := fun h => spN_t ⟨hd, hs, fun i hi => by rw [hS, hE]; exact h i hi⟩
    have hmk := mkEntries n hn
    rw [hS, hE]
    obtain ⟨M, hM⟩ : ∃ M, spN len c d u tot frm tu dim n x y = M := ⟨_, rfl⟩
    rw [hM] at HNO HYES ⊢
    clear hd hs hM
    go_enter Tryd.func26, Tryd.ntmps26
    go_wp2_with (first
      | (go_at_call 68; go_loud (refine (lay_any _ _ _ c _ _ _ hl HC.out (HR.out.alloc _) (HE.out.alloc' _)).mono ?_; rintro e w1 ⟨T, rfl, hT, b1⟩; have HB1 : Hid (Below w.heap.size w w1) := bel_on ((Below.refl _ _).alloc (Nat.le_refl _) _) b1; have HTr : Hid (Tree w1 T len c) := hT; clear hT b1))
      | (go_at_call 91; go_loud (refine (daysOf_any _ _ _ x y _ hn ((HP.out.below HB1.out).alloc _)).mono ?_; rintro e w2 ⟨a, ca, rfl, ir, b2⟩; have HB2 : Hid (Below w.heap.size w w2) := bel_on (HB1.out.alloc HB1.out.size _) b2; have HTr2 : Hid (Tree w2 T len c) := (HTr.out.alloc _).below b2; have HX2 : Hid (CB w2 w1.heap.size #[.slice fa len cap, .int .i64 d, .int .i64 u, .pointer (some ⟨T, 0, none⟩)] 108) := (CB.new _ _).below b2 (by simp); rw [HDN.out] at ir ⊢; have HIR : Hid (Sh.IR w2 a n (dW x y)) := ir; clear ir b2))
      | (go_at_call 90; go_loud (refine (Sh.implShares_any _ _ _ _ _ _ hn HIR.out).mono ?_; rintro e w3 ⟨sa, sc, rfl, o3, b3⟩; have HB3 : Hid (Below w.heap.size w w3) := bel_on HB2.out b3; have HTr3 : Hid (Tree w3 T len c) := HTr2.out.below b3; have HX3 : Hid (CB w3 w1.heap.size #[.slice fa len cap, .int .i64 d, .int .i64 u, .pointer (some ⟨T, 0, none⟩)] 108) := HX2.out.below b3 HX2.out.lt; rw [HSH.out, hS] at o3; rw [HSH.out]; have HI3 : Hid (Sh.IR w3 sa n S) := Sh.row_IR o3 (fun j hj => Sh.intL_get hj); clear o3 b3)))
    have hx3 := HX3.out.lt
    have HP3 : Hid (PR w3 ad n x y) := HP.out.below HB3.out
    have H0 : Hid (SI w3 n 0 E (fun _ => 0) (w3.alloc (.cells (zeros4e n) 32))) := ⟨⟨⟨zeros4e n, CB.new _ _, zeros4e_size _, fun j hj => by omega⟩, fun j hj => by omega, fun j hj => by omega, fun i j hi => by omega⟩, fun j hj => by omega, (Below.refl _ _).alloc (Nat.le_refl _) _⟩
    generalize (w3.alloc (.cells (zeros4e n) 32)) = w4 at H0 ⊢
    obtain ⟨B, hB⟩ : ∃ B, w3.heap.size = B := ⟨_, rfl⟩
    obtain ⟨p13, hp13⟩ : ∃ p13, w1.heap.size = p13 := ⟨_, rfl⟩
    have HBs : Hid (w3.heap.size = B) := hB
    rw [hp13] at HX3 hx3 ⊢
    rw [hB] at hx3 ⊢
    have hp13B : p13 ≠ B := by omega
    clear HB1 HB2 HTr HTr2 HX2 HIR hB hp13 hmk hS hE HP HR HE HC
    go_loopw [30] (fun v wr => ∃ (k : Nat) (bl : Nat → Nat), v = .int .i64 (k : Int) ∧ k ≤ n ∧ (∀ j, j < k → enB len c d u (E j) = true) ∧ Hid (SI w3 n k E bl wr)) (fun v _ => n - (intOf v).toNat)
    case atStart => exact ⟨0, _, rfl, Nat.zero_le _, fun j hj => by omega, H0⟩
    case round =>
      clear H0
      obtain ⟨k, bl, rfl, hk, hen, HV⟩ := hrel
      have HEN : Hid (∀ j, j < k → enB len c d u (E j) = true) := hen
      clear hen
      by_cases hkn : k < n
      · have hkni : (k : Int) < (n : Int) := by omega
        obtain ⟨kb, off, rfl, _⟩ := HP3.out.addr hn1
        obtain ⟨sb, soff, rfl, _⟩ := HI3.out.addr hn1
        have hsk := (HI3.out.below HV.out.bel).cell hkn
        obtain ⟨Y, hY⟩ : ∃ Y, y k = Y := ⟨_, rfl⟩
        obtain ⟨s, hs⟩ : ∃ s, S k = s := ⟨_, rfl⟩
        have hsb := HSB.out k hkn
        rw [hs] at hsk hsb
        obtain ⟨sb1, sb2⟩ := hsb
        have HEk : Hid (E k = ⟨Y, 0, spText, 2, spL frm tu dim s⟩) := by have := HEK.out k; rw [hY, hs] at this; exact this
        have HYk : Hid (y k = Y) := hY
        obtain ⟨v0, hv0⟩ : ∃ v0, v0 = wr := ⟨_, rfl⟩
        subst hv0
        clear hY hs
        have tok1 : True := trivial
        go_wp2_with (first
          | (go_at_call 92; clear tok1; refine (ownLine_any _ _ _ _).mono ?_; rintro e w5 ⟨rfl, b5⟩; have HV5 : Hid (SI w3 n k E bl w5) := HV.out.below b5; clear b5)
          | (go_at_call 92; refine (ownLine_any _ _ _ _).mono ?_; rintro e w6 ⟨rfl, b6⟩; have HV6 : Hid (SI w3 n k E bl w6) := HV5.out.below b6; have hyk := ((HP3.out.below (bel_on HV6.out.bel ((Below.refl _ _).alloc (Nat.le_refl _) (.cells #[.int .i64 tu, .int .i64 dim, .int .i64 0, .int .i64 s, .int .i64 s, .int .i64 frm, .int .i64 dim, .int .i64 0, .int .i64 (-s), .int .i64 (-s)] 56 (0, 0))))).cell hkn).2; rw [HYk.out] at hyk; obtain ⟨cs, hC, hsz, _⟩ := HV6.out.own.main; rw [HBs.out] at hC; obtain ⟨v1, d1⟩ : ∃ v, cs[k * 4]? = some v := ⟨cs[k * 4]'(by omega), Array.getElem?_eq_getElem (by omega)⟩; obtain ⟨v2, d2⟩ : ∃ v, cs[k * 4 + 1]? = some v := ⟨cs[k * 4 + 1]'(by omega), Array.getElem?_eq_getElem (by omega)⟩; obtain ⟨v3, d3⟩ : ∃ v, cs[k * 4 + 2]? = some v := ⟨cs[k * 4 + 2]'(by omega), Array.getElem?_eq_getElem (by omega)⟩; obtain ⟨v4, d4⟩ : ∃ v, cs[k * 4 + 3]? = some v := ⟨cs[k * 4 + 3]'(by omega), Array.getElem?_eq_getElem (by omega)⟩; have x1 := (hC.cell (k * 4)).trans d1; have x2 := (hC.cell (k * 4 + 1)).trans d2; have x3 := (hC.cell (k * 4 + 2)).trans d3; have x4 := (hC.cell (k * 4 + 3)).trans d4; have f1 := hC.fr (k * 4); have f2 := hC.fr (k * 4 + 1); have f3 := hC.fr (k * 4 + 2); have f4 := hC.fr (k * 4 + 3); have hBl : B < w6.heap.size := hC.lt; have hBne : B ≠ w6.heap.size := (by omega); have hneB : w6.heap.size ≠ B := (by omega); clear b6 hC hsz))
        have eW : (((((w6.alloc (.cells #[.int .i64 tu, .int .i64 dim, .int .i64 0, .int .i64 s, .int .i64 s, .int .i64 frm, .int .i64 dim, .int .i64 0, .int .i64 (-s), .int .i64 (-s)] 56 (0, 0))).setCell ⟨B, k * 4, none⟩ (.int .i64 Y)).setCell ⟨B, k * 4 + 1, none⟩ (.int .i64 0)).setCell ⟨B, k * 4 + 2, none⟩ (.string ⟨#[115, 112, 114, 101, 97, 100]⟩)).setCell ⟨B, k * 4 + 3, none⟩ (.slice (some ⟨w6.heap.size, 0, none⟩) 2 2)) = (((((w6.setCell ⟨B, k * 4, none⟩ (.int .i64 Y)).setCell ⟨B, k * 4 + 1, none⟩ (.int .i64 0)).setCell ⟨B, k * 4 + 2, none⟩ (.string ⟨#[115, 112, 114, 101, 97, 100]⟩)).setCell ⟨B, k * 4 + 3, none⟩ (.slice (some ⟨w6.heap.size, 0, none⟩) 2 2)).alloc (.cells #[.int .i64 tu, .int .i64 dim, .int .i64 0, .int .i64 s, .int .i64 s, .int .i64 frm, .int .i64 dim, .int .i64 0, .int .i64 (-s), .int .i64 (-s)] 56 (0, 0))) := by
          rw [World.setCell_alloc_past _ _ _ _ hBl, World.setCell_alloc_past _ _ _ _ (by simpa [World.setCell] using hBl), World.setCell_alloc_past _ _ _ _ (by simpa [World.setCell] using hBl), World.setCell_alloc_past _ _ _ _ (by simpa [World.setCell] using hBl)]
        have HN0 : Hid (SI w3 n (k + 1) E (fun j => if j = k then w6.heap.size else bl j) (((((w6.alloc (.cells #[.int .i64 tu, .int .i64 dim, .int .i64 0, .int .i64 s, .int .i64 s, .int .i64 frm, .int .i64 dim, .int .i64 0, .int .i64 (-s), .int .i64 (-s)] 56 (0, 0))).setCell ⟨B, k * 4, none⟩ (.int .i64 Y)).setCell ⟨B, k * 4 + 1, none⟩ (.int .i64 0)).setCell ⟨B, k * 4 + 2, none⟩ (.string ⟨#[115, 112, 114, 101, 97, 100]⟩)).setCell ⟨B, k * 4 + 3, none⟩ (.slice (some ⟨w6.heap.size, 0, none⟩) 2 2))) := by
          have h6 := HV6.out.below ((Below.refl _ _).alloc (Nat.le_refl _) (.cells #[.int .i64 tu, .int .i64 dim, .int .i64 0, .int .i64 s, .int .i64 s, .int .i64 frm, .int .i64 dim, .int .i64 0, .int .i64 (-s), .int .i64 (-s)] 56 (0, 0)))
          have ek := HEk.out
          have hst := h6.own.step hkn (b := w6.heap.size) (by rw [ek]; exact two_own) (by rw [HBs.out]; omega) (fun j hj => by have := (HV6.out.own.own j hj).lt; omega)
          rw [ek, HBs.out] at hst
          have hb3 : w3.heap.size ≤ B := by rw [HBs.out]; exact Nat.le_refl _
          refine ⟨?_, fun j hj => ?_, (((h6.bel.setCell (p := ⟨B, k * 4, none⟩) hb3 _).setCell (p := ⟨B, k * 4 + 1, none⟩) hb3 _).setCell (p := ⟨B, k * 4 + 2, none⟩) hb3 _).setCell (p := ⟨B, k * 4 + 3, none⟩) hb3 _⟩
          · rw [HBs.out]; exact hst
          · rw [HBs.out]
            by_cases e : j = k
            · rw [if_pos e]; exact hBl
            · rw [if_neg e]; have := HV6.out.blo j (by omega); rw [HBs.out] at this; exact this
        rw [eW] at HN0
        have hl0 : LR (((((w6.setCell ⟨B, k * 4, none⟩ (.int .i64 Y)).setCell ⟨B, k * 4 + 1, none⟩ (.int .i64 0)).setCell ⟨B, k * 4 + 2, none⟩ (.string ⟨#[115, 112, 114, 101, 97, 100]⟩)).setCell ⟨B, k * 4 + 3, none⟩ (.slice (some ⟨w6.heap.size, 0, none⟩) 2 2)).alloc (.cells #[.int .i64 tu, .int .i64 dim, .int .i64 0, .int .i64 s, .int .i64 s, .int .i64 frm, .int .i64 dim, .int .i64 0, .int .i64 (-s), .int .i64 (-s)] 56 (0, 0))) (some ⟨w6.heap.size, 0, none⟩) 2 (spL frm tu dim s) := by
          have h := (HN0.out.own.own k (by omega)).row
          rw [HEk.out] at h
          simpa using h
        have HL0 : Hid (LR (((((w6.setCell ⟨B, k * 4, none⟩ (.int .i64 Y)).setCell ⟨B, k * 4 + 1, none⟩ (.int .i64 0)).setCell ⟨B, k * 4 + 2, none⟩ (.string ⟨#[115, 112, 114, 101, 97, 100]⟩)).setCell ⟨B, k * 4 + 3, none⟩ (.slice (some ⟨w6.heap.size, 0, none⟩) 2 2)).alloc (.cells #[.int .i64 tu, .int .i64 dim, .int .i64 0, .int .i64 s, .int .i64 s, .int .i64 frm, .int .i64 dim, .int .i64 0, .int .i64 (-s), .int .i64 (-s)] 56 (0, 0))) (some ⟨w6.heap.size, 0, none⟩) 2 (spL frm tu dim s)) := hl0
        have hcc : (((((w6.setCell ⟨B, k * 4, none⟩ (.int .i64 Y)).setCell ⟨B, k * 4 + 1, none⟩ (.int .i64 0)).setCell ⟨B, k * 4 + 2, none⟩ (.string ⟨#[115, 112, 114, 101, 97, 100]⟩)).setCell ⟨B, k * 4 + 3, none⟩ (.slice (some ⟨w6.heap.size, 0, none⟩) 2 2)).alloc (.cells #[.int .i64 tu, .int .i64 dim, .int .i64 0, .int .i64 s, .int .i64 s, .int .i64 frm, .int .i64 dim, .int .i64 0, .int .i64 (-s), .int .i64 (-s)] 56 (0, 0))).cell? ⟨B, k * 4, none⟩ = some (.int .i64 Y) ∧ (((((w6.setCell ⟨B, k * 4, none⟩ (.int .i64 Y)).setCell ⟨B, k * 4 + 1, none⟩ (.int .i64 0)).setCell ⟨B, k * 4 + 2, none⟩ (.string ⟨#[115, 112, 114, 101, 97, 100]⟩)).setCell ⟨B, k * 4 + 3, none⟩ (.slice (some ⟨w6.heap.size, 0, none⟩) 2 2)).alloc (.cells #[.int .i64 tu, .int .i64 dim, .int .i64 0, .int .i64 s, .int .i64 s, .int .i64 frm, .int .i64 dim, .int .i64 0, .int .i64 (-s), .int .i64 (-s)] 56 (0, 0))).cell? ⟨B, k * 4 + 1, none⟩ = some (.int .i64 0) ∧ (((((w6.setCell ⟨B, k * 4, none⟩ (.int .i64 Y)).setCell ⟨B, k * 4 + 1, none⟩ (.int .i64 0)).setCell ⟨B, k * 4 + 2, none⟩ (.string ⟨#[115, 112, 114, 101, 97, 100]⟩)).setCell ⟨B, k * 4 + 3, none⟩ (.slice (some ⟨w6.heap.size, 0, none⟩) 2 2)).alloc (.cells #[.int .i64 tu, .int .i64 dim, .int .i64 0, .int .i64 s, .int .i64 s, .int .i64 frm, .int .i64 dim, .int .i64 0, .int .i64 (-s), .int .i64 (-s)] 56 (0, 0))).cell? ⟨B, k * 4 + 2, none⟩ = some (.string ⟨#[115, 112, 114, 101, 97, 100]⟩) ∧ (((((w6.setCell ⟨B, k * 4, none⟩ (.int .i64 Y)).setCell ⟨B, k * 4 + 1, none⟩ (.int .i64 0)).setCell ⟨B, k * 4 + 2, none⟩ (.string ⟨#[115, 112, 114, 101, 97, 100]⟩)).setCell ⟨B, k * 4 + 3, none⟩ (.slice (some ⟨w6.heap.size, 0, none⟩) 2 2)).alloc (.cells #[.int .i64 tu, .int .i64 dim, .int .i64 0, .int .i64 s, .int .i64 s, .int .i64 frm, .int .i64 dim, .int .i64 0, .int .i64 (-s), .int .i64 (-s)] 56 (0, 0))).cell? ⟨B, k * 4 + 3, none⟩ = some (.slice (some ⟨w6.heap.size, 0, none⟩) 2 2) := by
          obtain ⟨cs2, hC2, _, hcs2⟩ := HN0.out.own.main
          have h4 := hcs2 k (by omega)
          rw [HEk.out] at h4
          rw [HBs.out] at hC2
          obtain ⟨g1, g2, g3, g4⟩ := h4
          exact ⟨(hC2.cell _).trans g1, (hC2.cell _).trans g2, (hC2.cell _).trans g3, (hC2.cell _).trans (by simpa using g4)⟩
        obtain ⟨q6, hq6⟩ : ∃ q6, w6.heap.size = q6 := ⟨_, rfl⟩
        rw [hq6] at HL0 hcc
        have HN1 : Hid (SI w3 n (k + 1) E (fun j => if j = k then q6 else bl j) (((((w6.setCell ⟨B, k * 4, none⟩ (.int .i64 Y)).setCell ⟨B, k * 4 + 1, none⟩ (.int .i64 0)).setCell ⟨B, k * 4 + 2, none⟩ (.string ⟨#[115, 112, 114, 101, 97, 100]⟩)).setCell ⟨B, k * 4 + 3, none⟩ (.slice (some ⟨w6.heap.size, 0, none⟩) 2 2)).alloc (.cells #[.int .i64 tu, .int .i64 dim, .int .i64 0, .int .i64 s, .int .i64 s, .int .i64 frm, .int .i64 dim, .int .i64 0, .int .i64 (-s), .int .i64 (-s)] 56 (0, 0)))) := by rw [← hq6]; exact HN0
        clear hl0 HN0 eW x1 x2 x3 x4 f1 f2 f3 f4 hyk hsk
        rw [hq6]
        rw [hq6] at HN1
        generalize (((((w6.setCell ⟨B, k * 4, none⟩ (.int .i64 Y)).setCell ⟨B, k * 4 + 1, none⟩ (.int .i64 0)).setCell ⟨B, k * 4 + 2, none⟩ (.string ⟨#[115, 112, 114, 101, 97, 100]⟩)).setCell ⟨B, k * 4 + 3, none⟩ (.slice (some ⟨q6, 0, none⟩) 2 2)).alloc (.cells #[.int .i64 tu, .int .i64 dim, .int .i64 0, .int .i64 s, .int .i64 s, .int .i64 frm, .int .i64 dim, .int .i64 0, .int .i64 (-s), .int .i64 (-s)] 56 (0, 0))) = W7 at HN1 HL0 hcc ⊢
        obtain ⟨r1, r2, r3, r4⟩ := hcc
        have HX7 : Hid (CB W7 p13 #[.slice fa len cap, .int .i64 d, .int .i64 u, .pointer (some ⟨T, 0, none⟩)] 108) := HX3.out.below HN1.out.bel HX3.out.lt
        have t1 : W7.cell? ⟨p13, 0, none⟩ = some (.slice fa len cap) := (HX7.out.cell 0).trans rfl
        have t2 : W7.cell? ⟨p13, 1, none⟩ = some (.int .i64 d) := (HX7.out.cell 1).trans rfl
        have t3 : W7.cell? ⟨p13, 2, none⟩ = some (.int .i64 u) := (HX7.out.cell 2).trans rfl
        have t4 : W7.cell? ⟨p13, 3, none⟩ = some (.pointer (some ⟨T, 0, none⟩)) := (HX7.out.cell 3).trans rfl
        have hP7 : p13 < W7.heap.size := World.block_lt_of_cell? W7 _ t1
        have hB7 : B < W7.heap.size := World.block_lt_of_cell? W7 _ r1
        have HT7 : Hid (Tree W7.drew T len c) := (HTr3.out.below HN1.out.bel).below (Below.refl _ _).drew
        have HL7 : Hid (LR W7.drew (some ⟨q6, 0, none⟩) 2 (spL frm tu dim s)) := HL0.out.below (Below.refl _ _).drew
        obtain ⟨V, hV⟩ : ∃ V, enB len c d u (E k) = V := ⟨_, rfl⟩
        have HTK : Hid (Calls Tryd.prog 70 #[.agg #[.slice fa len cap, .int .i64 d, .int .i64 u, .pointer (some ⟨T, 0, none⟩)], .agg #[.int .i64 Y, .int .i64 0, .string ⟨#[115, 112, 114, 101, 97, 100]⟩, .slice (some ⟨q6, 0, none⟩) 2 2]] W7.drew fun e w' => e = .returned (.bool V) ∧ Below W7.drew.heap.size W7.drew w') := by
          have h := takes_any fa len cap c d u T Y 0 ⟨#[115, 112, 114, 101, 97, 100]⟩ (some ⟨q6, 0, none⟩) 2 2 (spL frm tu dim s) W7.drew HT7.out HL7.out
          have e : (⟨Y, 0, ⟨#[115, 112, 114, 101, 97, 100]⟩, 2, spL frm tu dim s⟩ : E4) = E k := HEk.out.symm
          rw [e, hV] at h
          exact h
        have HVV : Hid (enB len c d u (E k) = V) := hV
        clear hV
        go_region_held3 (fun w' => w'.cell? ⟨p13, 0, none⟩ = some (.slice fa len cap) ∧ w'.cell? ⟨p13, 1, none⟩ = some (.int .i64 d) ∧ w'.cell? ⟨p13, 2, none⟩ = some (.int .i64 u) ∧ w'.cell? ⟨p13, 3, none⟩ = some (.pointer (some ⟨T, 0, none⟩)) ∧ w'.cell? ⟨B, k * 4, none⟩ = some (.int .i64 Y) ∧ w'.cell? ⟨B, k * 4 + 1, none⟩ = some (.int .i64 0) ∧ w'.cell? ⟨B, k * 4 + 2, none⟩ = some (.string ⟨#[115, 112, 114, 101, 97, 100]⟩) ∧ w'.cell? ⟨B, k * 4 + 3, none⟩ = some (.slice (some ⟨q6, 0, none⟩) 2 2))
          (refine ⟨?_, ?_, ?_, ?_, ?_, ?_, ?_, ?_⟩ <;> first | assumption | (simp [*]; done))
          (first
            | (go_at_call 70; refine HTK.out.mono ?_; rintro e w8 ⟨rfl, b8⟩; have bb : Below W7.heap.size W7 w8 := ⟨b8.os, b8.tape, b8.output, b8.size, b8.block⟩; have HN8 : Hid (SI w3 n (k + 1) E (fun j => if j = k then q6 else bl j) w8) := HN1.out.below bb; have y1 : w8.cell? ⟨p13, 0, none⟩ = some (.slice fa len cap) := (World.cell?_of_block (w := W7) (bb.block _ hP7)).trans t1; have y2 : w8.cell? ⟨p13, 1, none⟩ = some (.int .i64 d) := (World.cell?_of_block (w := W7) (bb.block _ hP7)).trans t2; have y3 : w8.cell? ⟨p13, 2, none⟩ = some (.int .i64 u) := (World.cell?_of_block (w := W7) (bb.block _ hP7)).trans t3; have y4 : w8.cell? ⟨p13, 3, none⟩ = some (.pointer (some ⟨T, 0, none⟩)) := (World.cell?_of_block (w := W7) (bb.block _ hP7)).trans t4; have y5 : w8.cell? ⟨B, k * 4, none⟩ = some (.int .i64 Y) := (World.cell?_of_block (w := W7) (bb.block _ hB7)).trans r1; have y6 : w8.cell? ⟨B, k * 4 + 1, none⟩ = some (.int .i64 0) := (World.cell?_of_block (w := W7) (bb.block _ hB7)).trans r2; have y7 : w8.cell? ⟨B, k * 4 + 2, none⟩ = some (.string ⟨#[115, 112, 114, 101, 97, 100]⟩) := (World.cell?_of_block (w := W7) (bb.block _ hB7)).trans r3; have y8 : w8.cell? ⟨B, k * 4 + 3, none⟩ = some (.slice (some ⟨q6, 0, none⟩) 2 2) := (World.cell?_of_block (w := W7) (bb.block _ hB7)).trans r4))
        cases V with
        | true =>
          go_wp2
          go_roundw
          case rel => exact ⟨k + 1, _, by go_num, by omega, fun j hj => by
            by_cases e : j = k
            · rw [e]; exact HVV.out
            · exact HEN.out j (by omega), HN8⟩
          case measure => simp [intOf]; omega
        | false =>
          go_wp2
          go_returns
          rw [HNO.out k hkn HVV.out]
          exact ⟨_, _, rfl, .inl rfl, (bel_on HB3.out HN8.out.bel).alloc (bel_on HB3.out HN8.out.bel).size _⟩
      · obtain rfl : k = n := by omega
        have lkk : ¬ (k : Int) < (k : Int) := by omega
        go_wp2
        go_returns
        rw [HYES.out HEN.out]
        have hb := HB3.out.size
        refine ⟨_, _, rfl, ?_, bel_on HB3.out HV.out.bel⟩
        have h := HV.out.own.new (lo := w.heap.size) (Nat.le_refl _) hb (fun j hj => by have := HV.out.blo j hj; omega)
        rw [HBs.out] at h
        exact h
end Go.Proofs.YtgnhpjlfdkpaiaaDoor

namespace Go.Proofs.YtgnhpjlfdkpaiaaDoor
open Go Go.ChangeShapes Go.WideShapes Go.ChangeAt Go.RowKit
set_option linter.unusedVariables false
set_option linter.unusedSimpArgs false

def SpQ (M : Nat) (E : Nat → E4) (w : World) (e : Ending) (w' : World) : Prop := ∃ ad cap, e = .returned (.slice ad M cap) ∧ ER w' ad M E ∧ Below w.heap.size w w'
/-- The weights so far. -/
structure L1 (w : World) (fa : Option Addr) (len cap : Nat) (d u : Int) (z : Nat → Int) (k : Nat) (v : Value) (W : World) : Prop where
  fr : CB W w.heap.size #[.slice fa len cap, .int .i64 d, .int .i64 u] 26
  ou : CB W (w.heap.size + 1) #[] 32
  row : W.ownsRow (w.heap.size + 1 + 1) 3 1 v k (Sh.intL z k)
  bel : Below w.heap.size w W
/-- The entries so far. -/
structure L2 (w : World) (fa : Option Addr) (len cap : Nat) (d u : Int) (pa : Option Addr) (n pc pb : Nat) (S : Nat → Int) (E : Nat → E4) (k : Nat) (v : Value) (A : Nat → Option Addr) (C : Nat → Nat) (W : World) : Prop where
  fr : CB W w.heap.size #[.slice fa len cap, .int .i64 d, .int .i64 u] 26
  se : SE W (w.heap.size + 1) 32 v k E A C
  pr : W.ownsRow pb 3 1 (.slice pa n pc) n (Sh.intL S n)
  bel : Below w.heap.size w W
section
variable {w W W' : World} {fa : Option Addr} {len cap : Nat} {d u : Int} {z : Nat → Int} {k : Nat} {v v' : Value} {pa : Option Addr} {n pc pb : Nat} {S : Nat → Int} {E : Nat → E4} {A : Nat → Option Addr} {C : Nat → Nat}
theorem L1.below (h : L1 w fa len cap d u z k v W) (b : Below W.heap.size W W') : L1 w fa len cap d u z k v W' := ⟨h.fr.below b h.fr.lt, h.ou.below b h.ou.lt, Sh.row_below h.row b, bel_on h.bel b⟩
theorem L1.grow {o : Obj} {q : Int} (h : L1 w fa len cap d u z k v W) (hq : z k = q) (hown : W'.ownsRow (w.heap.size + 1 + 1) 3 1 v' (k + 1) (Sh.intL z k ++ [.int .i64 q])) (hg : (W.alloc o).grownBy W' v.ownBlock) : L1 w fa len cap d u z (k + 1) v' W' := by
  have h1 := h.fr.lt
  have h2 := h.ou.lt
  have blk : ∀ g, g < w.heap.size + 1 + 1 → g < W.heap.size → W'.heap[g]? = W.heap[g]? := fun g e1 e2 => (hg.block g (by simp; omega) (fun e => by have := (h.row.lt g e.symm).1; omega)).trans (((Below.refl W.heap.size W).alloc (Nat.le_refl _) o).block g e2)
  refine ⟨?_, ?_, ?_, ?_⟩
  · have := h.fr; unfold CB at this ⊢; rw [blk _ (by omega) h1]; exact this
  · have := h.ou; unfold CB at this ⊢; rw [blk _ (by omega) h2]; exact this
  · rw [Sh.intL_succ, hq]; exact hown
  · exact below_grown (h.bel.alloc h.bel.size o) (Nat.le_refl _) hg (fun r e => by have := (h.row.lt r e).1; omega)
theorem L2.below (h : L2 w fa len cap d u pa n pc pb S E k v A C W) (b : Below W.heap.size W W') : L2 w fa len cap d u pa n pc pb S E k v A C W' := ⟨h.fr.below b h.fr.lt, h.se.below b, Sh.row_below h.pr b, bel_on h.bel b⟩
theorem own_ty {g1 n1 : Nat} {a1 : Value} {xs : List Value} {g2 n2 : Nat} {a2 : Value} {ys : List Value} {t2 sz2 : Nat} (h1 : W.ownsRow g1 3 1 a1 n1 xs) (h2 : W.ownsRow g2 t2 sz2 a2 n2 ys) (ht : (3 : Nat) ≠ t2) {g : Nat} (e1 : a1.ownBlock = some g) : some g ≠ a2.ownBlock := by
  intro e2
  rcases h1.2 with ⟨rfl, _⟩ | ⟨g1', c1, cur1, rfl, _, q1, _⟩
  · cases e1
  · rcases h2.2 with ⟨rfl, _⟩ | ⟨g2', c2, cur2, rfl, _, q2, _⟩
    · cases e2
    · simp only [Value.ownBlock, Option.some.injEq] at e1 e2
      subst e1
      rw [← e2] at q2
      rw [q1] at q2
      simp at q2
      exact ht q2.2
theorem L2.grow {b c : Nat} {o : Obj} (h : L2 w fa len cap d u pa n pc pb S E k v A C W) (hl : LR W (some ⟨b, 0, none⟩) (E k).n (E k).ls) (hb : w.heap.size + 1 ≤ b ∧ some b ≠ v.ownBlock) (hown : W'.ownsRow (w.heap.size + 1) 32 4 v' (k + 1) (flE E A C k ++ cellsE (E k) (some ⟨b, 0, none⟩) c)) (hg : (W.alloc o).grownBy W' v.ownBlock) (hat : v'.ownBlock = v.ownBlock ∨ v'.ownBlock = some (W.alloc o).heap.size) :
    L2 w fa len cap d u pa n pc pb S E (k + 1) v' (fun j => if j = k then some ⟨b, 0, none⟩ else A j) (fun j => if j = k then c else C j) W' := by
  have h1 := h.fr.lt
  have bb : Below W.heap.size W (W.alloc o) := (Below.refl _ _).alloc (Nat.le_refl _) o
  refine ⟨?_, (h.se.below bb).snoc (hl.below bb) (.inr (fun b2 o2 q e => by cases e; exact ⟨hb.2, hb.1⟩)) hown hg hat, ?_, ?_⟩
  · have := h.fr; unfold CB at this ⊢
    rw [(hg.block _ (by simp; omega) (fun e => by have := (h.se.lt _ e.symm).1; omega)).trans (bb.block _ h1)]; exact this
  · exact Sh.row_block h.pr (fun g hg2 => (hg.block g (by have := (h.pr.lt g hg2).2; simp; omega) (own_ty h.pr h.se.1 (by decide) hg2)).trans (bb.block g (h.pr.lt g hg2).2))
  · exact below_grown (h.bel.alloc h.bel.size o) (Nat.le_refl _) hg (fun r e => by have := (h.se.lt r e).1; omega)
end
theorem l2Day_eq {x : Int} {V : Bool} (w : World) (h : inB x 0 40000 = V) : Calls Tryd.prog 83 #[.int .i64 x] w fun e w' => e = .returned (.bool V) ∧ w' = w := h ▸ l2Day_any x w
theorem l1In_t {x lo hi : Int} (w : World) (h : lo ≤ x ∧ x ≤ hi) : Calls Tryd.prog 82 #[.int .i64 x, .int .i64 lo, .int .i64 hi] w fun e w' => e = .returned (.bool true) ∧ w' = w := in_yes x lo hi w h.1 h.2
theorem two_news (frm tu dim s : Int) : [Value.int .i64 tu, .int .i64 dim, .int .i64 0, .int .i64 s, .int .i64 s, .int .i64 frm, .int .i64 dim, .int .i64 0, .int .i64 (-s), .int .i64 (-s)] = rowC (spL frm tu dim s) 2 := rfl
theorem new_two {W : World} {base : Nat} {v : Value} {frm tu dim s : Int} (h : W.ownsRow base 56 5 v (0 + 2) ([] ++ [Value.int .i64 tu, .int .i64 dim, .int .i64 0, .int .i64 s, .int .i64 s, .int .i64 frm, .int .i64 dim, .int .i64 0, .int .i64 (-s), .int .i64 (-s)])) : ∃ g cp, v = .slice (some ⟨g, 0, none⟩) 2 cp ∧ base ≤ g ∧ LR W (some ⟨g, 0, none⟩) 2 (spL frm tu dim s) := by
  rcases h.2 with ⟨_, e⟩ | ⟨g, cp, cur, e, hb, hg, _, _, _, ht⟩
  · simp at e
  · refine ⟨g, cp, e, hb, ?_⟩
    rw [List.nil_append, two_news] at ht
    exact LR.of_take hg ht

set_option maxRecDepth 20000 in
set_option maxHeartbeats 8000000 in
theorem specSpread_any (fa : Option Addr) (len cap : Nat) (c : Nat → C3) (d u tot frm tu dim : Int) (ad : Option Addr) (n lcap : Nat) (x y : Nat → Int) (w : World) (hl : (len : Int) ≤ 1048576) (hc : ∀ j, (c j).code.size ≤ maxLen) (hr : CR w fa len c) (hn : (n : Int) ≤ 1048576) (hp : PR w ad n x y) (hx : ∀ j, -9223372036854775808 ≤ x j ∧ x j ≤ 9223372036854775807) (h0 : ∀ j, n ≤ j → x j = 0 ∧ y j = 0) :
    Calls Tryd.prog 27 #[.agg #[.slice fa len cap, .int .i64 d, .int .i64 u], .int .i64 tot, .int .i64 frm, .int .i64 tu, .int .i64 dim, .slice ad n lcap] w (SpQ (spN len c d u tot frm tu dim n x y) (spE frm tu dim y (Sh.shV tot n (dW x y))) w) := by
  have HIFF := sp_iff (len := len) (c := c) (d := d) (u := u) (tot := tot) (frm := frm) (tu := tu) (dim := dim) hx h0
  have HF : Hid (¬ SpS len c d u tot frm tu dim n x y → spN len c d u tot frm tu dim n x y = 0) := fun h => spN_f (fun q => h (HIFF.1.1 q))
  have HYY : Hid (SpS len c d u tot frm tu dim n x y → spN len c d u tot frm tu dim n x y = n ∧ dW x y = wt x y) := fun h => ⟨spN_t (HIFF.1.2 h), HIFF.2 (HIFF.1.2 h)⟩
  have HC : Hid (∀ j, (c j).code.size ≤ maxLen) := hc
  have HR : Hid (CR w fa len c) := hr
  have HP : Hid (PR w ad n x y) := hp
  obtain ⟨i0, hi, hz0, hz1, hz2⟩ := Sh.info3
  obtain ⟨iL, hiL, hzL0, hzL1, hzL2⟩ := infoL
  obtain ⟨iE, hiE, hzE0, hzE1, hzE2⟩ := infoE
  have H0 : Hid (L1 w fa len cap d u (wt x y) 0 (.slice (some ⟨w.heap.size + 1 + 1, 0, none⟩) 0 0) (((w.alloc (.cells #[.slice fa len cap, .int .i64 d, .int .i64 u] 26 (0, 0))).alloc (.cells #[] 32 (0, 0))).alloc (.cells #[] 3 (0, 0)))) := ⟨((CB.new _ _).alloc _).alloc _, (CB.newAt (by simp) _ _).alloc _, ⟨rfl, .inr ⟨w.heap.size + 1 + 1, 0, #[], rfl, Nat.le_refl _, CB.newAt (by simp) _ _, Nat.le_refl _, Nat.zero_le _, rfl, rfl⟩⟩, (((Below.refl _ _).alloc (Nat.le_refl _) _).alloc (by simp) _).alloc (by simp <;> omega) _⟩
  clear hc hr hp hx h0 HIFF
  by_cases hn2 : n ≤ 200
  case neg =>
    have hn2i : (200 : Int) < (n : Int) := by omega
    have HM : Hid (spN len c d u tot frm tu dim n x y = 0) := HF.out (fun q => hn2 q.2.1.2.1)
    go_enter Tryd.func27, Tryd.ntmps27
    go_wp2
    go_returns
    rw [HM.out]
    exact ⟨_, _, rfl, .inl rfl, H0.out.bel⟩
  have hn2i : ¬ (200 : Int) < (n : Int) := by omega
  have hn9 : (n : Int) ≤ 200 := by omega
  go_enter Tryd.func27, Tryd.ntmps27
  go_wp2
  generalize (((w.alloc (.cells #[.slice fa len cap, .int .i64 d, .int .i64 u] 26 (0, 0))).alloc (.cells #[] 32 (0, 0))).alloc (.cells #[] 3 (0, 0))) = w1 at H0 ⊢
  go_loopw [14, 15] (fun u' v wr => ∃ (k : Nat) (wa : Option Addr) (wc : Nat), v = .int .i64 (k : Int) ∧ u' = .slice wa k wc ∧ k ≤ n ∧ Hid (PdP x y k) ∧ Hid (L1 w fa len cap d u (wt x y) k (.slice wa k wc) wr)) (fun _ v _ => n - (intOf v).toNat)
  case atStart => exact ⟨0, _, _, rfl, rfl, Nat.zero_le _, fun j hj => by omega, H0⟩
  case round =>
    clear H0
    obtain ⟨k, wa, wc, rfl, rfl, hk, HPD, HV⟩ := hrel
    obtain ⟨v0, hv0⟩ : ∃ v0, v0 = wr := ⟨_, rfl⟩
    subst hv0
    by_cases hkn : k < n
    · have hkni : (k : Int) < (n : Int) := by omega
      obtain ⟨kb, off, rfl, hkb⟩ := HP.out.addr (by omega)
      obtain ⟨c1, c2⟩ := (HP.out.below HV.out.bel).cell hkn
      obtain ⟨X, hX⟩ : ∃ X, x k = X := ⟨_, rfl⟩
      obtain ⟨Y, hY⟩ : ∃ Y, y k = Y := ⟨_, rfl⟩
      rw [hX] at c1
      rw [hY] at c2
      have HXk : Hid (x k = X) := hX
      have HYk : Hid (y k = Y) := hY
      have hkb2 : kb < v0.heap.size := Nat.lt_of_lt_of_le hkb HV.out.bel.size
      have HBAD : Hid (¬ ((0 ≤ Y ∧ Y ≤ 40000) ∧ (-10000000 ≤ X ∧ X ≤ 40000) ∧ X ≤ Y) → spN len c d u tot frm tu dim n x y = 0) := fun h => HF.out (fun q => h (by have := q.1 k hkn; rw [hX, hY] at this; exact this))
      clear hX hY
      by_cases hday : 0 ≤ Y ∧ Y ≤ 40000
      case neg =>
        have e1 : inB Y 0 40000 = false := inB_f hday
        have HM := HBAD.out (fun q => hday q.1)
        have HM2 : Hid (spN len c d u tot frm tu dim n x y = 0) := HM
        clear HM hday HBAD
        go_wp2
        go_quiet (first | (go_at_call 83; exact Calls.quiet_of_same (l2Day_eq _ e1)))
        go_wp2
        go_returns
        rw [HM2.out]
        exact ⟨_, _, rfl, .inl rfl, bel_on HV.out.bel (⟨rfl, rfl, rfl, Nat.le_refl _, fun _ _ => rfl⟩)⟩
      have e1 : inB Y 0 40000 = true := inB_iff.2 hday
      by_cases hfst : -10000000 ≤ X ∧ X ≤ 40000
      case neg =>
        have HM2 : Hid (spN len c d u tot frm tu dim n x y = 0) := HBAD.out (fun q => hfst q.2.1)
        have HNI : Hid (∀ W, Calls Tryd.prog 82 #[.int .i64 X, .int .i64 (-10000000), .int .i64 40000] W fun e w' => e = .returned (.bool false) ∧ w' = W) := fun W => in_no _ _ _ W hfst
        clear hfst HBAD
        go_wp2
        go_quiet (first | (go_at_call 83; exact Calls.quiet_of_same (l2Day_eq _ e1)) | (go_at_call 82; exact Calls.quiet_of_same (HNI.out _)))
        go_wp2
        go_returns
        rw [HM2.out]
        exact ⟨_, _, rfl, .inl rfl, bel_on HV.out.bel (⟨rfl, rfl, rfl, Nat.le_refl _, fun _ _ => rfl⟩)⟩
      have HNI : Hid (∀ W, Calls Tryd.prog 82 #[.int .i64 X, .int .i64 (-10000000), .int .i64 40000] W fun e w' => e = .returned (.bool true) ∧ w' = W) := fun W => in_yes _ _ _ W hfst.1 hfst.2
      by_cases hle : X ≤ Y
      case neg =>
        have hlt : decide (Y < X) = true := by simp; omega
        have HM2 : Hid (spN len c d u tot frm tu dim n x y = 0) := HBAD.out (fun q => hle q.2.2)
        clear HBAD
        go_wp2
        go_quiet (first | (go_at_call 83; exact Calls.quiet_of_same (l2Day_eq _ e1)) | (go_at_call 82; exact Calls.quiet_of_same (HNI.out _)))
        go_wp2
        go_returns
        rw [HM2.out]
        exact ⟨_, _, rfl, .inl rfl, bel_on HV.out.bel (⟨rfl, rfl, rfl, Nat.le_refl _, fun _ _ => rfl⟩)⟩
      have hlt : decide (Y < X) = false := by simp; omega
      have HPD2 : Hid (PdP x y (k + 1)) := fun j hj => by
        by_cases e : j = k
        · rw [e, HXk.out, HYk.out]; exact ⟨hday, hfst, hle⟩
        · exact HPD.out j (by omega)
      obtain ⟨D, hD⟩ : ∃ D, Y - X + 1 = D := ⟨_, rfl⟩
      have HD : Hid (wt x y k = D) := by show wt x y k = D; unfold wt; rw [HXk.out, HYk.out, hD]
      have w1' : wrap64 (Y - X) = Y - X := IntWalk.wrap64_in _ ⟨by omega, by omega⟩
      have w2' : wrap64 (Y - X + 1) = D := by rw [hD]; exact IntWalk.wrap64_in _ ⟨by omega, by omega⟩
      have w3' : IntKind.i64.wrap (Y - X) = Y - X := IntWalk.i64_in _ ⟨by omega, by omega⟩
      have w4' : IntKind.i64.wrap (Y - X + 1) = D := by rw [hD]; exact IntWalk.i64_in _ ⟨by omega, by omega⟩
      have w5' : IntKind.i64.wrap D = D := IntWalk.i64_in _ ⟨by omega, by omega⟩
      have w6' : wrap64 D = D := IntWalk.wrap64_in _ ⟨by omega, by omega⟩
      clear HBAD hle
      go_wp2
      go_quiet (first | (go_at_call 83; exact Calls.quiet_of_same (l2Day_eq _ e1)) | (go_at_call 82; exact Calls.quiet_of_same (HNI.out _)))
      go_wp2
      generalize hvq : v0.drewN _ = v1
      have HV1 : Hid (L1 w fa len cap d u (wt x y) k (.slice wa k wc) v1) := by rw [← hvq]; exact HV.out.below ⟨rfl, rfl, rfl, Nat.le_refl _, fun _ _ => rfl⟩
      have hkb3 : kb < v1.heap.size := by rw [← hvq]; exact hkb2
      clear hvq c1 c2 hkb2 HV
      have hkb2 : kb < v1.drew.heap.size := hkb3
      have c1 := ((HP.out.below HV1.out.bel).cell hkn).1
      have c2 := ((HP.out.below HV1.out.bel).cell hkn).2
      rw [HXk.out] at c1
      rw [HYk.out] at c2
      have HVd : Hid (L1 w fa len cap d u (wt x y) k (.slice wa k wc) v1.drew) := HV1.out.below (Below.refl _ _).drew
      refine wp_region_held_drew (S := fun w' => w'.cell? ⟨kb, off + k * 2, none⟩ = some (.int .i64 X) ∧ w'.cell? ⟨kb, off + k * 2 + 1, none⟩ = some (.int .i64 Y)) (by kernel_rfl) (by exact ⟨c1, c2⟩) (fun hHeld => ?_)
      refine wpAnyH_take (i := 0) (oi := { dst := some 61, op := Go.Op.move (Go.Operand.tmp 14), type := 42, pos := "l05_journal.go:190", after := #[], guard := none }) (v := ?_) rfl (by kernel_rfl) (by kernel_rfl) (by kernel_rfl) (fun _ _ _ h => h) (Or.inl ⟨by rfl, ?_⟩) (by assumption) ?_
      rotate_left
      · (intro w hSw; (try dsimp only at hSw); go_simp <;> try with_reducible rfl)
      try simp only [Act.put, List.setIfInBounds_toArray, List.set_cons_zero, List.set_cons_succ]
      refine wpAnyH_take (i := 1) (oi := { dst := some 62, op := Go.Op.move (Go.Operand.tmp 5), type := 48, pos := "l05_journal.go:190", after := #[], guard := none }) (v := ?_) rfl (by kernel_rfl) (by kernel_rfl) (by kernel_rfl) (fun _ _ _ h => h) (Or.inl ⟨by rfl, ?_⟩) (by assumption) ?_
      rotate_left
      · (intro w hSw; (try dsimp only at hSw); go_simp <;> try with_reducible rfl)
      try simp only [Act.put, List.setIfInBounds_toArray, List.set_cons_zero, List.set_cons_succ]
      refine wpAnyH_take (i := 2) (oi := { dst := some 63, op := Go.Op.move (Go.Operand.tmp 15), type := 3, pos := "l05_journal.go:190", after := #[], guard := none }) (v := ?_) rfl (by kernel_rfl) (by kernel_rfl) (by kernel_rfl) (fun _ _ _ h => h) (Or.inl ⟨by rfl, ?_⟩) (by assumption) ?_
      rotate_left
      · (intro w hSw; (try dsimp only at hSw); go_simp <;> try with_reducible rfl)
      try simp only [Act.put, List.setIfInBounds_toArray, List.set_cons_zero, List.set_cons_succ]
      refine wpAnyH_take (i := 3) (oi := { dst := some 64, op := Go.Op.indexAddr 48 (Go.Operand.tmp 62) (Go.Operand.tmp 63), type := 0, pos := "l05_journal.go:190", after := #[{ on := 1, ground := Go.Ground.data }, { on := 2, ground := Go.Ground.data }], guard := none }) (v := ?_) rfl (by kernel_rfl) (by kernel_rfl) (by kernel_rfl) (fun _ _ _ h => h) (Or.inl ⟨by rfl, ?_⟩) (by assumption) ?_
      rotate_left
      · (intro w hSw; (try dsimp only at hSw); go_simp <;> try with_reducible rfl)
      try simp only [Act.put, List.setIfInBounds_toArray, List.set_cons_zero, List.set_cons_succ]
      refine wpAnyH_take (i := 4) (oi := { dst := some 65, op := Go.Op.fieldAddr 54 (Go.Operand.tmp 64) 1, type := 0, pos := "l05_journal.go:190", after := #[{ on := 3, ground := Go.Ground.data }], guard := none }) (v := ?_) rfl (by kernel_rfl) (by kernel_rfl) (by kernel_rfl) (fun _ _ _ h => h) (Or.inl ⟨by rfl, ?_⟩) (by assumption) ?_
      rotate_left
      · (intro w hSw; (try dsimp only at hSw); go_simp <;> try with_reducible rfl)
      try simp only [Act.put, List.setIfInBounds_toArray, List.set_cons_zero, List.set_cons_succ]
      refine wpAnyH_take (i := 5) (oi := { dst := some 66, op := Go.Op.load 3 (Go.Operand.tmp 65), type := 3, pos := "l05_journal.go:190", after := #[{ on := 4, ground := Go.Ground.data }], guard := none }) (v := ?_) rfl (by kernel_rfl) (by kernel_rfl) (by kernel_rfl) (fun _ _ _ h => h) (Or.inl ⟨by rfl, ?_⟩) (by assumption) ?_
      rotate_left
      · (intro w hSw; (try dsimp only at hSw); go_simp <;> try with_reducible rfl)
      try simp only [Act.put, List.setIfInBounds_toArray, List.set_cons_zero, List.set_cons_succ]
      refine wpAnyH_take (i := 6) (oi := { dst := some 67, op := Go.Op.move (Go.Operand.tmp 5), type := 48, pos := "l05_journal.go:190", after := #[], guard := none }) (v := ?_) rfl (by kernel_rfl) (by kernel_rfl) (by kernel_rfl) (fun _ _ _ h => h) (Or.inl ⟨by rfl, ?_⟩) (by assumption) ?_
      rotate_left
      · (intro w hSw; (try dsimp only at hSw); go_simp <;> try with_reducible rfl)
      try simp only [Act.put, List.setIfInBounds_toArray, List.set_cons_zero, List.set_cons_succ]
      refine wpAnyH_take (i := 7) (oi := { dst := some 68, op := Go.Op.move (Go.Operand.tmp 15), type := 3, pos := "l05_journal.go:190", after := #[], guard := none }) (v := ?_) rfl (by kernel_rfl) (by kernel_rfl) (by kernel_rfl) (fun _ _ _ h => h) (Or.inl ⟨by rfl, ?_⟩) (by assumption) ?_
      rotate_left
      · (intro w hSw; (try dsimp only at hSw); go_simp <;> try with_reducible rfl)
      try simp only [Act.put, List.setIfInBounds_toArray, List.set_cons_zero, List.set_cons_succ]
      refine wpAnyH_take (i := 8) (oi := { dst := some 69, op := Go.Op.indexAddr 48 (Go.Operand.tmp 67) (Go.Operand.tmp 68), type := 0, pos := "l05_journal.go:190", after := #[{ on := 6, ground := Go.Ground.data }, { on := 7, ground := Go.Ground.data }], guard := none }) (v := ?_) rfl (by kernel_rfl) (by kernel_rfl) (by kernel_rfl) (fun _ _ _ h => h) (Or.inl ⟨by rfl, ?_⟩) (by assumption) ?_
      rotate_left
      · (intro w hSw; (try dsimp only at hSw); go_simp <;> try with_reducible rfl)
      try simp only [Act.put, List.setIfInBounds_toArray, List.set_cons_zero, List.set_cons_succ]
      refine wpAnyH_take (i := 9) (oi := { dst := some 70, op := Go.Op.fieldAddr 54 (Go.Operand.tmp 69) 0, type := 0, pos := "l05_journal.go:190", after := #[{ on := 8, ground := Go.Ground.data }], guard := none }) (v := ?_) rfl (by kernel_rfl) (by kernel_rfl) (by kernel_rfl) (fun _ _ _ h => h) (Or.inl ⟨by rfl, ?_⟩) (by assumption) ?_
      rotate_left
      · (intro w hSw; (try dsimp only at hSw); go_simp <;> try with_reducible rfl)
      try simp only [Act.put, List.setIfInBounds_toArray, List.set_cons_zero, List.set_cons_succ]
      refine wpAnyH_take (i := 10) (oi := { dst := some 71, op := Go.Op.load 3 (Go.Operand.tmp 70), type := 3, pos := "l05_journal.go:190", after := #[{ on := 9, ground := Go.Ground.data }], guard := none }) (v := ?_) rfl (by kernel_rfl) (by kernel_rfl) (by kernel_rfl) (fun _ _ _ h => h) (Or.inl ⟨by rfl, ?_⟩) (by assumption) ?_
      rotate_left
      · (intro w hSw; (try dsimp only at hSw); go_simp <;> try with_reducible rfl)
      try simp only [Act.put, List.setIfInBounds_toArray, List.set_cons_zero, List.set_cons_succ]
      refine wpAnyH_take (i := 11) (oi := { dst := some 72, op := Go.Op.binOp Go.BinOp.sub 3 (Go.Operand.tmp 66) (Go.Operand.tmp 71) 3, type := 3, pos := "l05_journal.go:190", after := #[{ on := 5, ground := Go.Ground.data }, { on := 10, ground := Go.Ground.data }], guard := none }) (v := ?_) rfl (by kernel_rfl) (by kernel_rfl) (by kernel_rfl) (fun _ _ _ h => h) (Or.inl ⟨by rfl, ?_⟩) (by assumption) ?_
      rotate_left
      · (intro w hSw; (try dsimp only at hSw); go_simp <;> try with_reducible rfl)
      try simp only [Act.put, List.setIfInBounds_toArray, List.set_cons_zero, List.set_cons_succ]
      refine wpAnyH_take (i := 12) (oi := { dst := some 73, op := Go.Op.binOp Go.BinOp.add 3 (Go.Operand.tmp 72) (Go.Operand.const (Go.Value.int Go.IntKind.i64 1)) 3, type := 3, pos := "l05_journal.go:190", after := #[{ on := 11, ground := Go.Ground.data }], guard := none }) (v := ?_) rfl (by kernel_rfl) (by kernel_rfl) (by kernel_rfl) (fun _ _ _ h => h) (Or.inl ⟨by rfl, ?_⟩) (by assumption) ?_
      rotate_left
      · (intro w hSw; (try dsimp only at hSw); go_simp <;> try with_reducible rfl)
      try simp only [Act.put, List.setIfInBounds_toArray, List.set_cons_zero, List.set_cons_succ]
      refine wpAnyH_ready (rs := [13]) (by kernel_rfl) (by simp) ?_
      refine AllReadyH.cons (o := { dst := some 74, op := Go.Op.buildSlice 42 1 #[(0, Go.Operand.tmp 73)], type := 42, pos := "l05_journal.go:190", after := #[{ on := 12, ground := Go.Ground.data }], guard := none }) rfl (fun K hK => ?_) (AllReadyH.nil)
      go_simp
      first | refine hK.out _ _ (by exact ⟨(World.cell?_alloc_past _ _ _ hkb2).trans c1, (World.cell?_alloc_past _ _ _ hkb2).trans c2⟩) (fun hHeld => ?_) | (go_wp2_with fail; refine hK.out _ _ (by exact ⟨(World.cell?_alloc_past _ _ _ hkb2).trans c1, (World.cell?_alloc_past _ _ _ hkb2).trans c2⟩) (fun hHeld => ?_))
      clear hK K
      try simp only [Act.put, List.setIfInBounds_toArray, List.set_cons_zero, List.set_cons_succ]
      refine wpAnyH_ready (rs := [14]) (by kernel_rfl) (by simp) ?_
      refine AllReadyH.cons (o := { dst := some 75, op := Go.Op.call { callee := Go.Callee.builtin Go.Builtin.append, args := #[Go.Operand.tmp 61, Go.Operand.tmp 74], argTypes := #[42, 42] }, type := 42, pos := "l05_journal.go:190", after := #[{ on := 0, ground := Go.Ground.data }, { on := 13, ground := Go.Ground.data }], guard := none }) rfl (fun K hK => ?_) (AllReadyH.nil)
      refine oper_append (Operand.tmp 61) (Operand.tmp 74) 42 rfl (w.heap.size + 1 + 1) 3 i0 (.int .i64 0) 1 8 Tryd.underlying42 hi hz0 hz1 hz2 rfl (by decide) (.slice wa k wc) k (Sh.intL (wt x y) k) rfl (Sh.row_below HVd.out.row ((Below.refl _ _).alloc (Nat.le_refl _) _)) ⟨v1.heap.size, 0, none⟩ 1 1 [.int .i64 D] rfl rfl (Sh.cell_one_at (w := v1.drew) (x := .int .i64 D) (t := 3) rfl) (fun u hu => by simp at hu; subst hu; rfl) (by unfold maxLen; omega) (by omega) (by have h : w.heap.size + 1 < v1.heap.size := HVd.out.ou.lt; simp <;> omega) ?_
      intro v' w9 hown9 hgrow9 hloc9
      obtain ⟨ad9, cap9, rfl⟩ := Sh.row_form hown9
      have HN9 : Hid (L1 w fa len cap d u (wt x y) (k + 1) (.slice ad9 (k + 1) cap9) w9) := HVd.out.grow HD.out hown9 hgrow9
      have hb9 : w.heap.size ≤ w9.heap.size := HN9.out.bel.size
      have g1 := ((HP.out.below HN9.out.bel).cell hkn).1
      have g2 := ((HP.out.below HN9.out.bel).cell hkn).2
      rw [HXk.out] at g1
      rw [HYk.out] at g2
      clear hown9 hgrow9 hloc9
      first | refine hK.out _ _ (by exact ⟨g1, g2⟩) (fun hHeld => ?_) | (go_wp2_with fail; refine hK.out _ _ (by exact ⟨g1, g2⟩) (fun hHeld => ?_))
      clear hK K
      try simp only [Act.put, List.setIfInBounds_toArray, List.set_cons_zero, List.set_cons_succ]
      refine wpAnyH_ready (rs := [15]) (by kernel_rfl) (by simp) ?_
      refine AllReadyH.cons (o := { dst := some 14, op := Go.Op.assign (Go.Operand.tmp 75), type := 42, pos := "l05_journal.go:190", after := #[{ on := 14, ground := Go.Ground.data }, { on := 14, ground := Go.Ground.chain }, { on := 0, ground := Go.Ground.phase }, { on := 1, ground := Go.Ground.phase }, { on := 2, ground := Go.Ground.phase }, { on := 3, ground := Go.Ground.phase }, { on := 4, ground := Go.Ground.phase }, { on := 5, ground := Go.Ground.phase }, { on := 6, ground := Go.Ground.phase }, { on := 7, ground := Go.Ground.phase }, { on := 8, ground := Go.Ground.phase }, { on := 9, ground := Go.Ground.phase }, { on := 10, ground := Go.Ground.phase }, { on := 11, ground := Go.Ground.phase }, { on := 12, ground := Go.Ground.phase }, { on := 13, ground := Go.Ground.phase }, { on := 14, ground := Go.Ground.phase }], guard := none }) rfl (fun K hK => ?_) (AllReadyH.nil)
      go_simp
      first | refine hK.out _ _ (by exact ⟨g1, g2⟩) (fun hHeld => ?_) | (go_wp2_with fail; refine hK.out _ _ (by exact ⟨g1, g2⟩) (fun hHeld => ?_))
      clear hK K
      try simp only [Act.put, List.setIfInBounds_toArray, List.set_cons_zero, List.set_cons_succ]
      refine wpAnyH_done (by kernel_rfl) ?_ _
      clear hHeld
      go_wp2
      go_roundw
      case rel => exact ⟨k + 1, _, _, by go_num, rfl, by omega, HPD2, HN9⟩
      case measure => simp [intOf]; omega
    · obtain rfl : k = n := by omega
      have lkk : ¬ (k : Int) < (k : Int) := by omega
      have HIR : Hid (Sh.IR v0 wa k (wt x y)) := Sh.row_IR HV.out.row (fun j hj => Sh.intL_get hj)
      by_cases hs : Sh.ShOk tot k (wt x y)
      case neg =>
        have HM2 : Hid (spN len c d u tot frm tu dim k x y = 0) := HF.out (fun q => hs q.2.1)
        have HS0 : Hid (Sh.shM tot k (wt x y) = 0) := Sh.shM_no hs
        clear hs
        go_wp2_with (go_at_call 93; refine (Sh.specShares_any _ _ _ _ _ _ hn HIR.out).mono ?_; rintro e w5 ⟨pa, pc, rfl, o5, b5⟩; rw [HS0.out]; have HB5 : Hid (Below w.heap.size w w5) := bel_on HV.out.bel b5; clear o5 b5)
        go_loopw [13, 17] (fun u' v wr => u' = .slice (some ⟨w.heap.size + 1, 0, none⟩) 0 0 ∧ v = .int .i64 0 ∧ wr = w5) (fun _ _ _ => 0)
        case atStart => exact ⟨rfl, rfl, rfl⟩
        case round =>
          obtain ⟨rfl, rfl, rfl⟩ := hrel
          go_wp2
          go_returns
          rw [HM2.out]
          exact ⟨_, _, rfl, .inl rfl, HB5.out⟩
      have hk1 : 0 < k := by
        rcases Nat.eq_zero_or_pos k with e | e
        · have := hs.2.2.2; rw [e] at this; simp [Sh.sm] at this
        · exact e
      obtain ⟨S, hS⟩ : ∃ S, Sh.shV tot k (wt x y) = S := ⟨_, rfl⟩
      have HSB : Hid (∀ j, j < k → -200000000000 ≤ S j ∧ S j ≤ 200000000000) := fun j hj => hS ▸ Sh.shV_bd hs hj
      have HSH : Hid (Sh.shM tot k (wt x y) = k) := Sh.shM_ok hs
      obtain ⟨E, hE⟩ : ∃ E, spE frm tu dim y S = E := ⟨_, rfl⟩
      have HEK : Hid (∀ i, E i = ⟨y i, 0, spText, 2, spL frm tu dim (S i)⟩) := fun i => by rw [← hE]; rfl
      have HNO : Hid (∀ i, i < k → enB len c d u (E i) = false → spN len c d u tot frm tu dim k x y = 0) := fun i hi h => HF.out (fun q => by have := q.2.2 i hi; rw [hS, hE, h] at this; cases this)
      have HYES : Hid ((∀ i, i < k → enB len c d u (E i) = true) → spN len c d u tot frm tu dim k x y = k ∧ spE frm tu dim y (Sh.shV tot k (dW x y)) = E) := fun h => by
        have q : SpS len c d u tot frm tu dim k x y := ⟨HPD.out, hs, fun i hi => by rw [hS, hE]; exact h i hi⟩
        obtain ⟨a1, a2⟩ := HYY.out q
        exact ⟨a1, by rw [a2, hS, hE]⟩
      obtain ⟨M, hM⟩ : ∃ M, spN len c d u tot frm tu dim k x y = M := ⟨_, rfl⟩
      obtain ⟨E2, hE2⟩ : ∃ E2, spE frm tu dim y (Sh.shV tot k (dW x y)) = E2 := ⟨_, rfl⟩
      rw [hM] at HNO HYES
      rw [hE2] at HYES
      have HMM : Hid (spN len c d u tot frm tu dim k x y = M ∧ spE frm tu dim y (Sh.shV tot k (dW x y)) = E2) := ⟨hM, hE2⟩
      clear hs hM hE2 HF HYY
      go_wp2_with (go_at_call 93; refine (Sh.specShares_any _ _ _ _ _ _ hn HIR.out).mono ?_; rintro e w5 ⟨pa, pc, rfl, o5, b5⟩; rw [HSH.out, hS] at o5; rw [HSH.out]; have HL5 : Hid (L2 w fa len cap d u pa k pc v0.heap.size S E 0 (.slice (some ⟨w.heap.size + 1, 0, none⟩) 0 0) (fun _ => none) (fun _ => 0) w5) := ⟨HV.out.fr.below b5 HV.out.fr.lt, ⟨⟨rfl, .inr ⟨w.heap.size + 1, 0, #[], rfl, Nat.le_refl _, HV.out.ou.below b5 HV.out.ou.lt, Nat.le_refl _, Nat.zero_le _, rfl, rfl⟩⟩, fun j hj => by omega⟩, o5, bel_on HV.out.bel b5⟩; clear o5 b5)
      obtain ⟨pb, hpb⟩ : ∃ pb, v0.heap.size = pb := ⟨_, rfl⟩
      rw [hpb] at HL5
      have hk9 : (k : Int) ≤ 200 := hn9
      clear HIR HV hpb hS hE HSH lkk
      go_loopw [13, 17] (fun u' v wr => ∃ (i : Nat) (oa : Option Addr) (oc : Nat) (A : Nat → Option Addr) (C : Nat → Nat), v = .int .i64 (i : Int) ∧ u' = .slice oa i oc ∧ i ≤ k ∧ Hid (∀ j, j < i → enB len c d u (E j) = true) ∧ Hid (L2 w fa len cap d u pa k pc pb S E i (.slice oa i oc) A C wr)) (fun _ v _ => k - (intOf v).toNat)
      case atStart => exact ⟨0, _, _, _, _, rfl, rfl, Nat.zero_le _, fun j hj => by omega, HL5⟩
      case round =>
        clear HL5
        obtain ⟨i, oa, oc, A, C, rfl, rfl, hik, HEN, HW⟩ := hrel
        obtain ⟨v0, hv0⟩ : ∃ v0, v0 = wr := ⟨_, rfl⟩
        subst hv0
        by_cases hin : i < k
        case neg =>
          obtain rfl : i = k := by omega
          have lkk : ¬ (i : Int) < (i : Int) := by omega
          go_wp2
          go_returns
          obtain ⟨a1, a2⟩ := HYES.out HEN.out
          rw [HMM.out.1, HMM.out.2, a1, a2]
          exact ⟨_, _, rfl, HW.out.se.row, HW.out.bel⟩
        have hini : (i : Int) < (k : Int) := by omega
        obtain ⟨kb, off, rfl, hkb⟩ := HP.out.addr hk1
        have c2 := ((HP.out.below HW.out.bel).cell hin).2
        obtain ⟨Y, hY⟩ : ∃ Y, y i = Y := ⟨_, rfl⟩
        obtain ⟨s, hs⟩ : ∃ s, S i = s := ⟨_, rfl⟩
        rw [hY] at c2
        obtain ⟨sb, pc', ep, hsb1, _, hsc⟩ := Sh.row_get HW.out.pr (j := 0) hk1
        simp only [Value.slice.injEq] at ep
        obtain ⟨rfl, _, rfl⟩ := ep
        have hsk0 := hsc i hin
        rw [Sh.intL_get hin, hs] at hsk0
        have hsb := HSB.out i hin
        rw [hs] at hsb
        obtain ⟨sB1, sB2⟩ := hsb
        have HEi : Hid (E i = ⟨Y, 0, spText, 2, spL frm tu dim s⟩) := by have := HEK.out i; rw [hY, hs] at this; exact this
        have wn1 : wrap64 (-s) = -s := IntWalk.wrap64_in _ ⟨by omega, by omega⟩
        have wn2 : IntKind.i64.wrap (-s) = -s := IntWalk.i64_in _ ⟨by omega, by omega⟩
        clear hY hs hsc
        go_wp2
        have HE1 : Hid (CB (v0.alloc (.cells #[.int .i64 Y, .int .i64 0, .string ⟨#[115, 112, 114, 101, 97, 100]⟩, .slice none 0 0] 32 (0, 0))) v0.heap.size #[.int .i64 Y, .int .i64 0, .string ⟨#[115, 112, 114, 101, 97, 100]⟩, .slice none 0 0] 32) := CB.new _ _
        have HB01 : Hid (Below v0.heap.size v0 (v0.alloc (.cells #[.int .i64 Y, .int .i64 0, .string ⟨#[115, 112, 114, 101, 97, 100]⟩, .slice none 0 0] 32 (0, 0)))) := (Below.refl _ _).alloc (Nat.le_refl _) _
        have hW1s : (v0.alloc (.cells #[.int .i64 Y, .int .i64 0, .string ⟨#[115, 112, 114, 101, 97, 100]⟩, .slice none 0 0] 32 (0, 0))).heap.size = v0.heap.size + 1 := by simp
        generalize (v0.alloc (.cells #[.int .i64 Y, .int .i64 0, .string ⟨#[115, 112, 114, 101, 97, 100]⟩, .slice none 0 0] 32 (0, 0))) = W1 at HE1 HB01 hW1s ⊢
        have hsk1 : W1.cell? ⟨sb, 0 + i, none⟩ = some (.int .i64 s) := by rw [Nat.zero_add]; exact (World.cell?_of_block (w := v0) (HB01.out.block _ hsb1)).trans hsk0
        have hsk1b : W1.cell? ⟨sb, i, none⟩ = some (.int .i64 s) := by rw [Nat.zero_add] at hsk1; exact hsk1
        have hsbl0 : sb < W1.heap.size := by omega
        have hsbl : sb < W1.drew.heap.size := hsbl0
        have hsk : W1.drew.cell? ⟨sb, i, none⟩ = some (.int .i64 s) := hsk1b
        have e13 : W1.cell? ⟨v0.heap.size, 3, none⟩ = some (.slice none 0 0) := (HE1.out.cell 3).trans rfl
        clear hsk0 c2
        go_cut [18] from 79 to 128 (fun s18 wx => s18 = .pointer (some ⟨v0.heap.size, 0, none⟩) ∧ ∃ g cp, v0.heap.size + 1 + 1 ≤ g ∧ CB wx v0.heap.size #[.int .i64 Y, .int .i64 0, .string ⟨#[115, 112, 114, 101, 97, 100]⟩, .slice (some ⟨g, 0, none⟩) 2 cp] 32 ∧ LR wx (some ⟨g, 0, none⟩) 2 (spL frm tu dim s) ∧ Below v0.heap.size v0 wx)
        case first =>
          refine wp_region_held_drew (S := fun w' => w'.cell? ⟨sb, i, none⟩ = some (.int .i64 s)) (by kernel_rfl) (by exact hsk) (fun hHeld => ?_)
          refine wpAnyH_take (i := 0) (oi := { dst := some 91, op := Go.Op.fieldAddr 32 (Go.Operand.tmp 18) 3, type := 0, pos := "l05_journal.go:195", after := #[], guard := none }) (v := ?_) rfl (by kernel_rfl) (by kernel_rfl) (by kernel_rfl) (fun _ _ _ h => h) (Or.inl ⟨by rfl, ?_⟩) (by assumption) ?_
          rotate_left
          · (intro w hSw; (try dsimp only at hSw); go_simp <;> try with_reducible rfl)
          try simp only [Act.put, List.setIfInBounds_toArray, List.set_cons_zero, List.set_cons_succ]
          refine wpAnyH_take (i := 2) (oi := { dst := some 93, op := Go.Op.move (Go.Operand.tmp 3), type := 3, pos := "l05_journal.go:195", after := #[], guard := none }) (v := ?_) rfl (by kernel_rfl) (by kernel_rfl) (by kernel_rfl) (fun _ _ _ h => h) (Or.inl ⟨by rfl, ?_⟩) (by assumption) ?_
          rotate_left
          · (intro w hSw; (try dsimp only at hSw); go_simp <;> try with_reducible rfl)
          try simp only [Act.put, List.setIfInBounds_toArray, List.set_cons_zero, List.set_cons_succ]
          refine wpAnyH_take (i := 3) (oi := { dst := some 94, op := Go.Op.move (Go.Operand.tmp 4), type := 3, pos := "l05_journal.go:195", after := #[], guard := none }) (v := ?_) rfl (by kernel_rfl) (by kernel_rfl) (by kernel_rfl) (fun _ _ _ h => h) (Or.inl ⟨by rfl, ?_⟩) (by assumption) ?_
          rotate_left
          · (intro w hSw; (try dsimp only at hSw); go_simp <;> try with_reducible rfl)
          try simp only [Act.put, List.setIfInBounds_toArray, List.set_cons_zero, List.set_cons_succ]
          refine wpAnyH_take (i := 4) (oi := { dst := some 95, op := Go.Op.move (Go.Operand.tmp 16), type := 42, pos := "l05_journal.go:195", after := #[], guard := none }) (v := ?_) rfl (by kernel_rfl) (by kernel_rfl) (by kernel_rfl) (fun _ _ _ h => h) (Or.inl ⟨by rfl, ?_⟩) (by assumption) ?_
          rotate_left
          · (intro w hSw; (try dsimp only at hSw); go_simp <;> try with_reducible rfl)
          try simp only [Act.put, List.setIfInBounds_toArray, List.set_cons_zero, List.set_cons_succ]
          refine wpAnyH_take (i := 5) (oi := { dst := some 96, op := Go.Op.move (Go.Operand.tmp 17), type := 3, pos := "l05_journal.go:195", after := #[], guard := none }) (v := ?_) rfl (by kernel_rfl) (by kernel_rfl) (by kernel_rfl) (fun _ _ _ h => h) (Or.inl ⟨by rfl, ?_⟩) (by assumption) ?_
          rotate_left
          · (intro w hSw; (try dsimp only at hSw); go_simp <;> try with_reducible rfl)
          try simp only [Act.put, List.setIfInBounds_toArray, List.set_cons_zero, List.set_cons_succ]
          refine wpAnyH_take (i := 6) (oi := { dst := some 97, op := Go.Op.indexAddr 42 (Go.Operand.tmp 95) (Go.Operand.tmp 96), type := 0, pos := "l05_journal.go:195", after := #[{ on := 4, ground := Go.Ground.data }, { on := 5, ground := Go.Ground.data }], guard := none }) (v := ?_) rfl (by kernel_rfl) (by kernel_rfl) (by kernel_rfl) (fun _ _ _ h => h) (Or.inl ⟨by rfl, ?_⟩) (by assumption) ?_
          rotate_left
          · (intro w hSw; (try dsimp only at hSw); go_simp <;> try with_reducible rfl)
          try simp only [Act.put, List.setIfInBounds_toArray, List.set_cons_zero, List.set_cons_succ]
          refine wpAnyH_take (i := 7) (oi := { dst := some 98, op := Go.Op.load 3 (Go.Operand.tmp 97), type := 3, pos := "l05_journal.go:195", after := #[{ on := 6, ground := Go.Ground.data }], guard := none }) (v := ?_) rfl (by kernel_rfl) (by kernel_rfl) (by kernel_rfl) (fun _ _ _ h => h) (Or.inl ⟨by rfl, ?_⟩) (by assumption) ?_
          rotate_left
          · (intro w hSw; (try dsimp only at hSw); go_simp <;> try with_reducible rfl)
          try simp only [Act.put, List.setIfInBounds_toArray, List.set_cons_zero, List.set_cons_succ]
          refine wpAnyH_take (i := 8) (oi := { dst := some 99, op := Go.Op.move (Go.Operand.tmp 16), type := 42, pos := "l05_journal.go:195", after := #[], guard := none }) (v := ?_) rfl (by kernel_rfl) (by kernel_rfl) (by kernel_rfl) (fun _ _ _ h => h) (Or.inl ⟨by rfl, ?_⟩) (by assumption) ?_
          rotate_left
          · (intro w hSw; (try dsimp only at hSw); go_simp <;> try with_reducible rfl)
          try simp only [Act.put, List.setIfInBounds_toArray, List.set_cons_zero, List.set_cons_succ]
          refine wpAnyH_take (i := 9) (oi := { dst := some 100, op := Go.Op.move (Go.Operand.tmp 17), type := 3, pos := "l05_journal.go:195", after := #[], guard := none }) (v := ?_) rfl (by kernel_rfl) (by kernel_rfl) (by kernel_rfl) (fun _ _ _ h => h) (Or.inl ⟨by rfl, ?_⟩) (by assumption) ?_
          rotate_left
          · (intro w hSw; (try dsimp only at hSw); go_simp <;> try with_reducible rfl)
          try simp only [Act.put, List.setIfInBounds_toArray, List.set_cons_zero, List.set_cons_succ]
          refine wpAnyH_take (i := 10) (oi := { dst := some 101, op := Go.Op.indexAddr 42 (Go.Operand.tmp 99) (Go.Operand.tmp 100), type := 0, pos := "l05_journal.go:195", after := #[{ on := 8, ground := Go.Ground.data }, { on := 9, ground := Go.Ground.data }], guard := none }) (v := ?_) rfl (by kernel_rfl) (by kernel_rfl) (by kernel_rfl) (fun _ _ _ h => h) (Or.inl ⟨by rfl, ?_⟩) (by assumption) ?_
          rotate_left
          · (intro w hSw; (try dsimp only at hSw); go_simp <;> try with_reducible rfl)
          try simp only [Act.put, List.setIfInBounds_toArray, List.set_cons_zero, List.set_cons_succ]
          refine wpAnyH_take (i := 11) (oi := { dst := some 102, op := Go.Op.load 3 (Go.Operand.tmp 101), type := 3, pos := "l05_journal.go:195", after := #[{ on := 10, ground := Go.Ground.data }], guard := none }) (v := ?_) rfl (by kernel_rfl) (by kernel_rfl) (by kernel_rfl) (fun _ _ _ h => h) (Or.inl ⟨by rfl, ?_⟩) (by assumption) ?_
          rotate_left
          · (intro w hSw; (try dsimp only at hSw); go_simp <;> try with_reducible rfl)
          try simp only [Act.put, List.setIfInBounds_toArray, List.set_cons_zero, List.set_cons_succ]
          refine wpAnyH_take (i := 12) (oi := { dst := some 103, op := Go.Op.build 56 #[(0, Go.Operand.tmp 93), (1, Go.Operand.tmp 94), (3, Go.Operand.tmp 98), (4, Go.Operand.tmp 102)], type := 56, pos := "l05_journal.go:195", after := #[{ on := 2, ground := Go.Ground.data }, { on := 3, ground := Go.Ground.data }, { on := 7, ground := Go.Ground.data }, { on := 11, ground := Go.Ground.data }], guard := none }) (v := ?_) rfl (by kernel_rfl) (by kernel_rfl) (by kernel_rfl) (fun _ _ _ h => h) (Or.inl ⟨by rfl, ?_⟩) (by assumption) ?_
          rotate_left
          · (intro w hSw; (try dsimp only at hSw); go_simp <;> try with_reducible rfl)
          try simp only [Act.put, List.setIfInBounds_toArray, List.set_cons_zero, List.set_cons_succ]
          refine wpAnyH_take (i := 13) (oi := { dst := some 104, op := Go.Op.move (Go.Operand.tmp 2), type := 3, pos := "l05_journal.go:195", after := #[], guard := none }) (v := ?_) rfl (by kernel_rfl) (by kernel_rfl) (by kernel_rfl) (fun _ _ _ h => h) (Or.inl ⟨by rfl, ?_⟩) (by assumption) ?_
          rotate_left
          · (intro w hSw; (try dsimp only at hSw); go_simp <;> try with_reducible rfl)
          try simp only [Act.put, List.setIfInBounds_toArray, List.set_cons_zero, List.set_cons_succ]
          refine wpAnyH_take (i := 14) (oi := { dst := some 105, op := Go.Op.move (Go.Operand.tmp 4), type := 3, pos := "l05_journal.go:195", after := #[], guard := none }) (v := ?_) rfl (by kernel_rfl) (by kernel_rfl) (by kernel_rfl) (fun _ _ _ h => h) (Or.inl ⟨by rfl, ?_⟩) (by assumption) ?_
          rotate_left
          · (intro w hSw; (try dsimp only at hSw); go_simp <;> try with_reducible rfl)
          try simp only [Act.put, List.setIfInBounds_toArray, List.set_cons_zero, List.set_cons_succ]
          refine wpAnyH_take (i := 15) (oi := { dst := some 106, op := Go.Op.move (Go.Operand.tmp 16), type := 42, pos := "l05_journal.go:195", after := #[], guard := none }) (v := ?_) rfl (by kernel_rfl) (by kernel_rfl) (by kernel_rfl) (fun _ _ _ h => h) (Or.inl ⟨by rfl, ?_⟩) (by assumption) ?_
          rotate_left
          · (intro w hSw; (try dsimp only at hSw); go_simp <;> try with_reducible rfl)
          try simp only [Act.put, List.setIfInBounds_toArray, List.set_cons_zero, List.set_cons_succ]
          refine wpAnyH_take (i := 16) (oi := { dst := some 107, op := Go.Op.move (Go.Operand.tmp 17), type := 3, pos := "l05_journal.go:195", after := #[], guard := none }) (v := ?_) rfl (by kernel_rfl) (by kernel_rfl) (by kernel_rfl) (fun _ _ _ h => h) (Or.inl ⟨by rfl, ?_⟩) (by assumption) ?_
          rotate_left
          · (intro w hSw; (try dsimp only at hSw); go_simp <;> try with_reducible rfl)
          try simp only [Act.put, List.setIfInBounds_toArray, List.set_cons_zero, List.set_cons_succ]
          refine wpAnyH_take (i := 17) (oi := { dst := some 108, op := Go.Op.indexAddr 42 (Go.Operand.tmp 106) (Go.Operand.tmp 107), type := 0, pos := "l05_journal.go:195", after := #[{ on := 15, ground := Go.Ground.data }, { on := 16, ground := Go.Ground.data }], guard := none }) (v := ?_) rfl (by kernel_rfl) (by kernel_rfl) (by kernel_rfl) (fun _ _ _ h => h) (Or.inl ⟨by rfl, ?_⟩) (by assumption) ?_
          rotate_left
          · (intro w hSw; (try dsimp only at hSw); go_simp <;> try with_reducible rfl)
          try simp only [Act.put, List.setIfInBounds_toArray, List.set_cons_zero, List.set_cons_succ]
          refine wpAnyH_take (i := 18) (oi := { dst := some 109, op := Go.Op.load 3 (Go.Operand.tmp 108), type := 3, pos := "l05_journal.go:195", after := #[{ on := 17, ground := Go.Ground.data }], guard := none }) (v := ?_) rfl (by kernel_rfl) (by kernel_rfl) (by kernel_rfl) (fun _ _ _ h => h) (Or.inl ⟨by rfl, ?_⟩) (by assumption) ?_
          rotate_left
          · (intro w hSw; (try dsimp only at hSw); go_simp <;> try with_reducible rfl)
          try simp only [Act.put, List.setIfInBounds_toArray, List.set_cons_zero, List.set_cons_succ]
          refine wpAnyH_take (i := 19) (oi := { dst := some 110, op := Go.Op.unOp Go.UnOp.neg 3 (Go.Operand.tmp 109), type := 3, pos := "l05_journal.go:195", after := #[{ on := 18, ground := Go.Ground.data }], guard := none }) (v := ?_) rfl (by kernel_rfl) (by kernel_rfl) (by kernel_rfl) (fun _ _ _ h => h) (Or.inl ⟨by rfl, ?_⟩) (by assumption) ?_
          rotate_left
          · (intro w hSw; (try dsimp only at hSw); go_simp <;> try with_reducible rfl)
          try simp only [Act.put, List.setIfInBounds_toArray, List.set_cons_zero, List.set_cons_succ]
          refine wpAnyH_take (i := 20) (oi := { dst := some 111, op := Go.Op.move (Go.Operand.tmp 16), type := 42, pos := "l05_journal.go:195", after := #[], guard := none }) (v := ?_) rfl (by kernel_rfl) (by kernel_rfl) (by kernel_rfl) (fun _ _ _ h => h) (Or.inl ⟨by rfl, ?_⟩) (by assumption) ?_
          rotate_left
          · (intro w hSw; (try dsimp only at hSw); go_simp <;> try with_reducible rfl)
          try simp only [Act.put, List.setIfInBounds_toArray, List.set_cons_zero, List.set_cons_succ]
          refine wpAnyH_take (i := 21) (oi := { dst := some 112, op := Go.Op.move (Go.Operand.tmp 17), type := 3, pos := "l05_journal.go:195", after := #[], guard := none }) (v := ?_) rfl (by kernel_rfl) (by kernel_rfl) (by kernel_rfl) (fun _ _ _ h => h) (Or.inl ⟨by rfl, ?_⟩) (by assumption) ?_
          rotate_left
          · (intro w hSw; (try dsimp only at hSw); go_simp <;> try with_reducible rfl)
          try simp only [Act.put, List.setIfInBounds_toArray, List.set_cons_zero, List.set_cons_succ]
          refine wpAnyH_take (i := 22) (oi := { dst := some 113, op := Go.Op.indexAddr 42 (Go.Operand.tmp 111) (Go.Operand.tmp 112), type := 0, pos := "l05_journal.go:195", after := #[{ on := 20, ground := Go.Ground.data }, { on := 21, ground := Go.Ground.data }], guard := none }) (v := ?_) rfl (by kernel_rfl) (by kernel_rfl) (by kernel_rfl) (fun _ _ _ h => h) (Or.inl ⟨by rfl, ?_⟩) (by assumption) ?_
          rotate_left
          · (intro w hSw; (try dsimp only at hSw); go_simp <;> try with_reducible rfl)
          try simp only [Act.put, List.setIfInBounds_toArray, List.set_cons_zero, List.set_cons_succ]
          refine wpAnyH_take (i := 23) (oi := { dst := some 114, op := Go.Op.load 3 (Go.Operand.tmp 113), type := 3, pos := "l05_journal.go:195", after := #[{ on := 22, ground := Go.Ground.data }], guard := none }) (v := ?_) rfl (by kernel_rfl) (by kernel_rfl) (by kernel_rfl) (fun _ _ _ h => h) (Or.inl ⟨by rfl, ?_⟩) (by assumption) ?_
          rotate_left
          · (intro w hSw; (try dsimp only at hSw); go_simp <;> try with_reducible rfl)
          try simp only [Act.put, List.setIfInBounds_toArray, List.set_cons_zero, List.set_cons_succ]
          refine wpAnyH_take (i := 24) (oi := { dst := some 115, op := Go.Op.unOp Go.UnOp.neg 3 (Go.Operand.tmp 114), type := 3, pos := "l05_journal.go:195", after := #[{ on := 23, ground := Go.Ground.data }], guard := none }) (v := ?_) rfl (by kernel_rfl) (by kernel_rfl) (by kernel_rfl) (fun _ _ _ h => h) (Or.inl ⟨by rfl, ?_⟩) (by assumption) ?_
          rotate_left
          · (intro w hSw; (try dsimp only at hSw); go_simp <;> try with_reducible rfl)
          try simp only [Act.put, List.setIfInBounds_toArray, List.set_cons_zero, List.set_cons_succ]
          refine wpAnyH_take (i := 25) (oi := { dst := some 116, op := Go.Op.build 56 #[(0, Go.Operand.tmp 104), (1, Go.Operand.tmp 105), (3, Go.Operand.tmp 110), (4, Go.Operand.tmp 115)], type := 56, pos := "l05_journal.go:195", after := #[{ on := 13, ground := Go.Ground.data }, { on := 14, ground := Go.Ground.data }, { on := 19, ground := Go.Ground.data }, { on := 24, ground := Go.Ground.data }], guard := none }) (v := ?_) rfl (by kernel_rfl) (by kernel_rfl) (by kernel_rfl) (fun _ _ _ h => h) (Or.inl ⟨by rfl, ?_⟩) (by assumption) ?_
          rotate_left
          · (intro w hSw; (try dsimp only at hSw); go_simp <;> try with_reducible rfl)
          try simp only [Act.put, List.setIfInBounds_toArray, List.set_cons_zero, List.set_cons_succ]
          refine wpAnyH_ready (rs := [1, 26]) (by kernel_rfl) (by simp) ?_
          refine AllReadyH.cons (o := { dst := some 92, op := Go.Op.load 30 (Go.Operand.tmp 91), type := 30, pos := "l05_journal.go:195", after := #[{ on := 0, ground := Go.Ground.data }], guard := none }) rfl (fun K hK => ?_) (AllReadyH.cons (o := { dst := some 117, op := Go.Op.buildSlice 30 2 #[(0, Go.Operand.tmp 103), (1, Go.Operand.tmp 116)], type := 30, pos := "l05_journal.go:195", after := #[{ on := 12, ground := Go.Ground.data }, { on := 25, ground := Go.Ground.data }], guard := none }) rfl (fun K hK => ?_) (AllReadyH.nil))
          · go_simp
            first | refine hK.out _ _ (by exact hsk) (fun hHeld => ?_) | (go_wp2_with fail; refine hK.out _ _ (by exact hsk) (fun hHeld => ?_))
            clear hK K
            try simp only [Act.put, List.setIfInBounds_toArray, List.set_cons_zero, List.set_cons_succ]
            refine wpAnyH_ready (rs := [26]) (by kernel_rfl) (by simp) ?_
            refine AllReadyH.cons (o := { dst := some 117, op := Go.Op.buildSlice 30 2 #[(0, Go.Operand.tmp 103), (1, Go.Operand.tmp 116)], type := 30, pos := "l05_journal.go:195", after := #[{ on := 12, ground := Go.Ground.data }, { on := 25, ground := Go.Ground.data }], guard := none }) rfl (fun K hK => ?_) (AllReadyH.nil)
            go_simp
            first | refine hK.out _ _ (by exact ((World.cell?_alloc_past _ _ _ hsbl).trans hsk)) (fun hHeld => ?_) | (go_wp2_with fail; refine hK.out _ _ (by exact ((World.cell?_alloc_past _ _ _ hsbl).trans hsk)) (fun hHeld => ?_))
            clear hK K
            try simp only [Act.put, List.setIfInBounds_toArray, List.set_cons_zero, List.set_cons_succ]
            refine wpAnyH_ready (rs := [27]) (by kernel_rfl) (by simp) ?_
            refine AllReadyH.cons (o := { dst := some 118, op := Go.Op.call { callee := Go.Callee.builtin Go.Builtin.append, args := #[Go.Operand.tmp 92, Go.Operand.tmp 117], argTypes := #[30, 30] }, type := 30, pos := "l05_journal.go:195", after := #[{ on := 1, ground := Go.Ground.data }, { on := 26, ground := Go.Ground.data }], guard := none }) rfl (fun K hK => ?_) (AllReadyH.nil)
            refine oper_append (Operand.tmp 92) (Operand.tmp 117) 30 rfl (v0.heap.size + 1 + 1) 56 iL (.agg #[.int .i64 0, .int .i64 0, .int .i64 0, .int .i64 0, .int .i64 0]) 5 40 Tryd.underlying30 hiL hzL0 hzL1 hzL2 rfl (by decide) (.slice none 0 0) 0 [] rfl (World.ownsRow_nil _ _ _ _) ⟨v0.heap.size + 1, 0, none⟩ 2 2 [.int .i64 tu, .int .i64 dim, .int .i64 0, .int .i64 s, .int .i64 s, .int .i64 frm, .int .i64 dim, .int .i64 0, .int .i64 (-s), .int .i64 (-s)] rfl rfl (acells_at (w := W1.drew) (l := [.int .i64 tu, .int .i64 dim, .int .i64 0, .int .i64 s, .int .i64 s, .int .i64 frm, .int .i64 dim, .int .i64 0, .int .i64 (-s), .int .i64 (-s)]) hW1s) (fun u hu => by simp at hu; rcases hu with rfl | rfl | rfl | rfl | rfl | rfl | rfl | rfl <;> rfl) (by unfold maxLen; omega) (by omega) (by simp; omega) ?_
            intro v' w7 hown7 hgrow7 hloc7
            obtain ⟨g7, cp7, rfl, hg7, hl7⟩ := new_two hown7
            have bb7 : Below (v0.heap.size + 1 + 1) (W1.drew.alloc (.cells #[.int .i64 tu, .int .i64 dim, .int .i64 0, .int .i64 s, .int .i64 s, .int .i64 frm, .int .i64 dim, .int .i64 0, .int .i64 (-s), .int .i64 (-s)] 56 (0, 0))) w7 := ⟨hgrow7.os, hgrow7.tape, hgrow7.output, hgrow7.size, fun q hq => hgrow7.block q (by show q < (W1.heap.push _).size; rw [Array.size_push, hW1s]; omega) (fun e => by cases e)⟩
            have bb71 : Below W1.heap.size W1 w7 := by have b0 : Below W1.drew.heap.size W1.drew (W1.drew.alloc (.cells #[.int .i64 tu, .int .i64 dim, .int .i64 0, .int .i64 s, .int .i64 s, .int .i64 frm, .int .i64 dim, .int .i64 0, .int .i64 (-s), .int .i64 (-s)] 56 (0, 0))) := (Below.refl _ _).alloc (Nat.le_refl _) _; have b1 : Below W1.drew.heap.size W1.drew w7 := b0.trans (bb7.mono (by show W1.heap.size ≤ _; omega)); exact ⟨b1.os, b1.tape, b1.output, b1.size, b1.block⟩
            have HE7 : Hid (CB w7 v0.heap.size #[.int .i64 Y, .int .i64 0, .string ⟨#[115, 112, 114, 101, 97, 100]⟩, .slice none 0 0] 32) := HE1.out.below bb71 HE1.out.lt
            have hsk7 : w7.cell? ⟨sb, i, none⟩ = some (.int .i64 s) := (World.cell?_of_block (w := W1) (bb71.block _ hsbl)).trans hsk1b
            have e73 : w7.cell? ⟨v0.heap.size, 3, none⟩ = some (.slice none 0 0) := (HE7.out.cell 3).trans rfl
            have f73 := HE7.out.fr 3
            have HL7 : Hid (LR w7 (some ⟨g7, 0, none⟩) 2 (spL frm tu dim s)) := hl7
            have HB7 : Hid (Below W1.heap.size W1 w7) := bb71
            clear hown7 hgrow7 hloc7 bb7 bb71 hl7
            first | refine hK.out _ _ (by exact hsk7) (fun hHeld => ?_) | (go_wp2_with fail; refine hK.out _ _ (by exact hsk7) (fun hHeld => ?_))
            clear hK K
            try simp only [Act.put, List.setIfInBounds_toArray, List.set_cons_zero, List.set_cons_succ]
            refine wpAnyH_take (i := 28) (oi := { dst := some 119, op := Go.Op.fieldAddr 32 (Go.Operand.tmp 18) 3, type := 0, pos := "l05_journal.go:195", after := #[{ on := 0, ground := Go.Ground.phase }, { on := 1, ground := Go.Ground.phase }, { on := 2, ground := Go.Ground.phase }, { on := 3, ground := Go.Ground.phase }, { on := 4, ground := Go.Ground.phase }, { on := 5, ground := Go.Ground.phase }, { on := 6, ground := Go.Ground.phase }, { on := 7, ground := Go.Ground.phase }, { on := 8, ground := Go.Ground.phase }, { on := 9, ground := Go.Ground.phase }, { on := 10, ground := Go.Ground.phase }, { on := 11, ground := Go.Ground.phase }, { on := 12, ground := Go.Ground.phase }, { on := 13, ground := Go.Ground.phase }, { on := 14, ground := Go.Ground.phase }, { on := 15, ground := Go.Ground.phase }, { on := 16, ground := Go.Ground.phase }, { on := 17, ground := Go.Ground.phase }, { on := 18, ground := Go.Ground.phase }, { on := 19, ground := Go.Ground.phase }, { on := 20, ground := Go.Ground.phase }, { on := 21, ground := Go.Ground.phase }, { on := 22, ground := Go.Ground.phase }, { on := 23, ground := Go.Ground.phase }, { on := 24, ground := Go.Ground.phase }, { on := 25, ground := Go.Ground.phase }, { on := 26, ground := Go.Ground.phase }, { on := 27, ground := Go.Ground.phase }], guard := none }) (v := ?_) rfl (by kernel_rfl) (by kernel_rfl) (by kernel_rfl) (fun _ _ _ h => h) (Or.inl ⟨by rfl, ?_⟩) (by assumption) ?_
            rotate_left
            · (intro w hSw; (try dsimp only at hSw); go_simp <;> try with_reducible rfl)
            try simp only [Act.put, List.setIfInBounds_toArray, List.set_cons_zero, List.set_cons_succ]
            have hne7 : sb ≠ v0.heap.size := by omega
            have hsk8 : (w7.setCell ⟨v0.heap.size, 3, none⟩ (.slice (some ⟨g7, 0, none⟩) 2 cp7)).cell? ⟨sb, i, none⟩ = some (.int .i64 s) := (World.cell?_setCell_far _ _ _ _ (by simp; omega)).trans hsk7
            refine wpAnyH_ready (rs := [29]) (by kernel_rfl) (by simp) ?_
            refine AllReadyH.cons (o := { dst := none, op := Go.Op.store 30 (Go.Operand.tmp 119) (Go.Operand.tmp 118), type := 0, pos := "l05_journal.go:195", after := #[{ on := 28, ground := Go.Ground.data }, { on := 27, ground := Go.Ground.data }, { on := 27, ground := Go.Ground.chain }, { on := 0, ground := Go.Ground.phase }, { on := 1, ground := Go.Ground.phase }, { on := 2, ground := Go.Ground.phase }, { on := 3, ground := Go.Ground.phase }, { on := 4, ground := Go.Ground.phase }, { on := 5, ground := Go.Ground.phase }, { on := 6, ground := Go.Ground.phase }, { on := 7, ground := Go.Ground.phase }, { on := 8, ground := Go.Ground.phase }, { on := 9, ground := Go.Ground.phase }, { on := 10, ground := Go.Ground.phase }, { on := 11, ground := Go.Ground.phase }, { on := 12, ground := Go.Ground.phase }, { on := 13, ground := Go.Ground.phase }, { on := 14, ground := Go.Ground.phase }, { on := 15, ground := Go.Ground.phase }, { on := 16, ground := Go.Ground.phase }, { on := 17, ground := Go.Ground.phase }, { on := 18, ground := Go.Ground.phase }, { on := 19, ground := Go.Ground.phase }, { on := 20, ground := Go.Ground.phase }, { on := 21, ground := Go.Ground.phase }, { on := 22, ground := Go.Ground.phase }, { on := 23, ground := Go.Ground.phase }, { on := 24, ground := Go.Ground.phase }, { on := 25, ground := Go.Ground.phase }, { on := 26, ground := Go.Ground.phase }, { on := 27, ground := Go.Ground.phase }], guard := none }) rfl (fun K hK => ?_) (AllReadyH.nil)
            go_simp
            first | refine hK.out _ _ (by exact hsk8) (fun hHeld => ?_) | (go_wp2_with fail; refine hK.out _ _ (by exact hsk8) (fun hHeld => ?_))
            clear hK K
            try simp only [Act.put, List.setIfInBounds_toArray, List.set_cons_zero, List.set_cons_succ]
            refine wpAnyH_done (by kernel_rfl) ?_ _
            clear hHeld
            go_wp2_with fail
            go_meet
            exact ⟨rfl, g7, cp7, hg7, by have := HE7.out.set 3 (.slice (some ⟨g7, 0, none⟩) 2 cp7); simpa using this, HL7.out.other _ (by omega), (HB01.out.trans (HB7.out.mono (by omega))).setCell (p := ⟨v0.heap.size, 3, none⟩) (by simp) _⟩
          · go_simp
            first | refine hK.out _ _ (by exact ((World.cell?_alloc_past _ _ _ hsbl).trans hsk)) (fun hHeld => ?_) | (go_wp2_with fail; refine hK.out _ _ (by exact ((World.cell?_alloc_past _ _ _ hsbl).trans hsk)) (fun hHeld => ?_))
            clear hK K
            try simp only [Act.put, List.setIfInBounds_toArray, List.set_cons_zero, List.set_cons_succ]
            refine wpAnyH_ready (rs := [1]) (by kernel_rfl) (by simp) ?_
            refine AllReadyH.cons (o := { dst := some 92, op := Go.Op.load 30 (Go.Operand.tmp 91), type := 30, pos := "l05_journal.go:195", after := #[{ on := 0, ground := Go.Ground.data }], guard := none }) rfl (fun K hK => ?_) (AllReadyH.nil)
            go_simp
            first | refine hK.out _ _ (by exact ((World.cell?_alloc_past _ _ _ hsbl).trans hsk)) (fun hHeld => ?_) | (go_wp2_with fail; refine hK.out _ _ (by exact ((World.cell?_alloc_past _ _ _ hsbl).trans hsk)) (fun hHeld => ?_))
            clear hK K
            try simp only [Act.put, List.setIfInBounds_toArray, List.set_cons_zero, List.set_cons_succ]
            refine wpAnyH_ready (rs := [27]) (by kernel_rfl) (by simp) ?_
            refine AllReadyH.cons (o := { dst := some 118, op := Go.Op.call { callee := Go.Callee.builtin Go.Builtin.append, args := #[Go.Operand.tmp 92, Go.Operand.tmp 117], argTypes := #[30, 30] }, type := 30, pos := "l05_journal.go:195", after := #[{ on := 1, ground := Go.Ground.data }, { on := 26, ground := Go.Ground.data }], guard := none }) rfl (fun K hK => ?_) (AllReadyH.nil)
            refine oper_append (Operand.tmp 92) (Operand.tmp 117) 30 rfl (v0.heap.size + 1 + 1) 56 iL (.agg #[.int .i64 0, .int .i64 0, .int .i64 0, .int .i64 0, .int .i64 0]) 5 40 Tryd.underlying30 hiL hzL0 hzL1 hzL2 rfl (by decide) (.slice none 0 0) 0 [] rfl (World.ownsRow_nil _ _ _ _) ⟨v0.heap.size + 1, 0, none⟩ 2 2 [.int .i64 tu, .int .i64 dim, .int .i64 0, .int .i64 s, .int .i64 s, .int .i64 frm, .int .i64 dim, .int .i64 0, .int .i64 (-s), .int .i64 (-s)] rfl rfl (acells_at (w := W1.drew) (l := [.int .i64 tu, .int .i64 dim, .int .i64 0, .int .i64 s, .int .i64 s, .int .i64 frm, .int .i64 dim, .int .i64 0, .int .i64 (-s), .int .i64 (-s)]) hW1s) (fun u hu => by simp at hu; rcases hu with rfl | rfl | rfl | rfl | rfl | rfl | rfl | rfl <;> rfl) (by unfold maxLen; omega) (by omega) (by simp; omega) ?_
            intro v' w7 hown7 hgrow7 hloc7
            obtain ⟨g7, cp7, rfl, hg7, hl7⟩ := new_two hown7
            have bb7 : Below (v0.heap.size + 1 + 1) (W1.drew.alloc (.cells #[.int .i64 tu, .int .i64 dim, .int .i64 0, .int .i64 s, .int .i64 s, .int .i64 frm, .int .i64 dim, .int .i64 0, .int .i64 (-s), .int .i64 (-s)] 56 (0, 0))) w7 := ⟨hgrow7.os, hgrow7.tape, hgrow7.output, hgrow7.size, fun q hq => hgrow7.block q (by show q < (W1.heap.push _).size; rw [Array.size_push, hW1s]; omega) (fun e => by cases e)⟩
            have bb71 : Below W1.heap.size W1 w7 := by have b0 : Below W1.drew.heap.size W1.drew (W1.drew.alloc (.cells #[.int .i64 tu, .int .i64 dim, .int .i64 0, .int .i64 s, .int .i64 s, .int .i64 frm, .int .i64 dim, .int .i64 0, .int .i64 (-s), .int .i64 (-s)] 56 (0, 0))) := (Below.refl _ _).alloc (Nat.le_refl _) _; have b1 : Below W1.drew.heap.size W1.drew w7 := b0.trans (bb7.mono (by show W1.heap.size ≤ _; omega)); exact ⟨b1.os, b1.tape, b1.output, b1.size, b1.block⟩
            have HE7 : Hid (CB w7 v0.heap.size #[.int .i64 Y, .int .i64 0, .string ⟨#[115, 112, 114, 101, 97, 100]⟩, .slice none 0 0] 32) := HE1.out.below bb71 HE1.out.lt
            have hsk7 : w7.cell? ⟨sb, i, none⟩ = some (.int .i64 s) := (World.cell?_of_block (w := W1) (bb71.block _ hsbl)).trans hsk1b
            have e73 : w7.cell? ⟨v0.heap.size, 3, none⟩ = some (.slice none 0 0) := (HE7.out.cell 3).trans rfl
            have f73 := HE7.out.fr 3
            have HL7 : Hid (LR w7 (some ⟨g7, 0, none⟩) 2 (spL frm tu dim s)) := hl7
            have HB7 : Hid (Below W1.heap.size W1 w7) := bb71
            clear hown7 hgrow7 hloc7 bb7 bb71 hl7
            first | refine hK.out _ _ (by exact hsk7) (fun hHeld => ?_) | (go_wp2_with fail; refine hK.out _ _ (by exact hsk7) (fun hHeld => ?_))
            clear hK K
            try simp only [Act.put, List.setIfInBounds_toArray, List.set_cons_zero, List.set_cons_succ]
            refine wpAnyH_take (i := 28) (oi := { dst := some 119, op := Go.Op.fieldAddr 32 (Go.Operand.tmp 18) 3, type := 0, pos := "l05_journal.go:195", after := #[{ on := 0, ground := Go.Ground.phase }, { on := 1, ground := Go.Ground.phase }, { on := 2, ground := Go.Ground.phase }, { on := 3, ground := Go.Ground.phase }, { on := 4, ground := Go.Ground.phase }, { on := 5, ground := Go.Ground.phase }, { on := 6, ground := Go.Ground.phase }, { on := 7, ground := Go.Ground.phase }, { on := 8, ground := Go.Ground.phase }, { on := 9, ground := Go.Ground.phase }, { on := 10, ground := Go.Ground.phase }, { on := 11, ground := Go.Ground.phase }, { on := 12, ground := Go.Ground.phase }, { on := 13, ground := Go.Ground.phase }, { on := 14, ground := Go.Ground.phase }, { on := 15, ground := Go.Ground.phase }, { on := 16, ground := Go.Ground.phase }, { on := 17, ground := Go.Ground.phase }, { on := 18, ground := Go.Ground.phase }, { on := 19, ground := Go.Ground.phase }, { on := 20, ground := Go.Ground.phase }, { on := 21, ground := Go.Ground.phase }, { on := 22, ground := Go.Ground.phase }, { on := 23, ground := Go.Ground.phase }, { on := 24, ground := Go.Ground.phase }, { on := 25, ground := Go.Ground.phase }, { on := 26, ground := Go.Ground.phase }, { on := 27, ground := Go.Ground.phase }], guard := none }) (v := ?_) rfl (by kernel_rfl) (by kernel_rfl) (by kernel_rfl) (fun _ _ _ h => h) (Or.inl ⟨by rfl, ?_⟩) (by assumption) ?_
            rotate_left
            · (intro w hSw; (try dsimp only at hSw); go_simp <;> try with_reducible rfl)
            try simp only [Act.put, List.setIfInBounds_toArray, List.set_cons_zero, List.set_cons_succ]
            have hne7 : sb ≠ v0.heap.size := by omega
            have hsk8 : (w7.setCell ⟨v0.heap.size, 3, none⟩ (.slice (some ⟨g7, 0, none⟩) 2 cp7)).cell? ⟨sb, i, none⟩ = some (.int .i64 s) := (World.cell?_setCell_far _ _ _ _ (by simp; omega)).trans hsk7
            refine wpAnyH_ready (rs := [29]) (by kernel_rfl) (by simp) ?_
            refine AllReadyH.cons (o := { dst := none, op := Go.Op.store 30 (Go.Operand.tmp 119) (Go.Operand.tmp 118), type := 0, pos := "l05_journal.go:195", after := #[{ on := 28, ground := Go.Ground.data }, { on := 27, ground := Go.Ground.data }, { on := 27, ground := Go.Ground.chain }, { on := 0, ground := Go.Ground.phase }, { on := 1, ground := Go.Ground.phase }, { on := 2, ground := Go.Ground.phase }, { on := 3, ground := Go.Ground.phase }, { on := 4, ground := Go.Ground.phase }, { on := 5, ground := Go.Ground.phase }, { on := 6, ground := Go.Ground.phase }, { on := 7, ground := Go.Ground.phase }, { on := 8, ground := Go.Ground.phase }, { on := 9, ground := Go.Ground.phase }, { on := 10, ground := Go.Ground.phase }, { on := 11, ground := Go.Ground.phase }, { on := 12, ground := Go.Ground.phase }, { on := 13, ground := Go.Ground.phase }, { on := 14, ground := Go.Ground.phase }, { on := 15, ground := Go.Ground.phase }, { on := 16, ground := Go.Ground.phase }, { on := 17, ground := Go.Ground.phase }, { on := 18, ground := Go.Ground.phase }, { on := 19, ground := Go.Ground.phase }, { on := 20, ground := Go.Ground.phase }, { on := 21, ground := Go.Ground.phase }, { on := 22, ground := Go.Ground.phase }, { on := 23, ground := Go.Ground.phase }, { on := 24, ground := Go.Ground.phase }, { on := 25, ground := Go.Ground.phase }, { on := 26, ground := Go.Ground.phase }, { on := 27, ground := Go.Ground.phase }], guard := none }) rfl (fun K hK => ?_) (AllReadyH.nil)
            go_simp
            first | refine hK.out _ _ (by exact hsk8) (fun hHeld => ?_) | (go_wp2_with fail; refine hK.out _ _ (by exact hsk8) (fun hHeld => ?_))
            clear hK K
            try simp only [Act.put, List.setIfInBounds_toArray, List.set_cons_zero, List.set_cons_succ]
            refine wpAnyH_done (by kernel_rfl) ?_ _
            clear hHeld
            go_wp2_with fail
            go_meet
            exact ⟨rfl, g7, cp7, hg7, by have := HE7.out.set 3 (.slice (some ⟨g7, 0, none⟩) 2 cp7); simpa using this, HL7.out.other _ (by omega), (HB01.out.trans (HB7.out.mono (by omega))).setCell (p := ⟨v0.heap.size, 3, none⟩) (by simp) _⟩
        case rest =>
          obtain ⟨W2, hW2⟩ : ∃ W2, W2 = wc := ⟨_, rfl⟩
          subst hW2
          obtain ⟨rfl, g, cp, hg, hE2, hL2, hB2⟩ := hcut
          have HW2 : Hid (L2 w fa len cap d u (some ⟨sb, 0, none⟩) k pc pb S E i (.slice oa i oc) A C W2) := HW.out.below hB2
          have HE2 : Hid (CB W2 v0.heap.size #[.int .i64 Y, .int .i64 0, .string ⟨#[115, 112, 114, 101, 97, 100]⟩, .slice (some ⟨g, 0, none⟩) 2 cp] 32) := hE2
          have HL2 : Hid (LR W2 (some ⟨g, 0, none⟩) 2 (spL frm tu dim s)) := hL2
          have e0 : W2.cell? ⟨v0.heap.size, 0, none⟩ = some (.int .i64 Y) := (hE2.cell 0).trans rfl
          have e1 : W2.cell? ⟨v0.heap.size, 1, none⟩ = some (.int .i64 0) := (hE2.cell 1).trans rfl
          have e2 : W2.cell? ⟨v0.heap.size, 2, none⟩ = some (.string ⟨#[115, 112, 114, 101, 97, 100]⟩) := (hE2.cell 2).trans rfl
          have e3 : W2.cell? ⟨v0.heap.size, 3, none⟩ = some (.slice (some ⟨g, 0, none⟩) 2 cp) := (hE2.cell 3).trans rfl
          have f0 : W2.cell? ⟨w.heap.size, 0, none⟩ = some (.slice fa len cap) := (HW2.out.fr.cell 0).trans rfl
          have f1 : W2.cell? ⟨w.heap.size, 1, none⟩ = some (.int .i64 d) := (HW2.out.fr.cell 1).trans rfl
          have f2 : W2.cell? ⟨w.heap.size, 2, none⟩ = some (.int .i64 u) := (HW2.out.fr.cell 2).trans rfl
          have hv0w := HW.out.bel.size
          have HOB : Hid (some g ≠ Value.ownBlock (.slice oa i oc)) := fun e => by have := (HW.out.se.lt g e.symm).2; omega
          obtain ⟨V, hV⟩ : ∃ V, enB len c d u (E i) = V := ⟨_, rfl⟩
          have HTK : Hid (Calls Tryd.prog 35 #[.agg #[.slice fa len cap, .int .i64 d, .int .i64 u], .agg #[.int .i64 Y, .int .i64 0, .string ⟨#[115, 112, 114, 101, 97, 100]⟩, .slice (some ⟨g, 0, none⟩) 2 cp]] W2 fun e w' => e = .returned (.bool V) ∧ Below W2.heap.size W2 w') := by
            have h := specEntry_any fa len cap c d u Y 0 ⟨#[115, 112, 114, 101, 97, 100]⟩ (some ⟨g, 0, none⟩) 2 cp (spL frm tu dim s) W2 hl HC.out (HR.out.below HW2.out.bel) hL2 (by decide) (by decide)
            have e : (⟨Y, 0, ⟨#[115, 112, 114, 101, 97, 100]⟩, 2, spL frm tu dim s⟩ : E4) = E i := HEi.out.symm
            rw [e, hV] at h
            exact h
          have HVV : Hid (enB len c d u (E i) = V) := hV
          clear hV hE2 hL2 hB2 hsk hsk1 hsk1b e13 hsbl hsbl0
          cases V with
          | false =>
            go_wp2_with (go_at_call 35; refine HTK.out.mono ?_; rintro e w8 ⟨rfl, b8⟩; have HB8 : Hid (Below w.heap.size w w8) := bel_on HW2.out.bel b8; clear b8)
            go_returns
            rw [HMM.out.1, HMM.out.2, HNO.out i hin HVV.out]
            exact ⟨_, _, rfl, .inl rfl, HB8.out.alloc HB8.out.size _⟩
          | true =>
            go_wp2_with (first
              | (go_at_call 35; refine HTK.out.mono ?_; rintro e w8 ⟨rfl, b8⟩; have HW8 : Hid (L2 w fa len cap d u (some ⟨sb, 0, none⟩) k pc pb S E i (.slice oa i oc) A C w8) := HW2.out.below b8; have HE8 : Hid (CB w8 v0.heap.size #[.int .i64 Y, .int .i64 0, .string ⟨#[115, 112, 114, 101, 97, 100]⟩, .slice (some ⟨g, 0, none⟩) 2 cp] 32) := HE2.out.below b8 HE2.out.lt; have HL8 : Hid (LR w8 (some ⟨g, 0, none⟩) 2 (spL frm tu dim s)) := HL2.out.below b8; clear b8 e0 e1 e2 e3 f0 f1 f2; have e0 : w8.cell? ⟨v0.heap.size, 0, none⟩ = some (.int .i64 Y) := (HE8.out.cell 0).trans rfl; have e1 : w8.cell? ⟨v0.heap.size, 1, none⟩ = some (.int .i64 0) := (HE8.out.cell 1).trans rfl; have e2 : w8.cell? ⟨v0.heap.size, 2, none⟩ = some (.string ⟨#[115, 112, 114, 101, 97, 100]⟩) := (HE8.out.cell 2).trans rfl; have e3 : w8.cell? ⟨v0.heap.size, 3, none⟩ = some (.slice (some ⟨g, 0, none⟩) 2 cp) := (HE8.out.cell 3).trans rfl)
              | (at_builtin; go_loud (refine wpList_append_own_at _ rfl _ _ 27 rfl (w.heap.size + 1) 32 iE (.agg #[.int .i64 0, .int .i64 0, .string ByteArray.empty, .slice none 0 0]) 4 56 Tryd.underlying27 hiE hzE0 hzE1 hzE2 rfl (by decide) (.slice oa i oc) i (flE E A C i) rfl (HW8.out.se.below ((Below.refl _ _).alloc (Nat.le_refl _) _)).1 ⟨w8.heap.size, 0, none⟩ 1 1 [.int .i64 Y, .int .i64 0, .string ⟨#[115, 112, 114, 101, 97, 100]⟩, .slice (some ⟨g, 0, none⟩) 2 cp] rfl rfl (acells_at rfl) (fun u hu => by simp at hu; rcases hu with rfl | rfl | rfl | rfl <;> rfl) (by unfold maxLen; omega) (by omega) (by have := HW8.out.fr.lt; simp <;> omega) ?_); intro v' w9 hown9 hgrow9 hnil9 hat9; obtain ⟨ad9, cap9, rfl⟩ := Sh.row_form hown9; have HN9 : Hid (L2 w fa len cap d u (some ⟨sb, 0, none⟩) k pc pb S E (i + 1) (.slice ad9 (i + 1) cap9) (fun j => if j = i then some ⟨g, 0, none⟩ else A j) (fun j => if j = i then cp else C j) w9) := HW8.out.grow (b := g) (c := cp) (by rw [HEi.out]; exact HL8.out) ⟨by omega, HOB.out⟩ (by rw [show cellsE (E i) (some ⟨g, 0, none⟩) cp = [.int .i64 Y, .int .i64 0, .string ⟨#[115, 112, 114, 101, 97, 100]⟩, .slice (some ⟨g, 0, none⟩) 2 cp] from by rw [HEi.out]; rfl]; exact hown9) hgrow9 hat9; clear hown9 hgrow9 hnil9 hat9))
            go_roundw
            case rel => exact ⟨i + 1, _, _, _, _, by go_num, rfl, by omega, fun j hj => by
              by_cases e : j = i
              · rw [e]; exact HVV.out
              · exact HEN.out j (by omega), HN9⟩
            case measure => simp [intOf]; omega
end Go.Proofs.YtgnhpjlfdkpaiaaDoor
