/- Spread, plain; the program's days of periods. Spread, the program's. -/
import Derived.Test.YtgnhpjlfdkpaiaaDoorPsV
import Derived.Test.YtgnhpjlfdkpaiaaDoorZC
import Derived.Test.YtgnhpjlfdkpaiaaDoorTl
import Derived.Test.YtgnhpjlfdkpaiaaDoorGe
import Derived.Test.YtgnhpjlfdkpaiaaDoorFm
import Derived.Deep.RegionHeld3
namespace Go.Proofs.YtgnhpjlfdkpaiaaDoor.Sh
open Go Go.RowKit
theorem shV_bd {T : Int} {N : Nat} {z : Nat → Int} (hq : ShOk T N z) {j : Nat} (hj : j < N) : -200000000000 ≤ shV T N z j ∧ shV T N z j ≤ 200000000000 := by
  obtain ⟨K, k1, k2, _⟩ := lf_bd hq
  have := gst_bd (one := on1 (lf T N z)) (o := qv T N z) (r := rs T N z) (M := 100000000000) (by unfold on1; split <;> omega) (by omega) (fun j hj => qv_bd hq hj) K j hj
  have := hq.2.1
  unfold shV; rw [k2]; omega
end Go.Proofs.YtgnhpjlfdkpaiaaDoor.Sh
namespace Go.Proofs.YtgnhpjlfdkpaiaaDoor
open Go Go.ChangeShapes Go.WideShapes Go.ChangeAt Go.RowKit
set_option linter.unusedVariables false
set_option linter.unusedSimpArgs false

/-- The days of period j, as the program reckons them. -/
def dW (x y : Nat → Int) (j : Nat) : Int := wrap64 (wrap64 (y j - x j) + 1)
/-- And as they are. -/
def wt (x y : Nat → Int) (j : Nat) : Int := y j - x j + 1
def spText : ByteArray := ⟨#[115, 112, 114, 101, 97, 100]⟩
def spL (frm tu dim s : Int) (j : Nat) : L5 := if j = 0 then ⟨tu, dim, 0, s, s⟩ else ⟨frm, dim, 0, -s, -s⟩
def spE (frm tu dim : Int) (y : Nat → Int) (S : Nat → Int) (i : Nat) : E4 := ⟨y i, 0, spText, 2, spL frm tu dim (S i)⟩
def DivP (x y : Nat → Int) (n : Nat) : Prop := ∀ j, j < n → 1 ≤ dW x y j ∧ dW x y j ≤ 10000000
/-- What the program takes. -/
def SpI (len : Nat) (c : Nat → C3) (d u tot frm tu dim : Int) (n : Nat) (x y : Nat → Int) : Prop := DivP x y n ∧ Sh.ShOk tot n (dW x y) ∧ ∀ i, i < n → enB len c d u (spE frm tu dim y (Sh.shV tot n (dW x y)) i) = true
/-- What the model takes. -/
def PdP (x y : Nat → Int) (n : Nat) : Prop := ∀ j, j < n → (0 ≤ y j ∧ y j ≤ 40000) ∧ (-10000000 ≤ x j ∧ x j ≤ 40000) ∧ x j ≤ y j
def SpS (len : Nat) (c : Nat → C3) (d u tot frm tu dim : Int) (n : Nat) (x y : Nat → Int) : Prop := PdP x y n ∧ Sh.ShOk tot n (wt x y) ∧ ∀ i, i < n → enB len c d u (spE frm tu dim y (Sh.shV tot n (wt x y)) i) = true
theorem wrap_bd (x : Int) : -9223372036854775808 ≤ wrap64 x ∧ wrap64 x ≤ 9223372036854775807 := by unfold wrap64; omega
theorem dW_of {x y : Int} (hx : -9223372036854775808 ≤ x ∧ x ≤ 9223372036854775807) (hy : 0 ≤ y ∧ y ≤ 40000) (h : 1 ≤ wrap64 (wrap64 (y - x) + 1) ∧ wrap64 (wrap64 (y - x) + 1) ≤ 10000000) : wrap64 (wrap64 (y - x) + 1) = y - x + 1 := by
  unfold wrap64 at *
  omega
theorem wt_of {x y : Int} (hy : 0 ≤ y ∧ y ≤ 40000) (hx : -10000000 ≤ x ∧ x ≤ 40000) : wrap64 (wrap64 (y - x) + 1) = y - x + 1 := by
  unfold wrap64
  omega
theorem sp_iff {len : Nat} {c : Nat → C3} {d u tot frm tu dim : Int} {n : Nat} {x y : Nat → Int} (hx : ∀ j, -9223372036854775808 ≤ x j ∧ x j ≤ 9223372036854775807) (h0 : ∀ j, n ≤ j → x j = 0 ∧ y j = 0) : (SpI len c d u tot frm tu dim n x y ↔ SpS len c d u tot frm tu dim n x y) ∧ (SpI len c d u tot frm tu dim n x y → dW x y = wt x y) := by
  have z0 : ∀ j, n ≤ j → dW x y j = wt x y j := fun j hj => by
    obtain ⟨a, b⟩ := h0 j hj
    unfold dW wt; rw [a, b]; unfold wrap64; omega
  have e1 : SpI len c d u tot frm tu dim n x y → dW x y = wt x y := fun h => by
    funext j
    by_cases hj : j < n
    · have hd := (enB_out (h.2.2 j hj)).2.1
      exact dW_of (hx j) hd (h.1 j hj)
    · exact z0 j (by omega)
  have e2 : SpS len c d u tot frm tu dim n x y → dW x y = wt x y := fun h => by
    funext j
    by_cases hj : j < n
    · have hd := h.1 j hj
      exact wt_of hd.1 hd.2.1
    · exact z0 j (by omega)
  refine ⟨⟨fun h => ?_, fun h => ?_⟩, e1⟩
  · have e := e1 h
    obtain ⟨a, b, c'⟩ := h
    rw [e] at b c'
    refine ⟨fun j hj => ?_, b, c'⟩
    have hd : 0 ≤ y j ∧ y j ≤ 40000 := (enB_out (c' j hj)).2.1
    have hw := a j hj
    rw [e] at hw
    unfold wt at hw
    omega
  · have e := e2 h
    obtain ⟨a, b, c'⟩ := h
    refine ⟨fun j hj => ?_, e ▸ b, e ▸ c'⟩
    have hw := b.2.2.1 j hj
    have ha := a j hj
    rw [e]
    unfold wt at hw ⊢
    omega

theorem isDivisor_any (x : Int) (w : World) : Calls Tryd.prog 138 #[.int .i64 x] w fun e w' => e = .returned (.bool (inB x 1 10000000)) ∧ w' = w := by
  by_cases h1 : 1 ≤ x
  · by_cases h2 : x ≤ 10000000
    · rw [inB_iff.2 ⟨h1, h2⟩]
      go_enter Tryd.func138, Tryd.ntmps138
      go_wp2
      go_returns
      exact ⟨rfl, rfl⟩
    · rw [inB_f (fun q => h2 q.2)]
      go_enter Tryd.func138, Tryd.ntmps138
      go_wp2
      go_returns
      exact ⟨rfl, rfl⟩
  · rw [inB_f (fun q => h1 q.1)]
    go_enter Tryd.func138, Tryd.ntmps138
    go_wp2
    go_returns
    exact ⟨rfl, rfl⟩
theorem set_ne'' {cs : Array Value} {i j : Nat} {v : Value} (h : i ≠ j) : (cs.setIfInBounds i v)[j]? = cs[j]? := by rw [Array.getElem?_setIfInBounds, if_neg h]
theorem set_eq'' {cs : Array Value} {i : Nat} {v : Value} (h : i < cs.size) : (cs.setIfInBounds i v)[i]? = some v := by rw [Array.getElem?_setIfInBounds, if_pos rfl, if_pos h]
open Classical in
noncomputable def dN (x y : Nat → Int) (n : Nat) : Nat := if DivP x y n then n else 0
theorem dN_t {x y : Nat → Int} {n : Nat} (h : DivP x y n) : dN x y n = n := if_pos h
theorem dN_f {x y : Nat → Int} {n : Nat} (h : ¬ DivP x y n) : dN x y n = 0 := if_neg h

set_option maxRecDepth 20000 in
set_option maxHeartbeats 4000000 in
theorem daysOf_any (ad : Option Addr) (n cap : Nat) (x y : Nat → Int) (w : World) (hn : (n : Int) ≤ 1048576) (hr : PR w ad n x y) :
    Calls Tryd.prog 91 #[.slice ad n cap] w fun e w' => ∃ a c, e = .returned (.slice a (dN x y n) c) ∧ Sh.IR w' a (dN x y n) (dW x y) ∧ Below w.heap.size w w' := by
  have HR : Hid (PR w ad n x y) := hr
  have hmk := Sh.mkI n hn
  clear hr
  go_enter Tryd.func91, Tryd.ntmps91
  go_wp2
  go_loopw [11] (fun i wr => ∃ (k : Nat) (cs : Array Value), k ≤ n ∧ i = .int .i64 (k : Int) ∧ CB wr w.heap.size cs 3 ∧ cs.size = n ∧ (∀ j, j < k → cs[j]? = some (.int .i64 (dW x y j)) ∧ 1 ≤ dW x y j ∧ dW x y j ≤ 10000000) ∧ Below w.heap.size w wr) (fun i _ => n - (intOf i).toNat)
  case atStart => exact ⟨0, Sh.zeros n, Nat.zero_le _, rfl, CB.new _ _, Sh.zeros_size _, fun j hj => by omega, (Below.refl _ _).alloc (Nat.le_refl _) _⟩
  case round =>
    obtain ⟨k, cs, hk, rfl, hC, hsz, hcs, hB⟩ := hrel
    by_cases hlt : k < n
    · obtain ⟨kb, off, rfl, hkb⟩ := HR.out.addr (by omega)
      obtain ⟨c1, c2⟩ := (HR.out.below hB).cell hlt
      obtain ⟨v1, d1⟩ : ∃ v, cs[k]? = some v := ⟨cs[k]'(by omega), Array.getElem?_eq_getElem (by omega)⟩
      have x1 := (hC.cell k).trans d1
      have f1 := hC.fr k
      have hl1 := hC.lt
      have hne : w.heap.size ≠ wr.heap.size := by omega
      have hne2 : wr.heap.size ≠ w.heap.size := by omega
      have hlti : (k : Int) < (n : Int) := by omega
      obtain ⟨X, hX⟩ : ∃ X, x k = X := ⟨_, rfl⟩
      obtain ⟨Y, hY⟩ : ∃ Y, y k = Y := ⟨_, rfl⟩
      obtain ⟨D, hD⟩ : ∃ D, wrap64 (wrap64 (Y - X) + 1) = D := ⟨_, rfl⟩
      have HD : Hid (dW x y k = D) := by show dW x y k = D; unfold dW; rw [hX, hY, hD]
      rw [hX] at c1
      rw [hY] at c2
      have HC : Hid (CB wr w.heap.size cs 3) := hC
      have HS : Hid (cs.size = n) := hsz
      have HCS : Hid (∀ j, j < k → cs[j]? = some (.int .i64 (dW x y j)) ∧ 1 ≤ dW x y j ∧ dW x y j ≤ 10000000) := hcs
      have HB : Hid (Below w.heap.size w wr) := hB
      clear hX hY hC hsz hcs hB
      by_cases hdv : 1 ≤ D ∧ D ≤ 10000000
      · have hb := inB_iff.2 hdv
        have HDV : Hid (1 ≤ D ∧ D ≤ 10000000) := hdv
        clear hdv
        go_wp2_with (go_at_call 138; refine (isDivisor_any _ _).mono ?_; rintro e w1 ⟨rfl, ew⟩; replace ew := ew.symm; subst ew; first | rw [hb] | (rw [hD, hb]))
        go_roundw
        case rel =>
          refine ⟨k + 1, _, by omega, by go_num, (HC.out.set k (.int .i64 D)).alloc _, by simpa using HS.out, fun j hj => ?_, (HB.out.setCell (p := ⟨w.heap.size, k, none⟩) (by simp) _).alloc (by simpa [World.setCell] using HB.out.size) _⟩
          by_cases e : j = k
          · subst e
            rw [HD.out]
            exact ⟨set_eq'' (by have := HS.out; omega), HDV.out⟩
          · have hq := HCS.out j (by omega)
            exact ⟨(set_ne'' (by omega)).trans hq.1, hq.2⟩
        case measure => simp [intOf]; omega
      · have hb := inB_f hdv
        have HND : Hid (¬ DivP x y n) := fun q => hdv (by have := q k hlt; rw [HD.out] at this; exact this)
        clear hdv
        go_wp2_with (go_at_call 138; refine (isDivisor_any _ _).mono ?_; rintro e w1 ⟨rfl, ew⟩; replace ew := ew.symm; subst ew; first | rw [hb] | (rw [hD, hb]))
        go_returns
        rw [dN_f HND.out]
        have hB := HB.out
        exact ⟨_, _, rfl, .inl rfl, ((hB.setCell (p := ⟨w.heap.size, k, none⟩) (by simp) _).alloc (by simpa [World.setCell] using hB.size) _).alloc (by have := hB.size; simp [World.setCell] <;> omega) _⟩
    · obtain rfl : k = n := by omega
      have HI : Hid (DivP x y k ∧ Sh.IR wr (some ⟨w.heap.size, 0, none⟩) k (dW x y)) := ⟨fun j hj => (hcs j hj).2, Sh.IR.of_block hC k _ (fun j hj => (hcs j hj).1)⟩
      have HB : Hid (Below w.heap.size w wr) := hB
      clear hC hcs hB
      go_wp2
      go_returns
      rw [dN_t HI.out.1]
      exact ⟨_, _, rfl, HI.out.2, HB.out⟩
end Go.Proofs.YtgnhpjlfdkpaiaaDoor

namespace Go.Proofs.YtgnhpjlfdkpaiaaDoor
open Go Go.ChangeShapes Go.WideShapes Go.ChangeAt Go.RowKit
set_option linter.unusedVariables false
set_option linter.unusedSimpArgs false

theorem ownLine_any (a dm s : Int) (w : World) : Calls Tryd.prog 92 #[.int .i64 a, .int .i64 dm, .int .i64 s] w fun e w' => e = .returned (.agg #[.int .i64 a, .int .i64 dm, .int .i64 0, .int .i64 s, .int .i64 s]) ∧ Below w.heap.size w w' := by
  go_enter Tryd.func92, Tryd.ntmps92
  go_wp2
  go_returns
  exact ⟨rfl, by go_grown⟩
open Classical in
noncomputable def spN (len : Nat) (c : Nat → C3) (d u tot frm tu dim : Int) (n : Nat) (x y : Nat → Int) : Nat := if SpI len c d u tot frm tu dim n x y then n else 0
theorem spN_t {len : Nat} {c : Nat → C3} {d u tot frm tu dim : Int} {n : Nat} {x y : Nat → Int} (h : SpI len c d u tot frm tu dim n x y) : spN len c d u tot frm tu dim n x y = n := if_pos h
theorem spN_f {len : Nat} {c : Nat → C3} {d u tot frm tu dim : Int} {n : Nat} {x y : Nat → Int} (h : ¬ SpI len c d u tot frm tu dim n x y) : spN len c d u tot frm tu dim n x y = 0 := if_neg h
/-- What Spread tells. -/
def SpP (M : Nat) (E : Nat → E4) (w : World) (e : Ending) (w' : World) : Prop := ∃ ad cap, e = .returned (.slice ad M cap) ∧ NewE w.heap.size w'.heap.size w' ad M E 32 56 ∧ Below w.heap.size w w'
/-- The entries that are made, behind the world v. -/
structure SI (v : World) (n k : Nat) (E : Nat → E4) (bl : Nat → Nat) (W : World) : Prop where
  own : OwnE W v.heap.size n k E bl 32 56
  blo : ∀ j, j < k → v.heap.size < bl j
  bel : Below v.heap.size v W
section
variable {v W W' : World} {n k : Nat} {E : Nat → E4} {bl : Nat → Nat}
theorem SI.below (h : SI v n k E bl W) (b : Below W.heap.size W W') : SI v n k E bl W' := ⟨h.own.keep b, h.blo, bel_on h.bel b⟩
theorem SI.lt (h : SI v n k E bl W) : v.heap.size < W.heap.size := by obtain ⟨cs, h', _⟩ := h.own.main; exact h'.lt
end
theorem two_own {w : World} {frm tu dim s : Int} : OwnL (w.alloc (.cells #[.int .i64 tu, .int .i64 dim, .int .i64 0, .int .i64 s, .int .i64 s, .int .i64 frm, .int .i64 dim, .int .i64 0, .int .i64 (-s), .int .i64 (-s)] 56 (0, 0))) w.heap.size 2 (spL frm tu dim s) 56 := by
  refine ⟨_, CB.new _ _, rfl, fun i hi => ?_⟩
  rcases (by omega : i = 0 ∨ i = 1) with rfl | rfl
  · exact ⟨rfl, rfl, rfl, rfl, rfl⟩
  · exact ⟨rfl, rfl, rfl, rfl, rfl⟩
theorem sh0 {tot : Int} {n : Nat} {x y : Nat → Int} (h : ¬ (DivP x y n ∧ Sh.ShOk tot n (dW x y))) : Sh.shM tot (dN x y n) (dW x y) = 0 := by
  by_cases hd : DivP x y n
  · rw [dN_t hd]; exact Sh.shM_no (fun q => h ⟨hd, q⟩)
  · rw [dN_f hd]; exact Sh.shM_no (fun q => by have := q.2.2.2; simp [Sh.sm] at this)

set_option maxRecDepth 20000 in
set_option maxHeartbeats 4000000 in
theorem implSpread_any (fa : Option Addr) (len cap : Nat) (c : Nat → C3) (d u tot frm tu dim : Int) (ad : Option Addr) (n lcap : Nat) (x y : Nat → Int) (w : World) (hl : (len : Int) ≤ 1048576) (hc : ∀ j, (c j).code.size ≤ maxLen) (hr : CR w fa len c) (hE : EL w) (hn : (n : Int) ≤ 1048576) (hp : PR w ad n x y) :
    Calls Tryd.prog 26 #[.agg #[.slice fa len cap, .int .i64 d, .int .i64 u], .int .i64 tot, .int .i64 frm, .int .i64 tu, .int .i64 dim, .slice ad n lcap] w (SpP (spN len c d u tot frm tu dim n x y) (spE frm tu dim y (Sh.shV tot n (dW x y))) w) := by
  have HC : Hid (∀ j, (c j).code.size ≤ maxLen) := hc
  have HR : Hid (CR w fa len c) := hr
  have HE : Hid (EL w) := hE
  have HP : Hid (PR w ad n x y) := hp
  clear hc hr hE hp
  by_cases hok : DivP x y n ∧ Sh.ShOk tot n (dW x y)
  case neg =>
    have HN : Hid (spN len c d u tot frm tu dim n x y = 0) := spN_f (fun q => hok ⟨q.1, q.2.1⟩)
    have HS0 : Hid (Sh.shM tot (dN x y n) (dW x y) = 0) := sh0 hok
    have hmk : ∀ w, (Instr.makeSlice 27 (.int .i64 0) (.int .i64 0)).run Tryd.prog w = .ok (.slice (some ⟨w.heap.size, 0, none⟩) 0 0) (w.alloc (.cells (zeros4e 0) 32)) := mkEntries 0 (by omega)
    have hdN : ((dN x y n : Nat) : Int) ≤ 1048576 := by unfold dN; split <;> omega
    have HdN : Hid (((dN x y n : Nat) : Int) ≤ 1048576) := hdN
    clear hok hdN
    go_enter Tryd.func26, Tryd.ntmps26
    go_wp2_with (first
      | (go_at_call 68; go_loud (refine (lay_any _ _ _ c _ _ _ hl HC.out (HR.out.alloc _) (HE.out.alloc' _)).mono ?_; rintro e w1 ⟨T, rfl, hT, b1⟩; have HB1 : Hid (Below w.heap.size w w1) := bel_on ((Below.refl _ _).alloc (Nat.le_refl _) _) b1; clear hT b1))
      | (go_at_call 91; go_loud (refine (daysOf_any _ _ _ x y _ hn ((HP.out.below HB1.out).alloc _)).mono ?_; rintro e w2 ⟨a, ca, rfl, ir, b2⟩; have HB2 : Hid (Below w.heap.size w w2) := bel_on (HB1.out.alloc HB1.out.size _) b2; have HIR : Hid (Sh.IR w2 a (dN x y n) (dW x y)) := ir; clear ir b2))
      | (go_at_call 90; go_loud (refine (Sh.implShares_any _ _ _ _ _ _ HdN.out HIR.out).mono ?_; rintro e w3 ⟨sa, sc, rfl, o3, b3⟩; have HB3 : Hid (Below w.heap.size w w3) := bel_on HB2.out b3; rw [HS0.out]; clear o3 b3)))
    have HB4 : Hid (Below w.heap.size w (w3.alloc (.cells (zeros4e 0) 32))) := HB3.out.alloc HB3.out.size _
    generalize (w3.alloc (.cells (zeros4e 0) 32)) = w4 at HB4 ⊢
    go_loopw [30] (fun v wr => v = .int .i64 0 ∧ wr = w4) (fun _ _ => 0)
    case atStart => exact ⟨rfl, rfl⟩
    case round =>
      obtain ⟨rfl, rfl⟩ := hrel
      go_wp2
      go_returns
      rw [HN.out]
      exact ⟨_, _, rfl, .inl rfl, HB4.out⟩
  case pos =>
    obtain ⟨hd, hs⟩ := hok
    have hn200 : n ≤ 200 := hs.2.1
    have hn1 : 0 < n := by
      rcases Nat.eq_zero_or_pos n with e | e
      · have := hs.2.2.2; rw [e] at this; simp [Sh.sm] at this
      · exact e
    obtain ⟨S, hS⟩ : ∃ S, Sh.shV tot n (dW x y) = S := ⟨_, rfl⟩
    have HSB : Hid (∀ j, j < n → -200000000000 ≤ S j ∧ S j ≤ 200000000000) := fun j hj => hS ▸ Sh.shV_bd hs hj
    have HSH : Hid (Sh.shM tot n (dW x y) = n) := Sh.shM_ok hs
    have HDN : Hid (dN x y n = n) := dN_t hd
    obtain ⟨E, hE⟩ : ∃ E, spE frm tu dim y S = E := ⟨_, rfl⟩
    have HEK : Hid (∀ k, E k = ⟨y k, 0, spText, 2, spL frm tu dim (S k)⟩) := fun k => by rw [← hE]; rfl
    have HNO : Hid (∀ k, k < n → enB len c d u (E k) = false → spN len c d u tot frm tu dim n x y = 0) := fun k hk h => spN_f (fun q => by have := q.2.2 k hk; rw [hS, hE, h] at this; cases this)
    have HYES : Hid ((∀ k, k < n → enB len c d u (E k) = true) → spN len c d u tot frm tu dim n x y = n) := fun h => spN_t ⟨hd, hs, fun i hi => by rw [hS, hE]; exact h i hi⟩
    have hmk := mkEntries n hn
    rw [hS, hE]
    obtain ⟨M, hM⟩ : ∃ M, spN len c d u tot frm tu dim n x y = M := ⟨_, rfl⟩
    rw [hM] at HNO HYES ⊢
    clear hd hs hM
    go_enter Tryd.func26, Tryd.ntmps26
    go_wp2_with (first
      | (go_at_call 68; go_loud (refine (lay_any _ _ _ c _ _ _ hl HC.out (HR.out.alloc _) (HE.out.alloc' _)).mono ?_; rintro e w1 ⟨T, rfl, hT, b1⟩; have HB1 : Hid (Below w.heap.size w w1) := bel_on ((Below.refl _ _).alloc (Nat.le_refl _) _) b1; have HTr : Hid (Tree w1 T len c) := hT; clear hT b1))
      | (go_at_call 91; go_loud (refine (daysOf_any _ _ _ x y _ hn ((HP.out.below HB1.out).alloc _)).mono ?_; rintro e w2 ⟨a, ca, rfl, ir, b2⟩; have HB2 : Hid (Below w.heap.size w w2) := bel_on (HB1.out.alloc HB1.out.size _) b2; have HTr2 : Hid (Tree w2 T len c) := (HTr.out.alloc _).below b2; have HX2 : Hid (CB w2 w1.heap.size #[.slice fa len cap, .int .i64 d, .int .i64 u, .pointer (some ⟨T, 0, none⟩)] 108) := (CB.new _ _).below b2 (by simp); rw [HDN.out] at ir ⊢; have HIR : Hid (Sh.IR w2 a n (dW x y)) := ir; clear ir b2))
      | (go_at_call 90; go_loud (refine (Sh.implShares_any _ _ _ _ _ _ hn HIR.out).mono ?_; rintro e w3 ⟨sa, sc, rfl, o3, b3⟩; have HB3 : Hid (Below w.heap.size w w3) := bel_on HB2.out b3; have HTr3 : Hid (Tree w3 T len c) := HTr2.out.below b3; have HX3 : Hid (CB w3 w1.heap.size #[.slice fa len cap, .int .i64 d, .int .i64 u, .pointer (some ⟨T, 0, none⟩)] 108) := HX2.out.below b3 HX2.out.lt; rw [HSH.out, hS] at o3; rw [HSH.out]; have HI3 : Hid (Sh.IR w3 sa n S) := Sh.row_IR o3 (fun j hj => Sh.intL_get hj); clear o3 b3)))
    have hx3 := HX3.out.lt
    have HP3 : Hid (PR w3 ad n x y) := HP.out.below HB3.out
    have H0 : Hid (SI w3 n 0 E (fun _ => 0) (w3.alloc (.cells (zeros4e n) 32))) := ⟨⟨⟨zeros4e n, CB.new _ _, zeros4e_size _, fun j hj => by omega⟩, fun j hj => by omega, fun j hj => by omega, fun i j hi => by omega⟩, fun j hj => by omega, (Below.refl _ _).alloc (Nat.le_refl _) _⟩
    generalize (w3.alloc (.cells (zeros4e n) 32)) = w4 at H0 ⊢
    obtain ⟨B, hB⟩ : ∃ B, w3.heap.size = B := ⟨_, rfl⟩
    obtain ⟨p13, hp13⟩ : ∃ p13, w1.heap.size = p13 := ⟨_, rfl⟩
    have HBs : Hid (w3.heap.size = B) := hB
    rw [hp13] at HX3 hx3 ⊢
    rw [hB] at hx3 ⊢
    have hp13B : p13 ≠ B := by omega
    clear HB1 HB2 HTr HTr2 HX2 HIR hB hp13 hmk hS hE HP HR HE HC
    go_loopw [30] (fun v wr => ∃ (k : Nat) (bl : Nat → Nat), v = .int .i64 (k : Int) ∧ k ≤ n ∧ (∀ j, j < k → enB len c d u (E j) = true) ∧ Hid (SI w3 n k E bl wr)) (fun v _ => n - (intOf v).toNat)
    case atStart => exact ⟨0, _, rfl, Nat.zero_le _, fun j hj => by omega, H0⟩
    case round =>
      clear H0
      obtain ⟨k, bl, rfl, hk, hen, HV⟩ := hrel
      have HEN : Hid (∀ j, j < k → enB len c d u (E j) = true) := hen
      clear hen
      by_cases hkn : k < n
      · have hkni : (k : Int) < (n : Int) := by omega
        obtain ⟨kb, off, rfl, _⟩ := HP3.out.addr hn1
        obtain ⟨sb, soff, rfl, _⟩ := HI3.out.addr hn1
        have hsk := (HI3.out.below HV.out.bel).cell hkn
        obtain ⟨Y, hY⟩ : ∃ Y, y k = Y := ⟨_, rfl⟩
        obtain ⟨s, hs⟩ : ∃ s, S k = s := ⟨_, rfl⟩
        have hsb := HSB.out k hkn
        rw [hs] at hsk hsb
        obtain ⟨sb1, sb2⟩ := hsb
        have HEk : Hid (E k = ⟨Y, 0, spText, 2, spL frm tu dim s⟩) := by have := HEK.out k; rw [hY, hs] at this; exact this
        have HYk : Hid (y k = Y) := hY
        obtain ⟨v0, hv0⟩ : ∃ v0, v0 = wr := ⟨_, rfl⟩
        subst hv0
        clear hY hs
        have tok1 : True := trivial
        go_wp2_with (first
          | (go_at_call 92; clear tok1; refine (ownLine_any _ _ _ _).mono ?_; rintro e w5 ⟨rfl, b5⟩; have HV5 : Hid (SI w3 n k E bl w5) := HV.out.below b5; clear b5)
          | (go_at_call 92; refine (ownLine_any _ _ _ _).mono ?_; rintro e w6 ⟨rfl, b6⟩; have HV6 : Hid (SI w3 n k E bl w6) := HV5.out.below b6; have hyk := ((HP3.out.below (bel_on HV6.out.bel ((Below.refl _ _).alloc (Nat.le_refl _) (.cells #[.int .i64 tu, .int .i64 dim, .int .i64 0, .int .i64 s, .int .i64 s, .int .i64 frm, .int .i64 dim, .int .i64 0, .int .i64 (-s), .int .i64 (-s)] 56 (0, 0))))).cell hkn).2; rw [HYk.out] at hyk; obtain ⟨cs, hC, hsz, _⟩ := HV6.out.own.main; rw [HBs.out] at hC; obtain ⟨v1, d1⟩ : ∃ v, cs[k * 4]? = some v := ⟨cs[k * 4]'(by omega), Array.getElem?_eq_getElem (by omega)⟩; obtain ⟨v2, d2⟩ : ∃ v, cs[k * 4 + 1]? = some v := ⟨cs[k * 4 + 1]'(by omega), Array.getElem?_eq_getElem (by omega)⟩; obtain ⟨v3, d3⟩ : ∃ v, cs[k * 4 + 2]? = some v := ⟨cs[k * 4 + 2]'(by omega), Array.getElem?_eq_getElem (by omega)⟩; obtain ⟨v4, d4⟩ : ∃ v, cs[k * 4 + 3]? = some v := ⟨cs[k * 4 + 3]'(by omega), Array.getElem?_eq_getElem (by omega)⟩; have x1 := (hC.cell (k * 4)).trans d1; have x2 := (hC.cell (k * 4 + 1)).trans d2; have x3 := (hC.cell (k * 4 + 2)).trans d3; have x4 := (hC.cell (k * 4 + 3)).trans d4; have f1 := hC.fr (k * 4); have f2 := hC.fr (k * 4 + 1); have f3 := hC.fr (k * 4 + 2); have f4 := hC.fr (k * 4 + 3); have hBl : B < w6.heap.size := hC.lt; have hBne : B ≠ w6.heap.size := (by omega); have hneB : w6.heap.size ≠ B := (by omega); clear b6 hC hsz))
        have eW : (((((w6.alloc (.cells #[.int .i64 tu, .int .i64 dim, .int .i64 0, .int .i64 s, .int .i64 s, .int .i64 frm, .int .i64 dim, .int .i64 0, .int .i64 (-s), .int .i64 (-s)] 56 (0, 0))).setCell ⟨B, k * 4, none⟩ (.int .i64 Y)).setCell ⟨B, k * 4 + 1, none⟩ (.int .i64 0)).setCell ⟨B, k * 4 + 2, none⟩ (.string ⟨#[115, 112, 114, 101, 97, 100]⟩)).setCell ⟨B, k * 4 + 3, none⟩ (.slice (some ⟨w6.heap.size, 0, none⟩) 2 2)) = (((((w6.setCell ⟨B, k * 4, none⟩ (.int .i64 Y)).setCell ⟨B, k * 4 + 1, none⟩ (.int .i64 0)).setCell ⟨B, k * 4 + 2, none⟩ (.string ⟨#[115, 112, 114, 101, 97, 100]⟩)).setCell ⟨B, k * 4 + 3, none⟩ (.slice (some ⟨w6.heap.size, 0, none⟩) 2 2)).alloc (.cells #[.int .i64 tu, .int .i64 dim, .int .i64 0, .int .i64 s, .int .i64 s, .int .i64 frm, .int .i64 dim, .int .i64 0, .int .i64 (-s), .int .i64 (-s)] 56 (0, 0))) := by
          rw [World.setCell_alloc_past _ _ _ _ hBl, World.setCell_alloc_past _ _ _ _ (by simpa [World.setCell] using hBl), World.setCell_alloc_past _ _ _ _ (by simpa [World.setCell] using hBl), World.setCell_alloc_past _ _ _ _ (by simpa [World.setCell] using hBl)]
        have HN0 : Hid (SI w3 n (k + 1) E (fun j => if j = k then w6.heap.size else bl j) (((((w6.alloc (.cells #[.int .i64 tu, .int .i64 dim, .int .i64 0, .int .i64 s, .int .i64 s, .int .i64 frm, .int .i64 dim, .int .i64 0, .int .i64 (-s), .int .i64 (-s)] 56 (0, 0))).setCell ⟨B, k * 4, none⟩ (.int .i64 Y)).setCell ⟨B, k * 4 + 1, none⟩ (.int .i64 0)).setCell ⟨B, k * 4 + 2, none⟩ (.string ⟨#[115, 112, 114, 101, 97, 100]⟩)).setCell ⟨B, k * 4 + 3, none⟩ (.slice (some ⟨w6.heap.size, 0, none⟩) 2 2))) := by
          have h6 := HV6.out.below ((Below.refl _ _).alloc (Nat.le_refl _) (.cells #[.int .i64 tu, .int .i64 dim, .int .i64 0, .int .i64 s, .int .i64 s, .int .i64 frm, .int .i64 dim, .int .i64 0, .int .i64 (-s), .int .i64 (-s)] 56 (0, 0)))
          have ek := HEk.out
          have hst := h6.own.step hkn (b := w6.heap.size) (by rw [ek]; exact two_own) (by rw [HBs.out]; omega) (fun j hj => by have := (HV6.out.own.own j hj).lt; omega)
          rw [ek, HBs.out] at hst
          have hb3 : w3.heap.size ≤ B := by rw [HBs.out]; exact Nat.le_refl _
          refine ⟨?_, fun j hj => ?_, (((h6.bel.setCell (p := ⟨B, k * 4, none⟩) hb3 _).setCell (p := ⟨B, k * 4 + 1, none⟩) hb3 _).setCell (p := ⟨B, k * 4 + 2, none⟩) hb3 _).setCell (p := ⟨B, k * 4 + 3, none⟩) hb3 _⟩
          · rw [HBs.out]; exact hst
          · rw [HBs.out]
            by_cases e : j = k
            · rw [if_pos e]; exact hBl
            · rw [if_neg e]; have := HV6.out.blo j (by omega); rw [HBs.out] at this; exact this
        rw [eW] at HN0
        have hl0 : LR (((((w6.setCell ⟨B, k * 4, none⟩ (.int .i64 Y)).setCell ⟨B, k * 4 + 1, none⟩ (.int .i64 0)).setCell ⟨B, k * 4 + 2, none⟩ (.string ⟨#[115, 112, 114, 101, 97, 100]⟩)).setCell ⟨B, k * 4 + 3, none⟩ (.slice (some ⟨w6.heap.size, 0, none⟩) 2 2)).alloc (.cells #[.int .i64 tu, .int .i64 dim, .int .i64 0, .int .i64 s, .int .i64 s, .int .i64 frm, .int .i64 dim, .int .i64 0, .int .i64 (-s), .int .i64 (-s)] 56 (0, 0))) (some ⟨w6.heap.size, 0, none⟩) 2 (spL frm tu dim s) := by
          have h := (HN0.out.own.own k (by omega)).row
          rw [HEk.out] at h
          simpa using h
        have HL0 : Hid (LR (((((w6.setCell ⟨B, k * 4, none⟩ (.int .i64 Y)).setCell ⟨B, k * 4 + 1, none⟩ (.int .i64 0)).setCell ⟨B, k * 4 + 2, none⟩ (.string ⟨#[115, 112, 114, 101, 97, 100]⟩)).setCell ⟨B, k * 4 + 3, none⟩ (.slice (some ⟨w6.heap.size, 0, none⟩) 2 2)).alloc (.cells #[.int .i64 tu, .int .i64 dim, .int .i64 0, .int .i64 s, .int .i64 s, .int .i64 frm, .int .i64 dim, .int .i64 0, .int .i64 (-s), .int .i64 (-s)] 56 (0, 0))) (some ⟨w6.heap.size, 0, none⟩) 2 (spL frm tu dim s)) := hl0
        have hcc : (((((w6.setCell ⟨B, k * 4, none⟩ (.int .i64 Y)).setCell ⟨B, k * 4 + 1, none⟩ (.int .i64 0)).setCell ⟨B, k * 4 + 2, none⟩ (.string ⟨#[115, 112, 114, 101, 97, 100]⟩)).setCell ⟨B, k * 4 + 3, none⟩ (.slice (some ⟨w6.heap.size, 0, none⟩) 2 2)).alloc (.cells #[.int .i64 tu, .int .i64 dim, .int .i64 0, .int .i64 s, .int .i64 s, .int .i64 frm, .int .i64 dim, .int .i64 0, .int .i64 (-s), .int .i64 (-s)] 56 (0, 0))).cell? ⟨B, k * 4, none⟩ = some (.int .i64 Y) ∧ (((((w6.setCell ⟨B, k * 4, none⟩ (.int .i64 Y)).setCell ⟨B, k * 4 + 1, none⟩ (.int .i64 0)).setCell ⟨B, k * 4 + 2, none⟩ (.string ⟨#[115, 112, 114, 101, 97, 100]⟩)).setCell ⟨B, k * 4 + 3, none⟩ (.slice (some ⟨w6.heap.size, 0, none⟩) 2 2)).alloc (.cells #[.int .i64 tu, .int .i64 dim, .int .i64 0, .int .i64 s, .int .i64 s, .int .i64 frm, .int .i64 dim, .int .i64 0, .int .i64 (-s), .int .i64 (-s)] 56 (0, 0))).cell? ⟨B, k * 4 + 1, none⟩ = some (.int .i64 0) ∧ (((((w6.setCell ⟨B, k * 4, none⟩ (.int .i64 Y)).setCell ⟨B, k * 4 + 1, none⟩ (.int .i64 0)).setCell ⟨B, k * 4 + 2, none⟩ (.string ⟨#[115, 112, 114, 101, 97, 100]⟩)).setCell ⟨B, k * 4 + 3, none⟩ (.slice (some ⟨w6.heap.size, 0, none⟩) 2 2)).alloc (.cells #[.int .i64 tu, .int .i64 dim, .int .i64 0, .int .i64 s, .int .i64 s, .int .i64 frm, .int .i64 dim, .int .i64 0, .int .i64 (-s), .int .i64 (-s)] 56 (0, 0))).cell? ⟨B, k * 4 + 2, none⟩ = some (.string ⟨#[115, 112, 114, 101, 97, 100]⟩) ∧ (((((w6.setCell ⟨B, k * 4, none⟩ (.int .i64 Y)).setCell ⟨B, k * 4 + 1, none⟩ (.int .i64 0)).setCell ⟨B, k * 4 + 2, none⟩ (.string ⟨#[115, 112, 114, 101, 97, 100]⟩)).setCell ⟨B, k * 4 + 3, none⟩ (.slice (some ⟨w6.heap.size, 0, none⟩) 2 2)).alloc (.cells #[.int .i64 tu, .int .i64 dim, .int .i64 0, .int .i64 s, .int .i64 s, .int .i64 frm, .int .i64 dim, .int .i64 0, .int .i64 (-s), .int .i64 (-s)] 56 (0, 0))).cell? ⟨B, k * 4 + 3, none⟩ = some (.slice (some ⟨w6.heap.size, 0, none⟩) 2 2) := by
          obtain ⟨cs2, hC2, _, hcs2⟩ := HN0.out.own.main
          have h4 := hcs2 k (by omega)
          rw [HEk.out] at h4
          rw [HBs.out] at hC2
          obtain ⟨g1, g2, g3, g4⟩ := h4
          exact ⟨(hC2.cell _).trans g1, (hC2.cell _).trans g2, (hC2.cell _).trans g3, (hC2.cell _).trans (by simpa using g4)⟩
        obtain ⟨q6, hq6⟩ : ∃ q6, w6.heap.size = q6 := ⟨_, rfl⟩
        rw [hq6] at HL0 hcc
        have HN1 : Hid (SI w3 n (k + 1) E (fun j => if j = k then q6 else bl j) (((((w6.setCell ⟨B, k * 4, none⟩ (.int .i64 Y)).setCell ⟨B, k * 4 + 1, none⟩ (.int .i64 0)).setCell ⟨B, k * 4 + 2, none⟩ (.string ⟨#[115, 112, 114, 101, 97, 100]⟩)).setCell ⟨B, k * 4 + 3, none⟩ (.slice (some ⟨w6.heap.size, 0, none⟩) 2 2)).alloc (.cells #[.int .i64 tu, .int .i64 dim, .int .i64 0, .int .i64 s, .int .i64 s, .int .i64 frm, .int .i64 dim, .int .i64 0, .int .i64 (-s), .int .i64 (-s)] 56 (0, 0)))) := by rw [← hq6]; exact HN0
        clear hl0 HN0 eW x1 x2 x3 x4 f1 f2 f3 f4 hyk hsk
        rw [hq6]
        rw [hq6] at HN1
        generalize (((((w6.setCell ⟨B, k * 4, none⟩ (.int .i64 Y)).setCell ⟨B, k * 4 + 1, none⟩ (.int .i64 0)).setCell ⟨B, k * 4 + 2, none⟩ (.string ⟨#[115, 112, 114, 101, 97, 100]⟩)).setCell ⟨B, k * 4 + 3, none⟩ (.slice (some ⟨q6, 0, none⟩) 2 2)).alloc (.cells #[.int .i64 tu, .int .i64 dim, .int .i64 0, .int .i64 s, .int .i64 s, .int .i64 frm, .int .i64 dim, .int .i64 0, .int .i64 (-s), .int .i64 (-s)] 56 (0, 0))) = W7 at HN1 HL0 hcc ⊢
        obtain ⟨r1, r2, r3, r4⟩ := hcc
        have HX7 : Hid (CB W7 p13 #[.slice fa len cap, .int .i64 d, .int .i64 u, .pointer (some ⟨T, 0, none⟩)] 108) := HX3.out.below HN1.out.bel HX3.out.lt
        have t1 : W7.cell? ⟨p13, 0, none⟩ = some (.slice fa len cap) := (HX7.out.cell 0).trans rfl
        have t2 : W7.cell? ⟨p13, 1, none⟩ = some (.int .i64 d) := (HX7.out.cell 1).trans rfl
        have t3 : W7.cell? ⟨p13, 2, none⟩ = some (.int .i64 u) := (HX7.out.cell 2).trans rfl
        have t4 : W7.cell? ⟨p13, 3, none⟩ = some (.pointer (some ⟨T, 0, none⟩)) := (HX7.out.cell 3).trans rfl
        have hP7 : p13 < W7.heap.size := World.block_lt_of_cell? W7 _ t1
        have hB7 : B < W7.heap.size := World.block_lt_of_cell? W7 _ r1
        have HT7 : Hid (Tree W7.drew T len c) := (HTr3.out.below HN1.out.bel).below (Below.refl _ _).drew
        have HL7 : Hid (LR W7.drew (some ⟨q6, 0, none⟩) 2 (spL frm tu dim s)) := HL0.out.below (Below.refl _ _).drew
        obtain ⟨V, hV⟩ : ∃ V, enB len c d u (E k) = V := ⟨_, rfl⟩
        have HTK : Hid (Calls Tryd.prog 70 #[.agg #[.slice fa len cap, .int .i64 d, .int .i64 u, .pointer (some ⟨T, 0, none⟩)], .agg #[.int .i64 Y, .int .i64 0, .string ⟨#[115, 112, 114, 101, 97, 100]⟩, .slice (some ⟨q6, 0, none⟩) 2 2]] W7.drew fun e w' => e = .returned (.bool V) ∧ Below W7.drew.heap.size W7.drew w') := by
          have h := takes_any fa len cap c d u T Y 0 ⟨#[115, 112, 114, 101, 97, 100]⟩ (some ⟨q6, 0, none⟩) 2 2 (spL frm tu dim s) W7.drew HT7.out HL7.out
          have e : (⟨Y, 0, ⟨#[115, 112, 114, 101, 97, 100]⟩, 2, spL frm tu dim s⟩ : E4) = E k := HEk.out.symm
          rw [e, hV] at h
          exact h
        have HVV : Hid (enB len c d u (E k) = V) := hV
        clear hV
        go_region_held3 (fun w' => w'.cell? ⟨p13, 0, none⟩ = some (.slice fa len cap) ∧ w'.cell? ⟨p13, 1, none⟩ = some (.int .i64 d) ∧ w'.cell? ⟨p13, 2, none⟩ = some (.int .i64 u) ∧ w'.cell? ⟨p13, 3, none⟩ = some (.pointer (some ⟨T, 0, none⟩)) ∧ w'.cell? ⟨B, k * 4, none⟩ = some (.int .i64 Y) ∧ w'.cell? ⟨B, k * 4 + 1, none⟩ = some (.int .i64 0) ∧ w'.cell? ⟨B, k * 4 + 2, none⟩ = some (.string ⟨#[115, 112, 114, 101, 97, 100]⟩) ∧ w'.cell? ⟨B, k * 4 + 3, none⟩ = some (.slice (some ⟨q6, 0, none⟩) 2 2))
          (refine ⟨?_, ?_, ?_, ?_, ?_, ?_, ?_, ?_⟩ <;> first | assumption | (simp [*]; done))
          (first
            | (go_at_call 70; refine HTK.out.mono ?_; rintro e w8 ⟨rfl, b8⟩; have bb : Below W7.heap.size W7 w8 := ⟨b8.os, b8.tape, b8.output, b8.size, b8.block⟩; have HN8 : Hid (SI w3 n (k + 1) E (fun j => if j = k then q6 else bl j) w8) := HN1.out.below bb; have y1 : w8.cell? ⟨p13, 0, none⟩ = some (.slice fa len cap) := (World.cell?_of_block (w := W7) (bb.block _ hP7)).trans t1; have y2 : w8.cell? ⟨p13, 1, none⟩ = some (.int .i64 d) := (World.cell?_of_block (w := W7) (bb.block _ hP7)).trans t2; have y3 : w8.cell? ⟨p13, 2, none⟩ = some (.int .i64 u) := (World.cell?_of_block (w := W7) (bb.block _ hP7)).trans t3; have y4 : w8.cell? ⟨p13, 3, none⟩ = some (.pointer (some ⟨T, 0, none⟩)) := (World.cell?_of_block (w := W7) (bb.block _ hP7)).trans t4; have y5 : w8.cell? ⟨B, k * 4, none⟩ = some (.int .i64 Y) := (World.cell?_of_block (w := W7) (bb.block _ hB7)).trans r1; have y6 : w8.cell? ⟨B, k * 4 + 1, none⟩ = some (.int .i64 0) := (World.cell?_of_block (w := W7) (bb.block _ hB7)).trans r2; have y7 : w8.cell? ⟨B, k * 4 + 2, none⟩ = some (.string ⟨#[115, 112, 114, 101, 97, 100]⟩) := (World.cell?_of_block (w := W7) (bb.block _ hB7)).trans r3; have y8 : w8.cell? ⟨B, k * 4 + 3, none⟩ = some (.slice (some ⟨q6, 0, none⟩) 2 2) := (World.cell?_of_block (w := W7) (bb.block _ hB7)).trans r4))
        cases V with
        | true =>
          go_wp2
          go_roundw
          case rel => exact ⟨k + 1, _, by go_num, by omega, fun j hj => by
            by_cases e : j = k
            · rw [e]; exact HVV.out
            · exact HEN.out j (by omega), HN8⟩
          case measure => simp [intOf]; omega
        | false =>
          go_wp2
          go_returns
          rw [HNO.out k hkn HVV.out]
          exact ⟨_, _, rfl, .inl rfl, (bel_on HB3.out HN8.out.bel).alloc (bel_on HB3.out HN8.out.bel).size _⟩
      · obtain rfl : k = n := by omega
        have lkk : ¬ (k : Int) < (k : Int) := by omega
        go_wp2
        go_returns
        rw [HYES.out HEN.out]
        have hb := HB3.out.size
        refine ⟨_, _, rfl, ?_, bel_on HB3.out HV.out.bel⟩
        have h := HV.out.own.new (lo := w.heap.size) (Nat.le_refl _) hb (fun j hj => by have := HV.out.blo j hj; omega)
        rw [HBs.out] at h
        exact h
end Go.Proofs.YtgnhpjlfdkpaiaaDoor
