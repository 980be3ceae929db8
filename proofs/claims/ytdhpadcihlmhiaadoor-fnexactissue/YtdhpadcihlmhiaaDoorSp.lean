/- Void, of the program and of the model. -/
import Derived.Test.YtdhpadcihlmhiaaDoorSo
namespace Go.Proofs.YtdhpadcihlmhiaaDoor
open Go.ChangeShapes Go.WideShapes Go.ChangeAt Go.RowKit
set_option linter.unusedVariables false
set_option linter.unusedSimpArgs false

def setVd (p : Nat → P4) (k : Nat) : Nat → P4 := fun j => if j = k then ⟨(p k).ser, (p k).num, (p k).day, true⟩ else p j
theorem setVd_at (p : Nat → P4) (k : Nat) : setVd p k k = ⟨(p k).ser, (p k).num, (p k).day, true⟩ := if_pos rfl
theorem setVd_ne {p : Nat → P4} {k j : Nat} (h : j ≠ k) : setVd p k j = p j := if_neg h
section
variable {w w' : World} {lo n : Nat} {ad : Option Addr}
theorem OwnS2.put {c : Nat → S2} (h : OwnS2 w lo ad n c) {b o : Nat} (u : Value) (hb : b < lo) : OwnS2 (w.setCell ⟨b, o, none⟩ u) lo ad n c := by
  rcases h with h | ⟨g, cs, e, h0, h1, h2⟩
  · exact .inl h
  · exact .inr ⟨g, cs, e, h0, h1.other u (by omega), h2⟩
theorem OwnP4.put {c : Nat → P4} (h : OwnP4 w lo ad n c) {b o : Nat} (u : Value) (hb : b < lo) : OwnP4 (w.setCell ⟨b, o, none⟩ u) lo ad n c := by
  rcases h with h | ⟨g, cs, e, h0, h1, h2⟩
  · exact .inl h
  · exact .inr ⟨g, cs, e, h0, h1.other u (by omega), h2⟩
theorem OwnS2.apart {c : Nat → S2} (h : OwnS2 w lo ad n c) {b o : Nat} {ds : Array Value} (e : CB w b ds 32) (u : Value) : OwnS2 (w.setCell ⟨b, o, none⟩ u) lo ad n c := by
  rcases h with h | ⟨g, cs, e1, h0, h1, h2⟩
  · exact .inl h
  · exact .inr ⟨g, cs, e1, h0, h1.other u (CB_ne h1 e (by decide)), h2⟩
theorem OwnP4.vd {p : Nat → P4} {g k : Nat} (h : OwnP4 w lo (some ⟨g, 0, none⟩) n p) (hk : k < n) : OwnP4 (w.setCell ⟨g, k * 4 + 3, none⟩ (.bool true)) lo (some ⟨g, 0, none⟩) n (setVd p k) := by
  rcases h with h | ⟨g', cs, e, h0, h1, h2, h3⟩
  · omega
  · simp only [Option.some.injEq, Addr.mk.injEq, and_true] at e
    subst e
    refine .inr ⟨g, _, rfl, h0, h1.set _ _, by simpa using h2, fun j hj => ?_⟩
    obtain ⟨a0, a1, a2, a3⟩ := h3 j hj
    by_cases q : j = k
    · subst q
      rw [setVd_at]
      refine ⟨?_, ?_, ?_, ?_⟩
      · rw [get_set_ne (by omega)]; exact a0
      · rw [get_set_ne (by omega)]; exact a1
      · rw [get_set_ne (by omega)]; exact a2
      · rw [get_set_eq (by omega)]
    · rw [setVd_ne q]
      refine ⟨?_, ?_, ?_, ?_⟩ <;> (rw [get_set_ne (by omega)]; assumption)
theorem OwnP4.blk {p : Nat → P4} (h : OwnP4 w lo ad n p) (hn : 0 < n) : ∃ g cs, ad = some ⟨g, 0, none⟩ ∧ lo ≤ g ∧ CB w g cs 32 ∧ n * 4 ≤ cs.size := by
  rcases h with h | ⟨g, cs, e, h0, h1, h2, _⟩
  · omega
  · exact ⟨g, cs, e, h0, h1, h2⟩
end
structure RO where
  n1 : Nat
  n2 : Nat
  p2 : Nat → P4
  b : Bool
def VoP (len : Nat) (c : Nat → S2) (np : Nat) (p : Nat → P4) (k : Int) : Prop := 0 ≤ k ∧ k < (np : Int) ∧ (p k.toNat).vd = false
open Classical in
noncomputable def voidR (len : Nat) (c : Nat → S2) (np : Nat) (p : Nat → P4) (k : Int) : RO := if RegP len c np p then (if VoP len c np p k then ⟨len, np, setVd p k.toNat, true⟩ else ⟨len, np, p, false⟩) else ⟨0, 0, p, false⟩
section
variable {len : Nat} {c : Nat → S2} {np : Nat} {p : Nat → P4} {k : Int}
theorem voidR_n (h : ¬ RegP len c np p) : voidR len c np p k = ⟨0, 0, p, false⟩ := by unfold voidR; rw [if_neg h]
theorem voidR_f (h : RegP len c np p) (g : ¬ VoP len c np p k) : voidR len c np p k = ⟨len, np, p, false⟩ := by unfold voidR; rw [if_pos h, if_neg g]
theorem voidR_t {j : Nat} (h : RegP len c np p) (g : VoP len c np p (j : Int)) : voidR len c np p (j : Int) = ⟨len, np, setVd p j, true⟩ := by unfold voidR; rw [if_pos h, if_pos g]; simp
end
open Classical in
theorem voidR_le {len : Nat} {c : Nat → S2} {np : Nat} {p : Nat → P4} {k : Int} : (voidR len c np p k).n1 ≤ len ∧ (voidR len c np p k).n2 ≤ np + 0 := by
  unfold voidR
  split
  · split <;> simp
  · simp
/-- What Void tells. -/
def VoI (c : Nat → S2) (R : RO) (w : World) (e : Ending) (w' : World) : Prop :=
  ∃ a2 c2 a3 c3, e = .returned (.tuple #[.agg #[.slice a2 R.n1 c2, .slice a3 R.n2 c3], .bool R.b]) ∧ OwnS2 w' w.heap.size a2 R.n1 c ∧ OwnP4 w' w.heap.size a3 R.n2 R.p2 ∧ Below w.heap.size w w'
theorem own_pair {w : World} {base len np : Nat} {a2 a3 : Option Addr} {c2 c3 : Nat} {c : Nat → S2} {p : Nat → P4} (h2 : w.ownsRow base 75 2 (.slice a2 len c2) len (rowS2 c len)) (h3 : w.ownsRow base 32 4 (.slice a3 np c3) np (rowP4 p np)) : OwnS2 w base a2 len c ∧ OwnP4 w base a3 np p := by
  obtain ⟨ad, cp, e, _, h⟩ := ownS2_of h2
  obtain ⟨ad', cp', e', _, h'⟩ := ownP4_of h3
  simp only [Value.slice.injEq] at e e'
  obtain ⟨rfl, _, rfl⟩ := e
  obtain ⟨rfl, _, rfl⟩ := e'
  exact ⟨h, h'⟩

set_option maxRecDepth 20000 in
set_option maxHeartbeats 4000000 in
theorem implVoid_any (a b : Addr) (len cap : Nat) (c : Nat → S2) (np pcap : Nat) (p : Nat → P4) (at_ : Int) (w : World) (h : (len : Int) ≤ 1048576) (hcap : len ≤ cap) (hs : ∀ j, (c j).pre.size ≤ maxLen) (hr : SRw w (some a) len c) (hn : (np : Int) ≤ 1048576) (hp : PRw w (some b) np p) (hw : ∀ j, (Lit.int .i64 (p j).ser).wf = true) (hT : TP w) :
    Calls Tryd.prog 20 #[.agg #[.slice (some a) len cap, .slice (some b) np pcap], .int .i64 at_] w (VoI c (voidR len c np p at_) w) := by
  have HR : Hid (SRw w (some a) len c) := hr
  have HP : Hid (PRw w (some b) np p) := hp
  have HBA : Hid (Below w.heap.size w ((w.alloc (.cells #[.slice (some a) len cap, .slice (some b) np pcap] 27 (0, 0))).alloc (.cells #[.slice none 0 0, .slice none 0 0] 27 (0, 0)))) := ((Below.refl _ _).alloc (Nat.le_refl _) _).alloc (by simp) _
  have HC : ∀ v, regB len c np p = v → Hid (Calls Tryd.prog 16 #[.agg #[.slice (some a) len cap, .slice (some b) np pcap]] ((w.alloc (.cells #[.slice (some a) len cap, .slice (some b) np pcap] 27 (0, 0))).alloc (.cells #[.slice none 0 0, .slice none 0 0] 27 (0, 0))) _) := fun v hv => implReg_any (some a) len cap c (some b) np pcap p v _ h hcap hs (hr.below HBA.out) hn (hp.below HBA.out) hw (hT.below HBA.out) hv
  clear hr hp hT hw hs
  cases hb : regB len c np p
  · have HCF := HC _ hb
    have HV : Hid (voidR len c np p at_ = ⟨0, 0, p, false⟩) := voidR_n fun H => by rw [regB_t H] at hb; cases hb
    rw [HV.out]
    clear HC hb
    go_enter Tryd.func20, Tryd.ntmps20
    go_wp2_with (first | (go_at_call 16; go_loud (refine HCF.out.mono ?_; rintro e w1 ⟨rfl, b1⟩; obtain ⟨X0, X1, b2⟩ := two_bl b1; have HB1 : Hid (Below w.heap.size w w1) := b2; have k0 := (X0.cell 0).trans rfl; have k1 := (X0.cell 1).trans rfl; have k2 := (X1.cell 0).trans rfl; have k3 := (X1.cell 1).trans rfl; have f0 := X0.fr 0; have f1 := X0.fr 1; have f2 := X1.fr 0; have f3 := X1.fr 1; have HX0 := hid X0; have HX1 := hid X1; have hs1 : w.heap.size + 1 < w1.heap.size := X1.lt; clear b1 b2 HCF X0 X1)))
    have hX := ((HX1.out.set 0 (.slice none 0 0)).set 1 (.slice none 0 0))
    have hZ := ((HB1.out.setCell (p := ⟨w.heap.size + 1, 0, none⟩) (by simp; try omega) (.slice none 0 0)).setCell (p := ⟨w.heap.size + 1, 1, none⟩) (by simp; try omega) (.slice none 0 0))
    have e0 := hX.cell 0
    have e1 := hX.cell 1
    simp at e0 e1
    clear hX
    clear k0 k1 k2 k3 f0 f1 f2 f3
    generalize (World.setCell _ _ _) = W9 at e0 e1 hZ ⊢
    refine bodyPost_ret (by simp [results, Tryd.results20, go_sem, e0, e1]; try rfl) rfl ?_
    exact ⟨none, 0, none, 0, rfl, .inl rfl, .inl rfl, hZ⟩
  have HCF := HC _ hb
  have HRP : Hid (RegP len c np p) := regB_of hb
  clear HC hb
  cases hq : plB at_ (np : Int)
  · have HPL : Hid (plB at_ (np : Int) = false) := hq
    have HV : Hid (voidR len c np p at_ = ⟨len, np, p, false⟩) := voidR_f HRP.out fun H => of_decide_eq_false hq ⟨H.1, H.2.1⟩
    rw [HV.out]
    clear hq
    go_enter Tryd.func20, Tryd.ntmps20
    go_wp2_with (first | (go_at_call 16; go_loud (refine HCF.out.mono ?_; rintro e w1 ⟨rfl, b1⟩; obtain ⟨X0, X1, b2⟩ := two_bl b1; have HB1 : Hid (Below w.heap.size w w1) := b2; have k0 := (X0.cell 0).trans rfl; have k1 := (X0.cell 1).trans rfl; have k2 := (X1.cell 0).trans rfl; have k3 := (X1.cell 1).trans rfl; have f0 := X0.fr 0; have f1 := X0.fr 1; have f2 := X1.fr 0; have f3 := X1.fr 1; have HX0 := hid X0; have HX1 := hid X1; have hs1 : w.heap.size + 1 < w1.heap.size := X1.lt; clear b1 b2 HCF X0 X1)) | (go_at_call 56; go_loud (refine (copied_any a b len cap c np pcap p _ h hn (HR.out.below HB1.out) (HP.out.below HB1.out)).mono ?_; rintro e w2 ⟨a2, c2, a3, c3, rfl, o2, o3, b2⟩; obtain ⟨O2, O3⟩ := own_pair o2 o3; have HO2 := hid O2; have HO3 := hid O3; have HB2 : Hid (Below w.heap.size w w2) := bel_on HB1.out b2; have X0 := HX0.out.below b2 HX0.out.lt; have X1 := HX1.out.below b2 HX1.out.lt; have HY0 := hid X0; have HY1 := hid X1; clear k0 k1 k2 k3 f0 f1 f2 f3; have k0 := (X0.cell 0).trans rfl; have k1 := (X0.cell 1).trans rfl; have k2 := (X1.cell 0).trans rfl; have k3 := (X1.cell 1).trans rfl; have f0 := X0.fr 0; have f1 := X0.fr 1; have f2 := X1.fr 0; have f3 := X1.fr 1; have hs2 : w1.heap.size ≤ w2.heap.size := b2.size;  clear b2 o2 o3 X0 X1 O2 O3)) | (go_at_call 59; refine (isPlace_eq HPL.out).mono ?_; rintro e w3 ⟨rfl, ew⟩; replace ew := ew.symm; subst ew))
    have hX := ((((HY1.out.other (c := w.heap.size) (o := 0) (.slice a2 len c2) (by omega)).other (c := w.heap.size) (o := 1) (.slice a3 np c3) (by omega)).set 0 (.slice a2 len c2)).set 1 (.slice a3 np c3))
    have hO2 := ((((HO2.out.put (b := w.heap.size) (o := 0) (.slice a2 len c2) (by omega)).put (b := w.heap.size) (o := 1) (.slice a3 np c3) (by omega)).put (b := w.heap.size + 1) (o := 0) (.slice a2 len c2) (by omega)).put (b := w.heap.size + 1) (o := 1) (.slice a3 np c3) (by omega))
    have hO3 := ((((HO3.out.put (b := w.heap.size) (o := 0) (.slice a2 len c2) (by omega)).put (b := w.heap.size) (o := 1) (.slice a3 np c3) (by omega)).put (b := w.heap.size + 1) (o := 0) (.slice a2 len c2) (by omega)).put (b := w.heap.size + 1) (o := 1) (.slice a3 np c3) (by omega))
    have hZ := ((((HB2.out.setCell (p := ⟨w.heap.size, 0, none⟩) (by simp; try omega) (.slice a2 len c2)).setCell (p := ⟨w.heap.size, 1, none⟩) (by simp; try omega) (.slice a3 np c3)).setCell (p := ⟨w.heap.size + 1, 0, none⟩) (by simp; try omega) (.slice a2 len c2)).setCell (p := ⟨w.heap.size + 1, 1, none⟩) (by simp; try omega) (.slice a3 np c3))
    have e0 := hX.cell 0
    have e1 := hX.cell 1
    simp at e0 e1
    clear hX
    clear k0 k1 k2 k3 f0 f1 f2 f3
    generalize (World.setCell _ _ _) = W9 at e0 e1 hO2 hO3 hZ ⊢
    refine bodyPost_ret (by simp [results, Tryd.results20, go_sem, e0, e1]; try rfl) rfl ?_
    exact ⟨a2, c2, a3, c3, rfl, hO2.mono (by omega), hO3.mono (by omega), hZ⟩
  have HPL : Hid (plB at_ (np : Int) = true) := hq
  have hq2 := of_decide_eq_true hq
  clear hq
  obtain ⟨k, rfl⟩ : ∃ k : Nat, at_ = (k : Int) := ⟨at_.toNat, by omega⟩
  have hk : k < np := by omega
  have hk2 : (k : Int) < (np : Int) := by omega
  cases hvd : (p k).vd
  · have HVD : Hid ((p k).vd = false) := hvd
    have HV : Hid (voidR len c np p (k : Int) = ⟨len, np, setVd p k, true⟩) := voidR_t HRP.out ⟨hq2.1, hq2.2, by simpa using hvd⟩
    rw [HV.out]
    clear hvd
    go_enter Tryd.func20, Tryd.ntmps20
    go_wp2_with (first | (go_at_call 16; go_loud (refine HCF.out.mono ?_; rintro e w1 ⟨rfl, b1⟩; obtain ⟨X0, X1, b2⟩ := two_bl b1; have HB1 : Hid (Below w.heap.size w w1) := b2; have k0 := (X0.cell 0).trans rfl; have k1 := (X0.cell 1).trans rfl; have k2 := (X1.cell 0).trans rfl; have k3 := (X1.cell 1).trans rfl; have f0 := X0.fr 0; have f1 := X0.fr 1; have f2 := X1.fr 0; have f3 := X1.fr 1; have HX0 := hid X0; have HX1 := hid X1; have hs1 : w.heap.size + 1 < w1.heap.size := X1.lt; clear b1 b2 HCF X0 X1)) | (go_at_call 56; go_loud (refine (copied_any a b len cap c np pcap p _ h hn (HR.out.below HB1.out) (HP.out.below HB1.out)).mono ?_; rintro e w2 ⟨a2, c2, a3, c3, rfl, o2, o3, b2⟩; obtain ⟨O2, O3⟩ := own_pair o2 o3; have HO2 := hid O2; have HO3 := hid O3; have HB2 : Hid (Below w.heap.size w w2) := bel_on HB1.out b2; have X0 := HX0.out.below b2 HX0.out.lt; have X1 := HX1.out.below b2 HX1.out.lt; have HY0 := hid X0; have HY1 := hid X1; clear k0 k1 k2 k3 f0 f1 f2 f3; have k0 := (X0.cell 0).trans rfl; have k1 := (X0.cell 1).trans rfl; have k2 := (X1.cell 0).trans rfl; have k3 := (X1.cell 1).trans rfl; have f0 := X0.fr 0; have f1 := X0.fr 1; have f2 := X1.fr 0; have f3 := X1.fr 1; have hs2 : w1.heap.size ≤ w2.heap.size := b2.size; obtain ⟨g, cs, rfl, hlo, hcb, hsz⟩ := HO3.out.blk (by omega); have hA := HO3.out.row.cell hk; unfold AtP4 at hA; simp only [Nat.zero_add] at hA; obtain ⟨_, _, _, y3⟩ := hA; rw [HVD.out] at y3; have fg := hcb.fr (k * 4 + 3); have hg1 : g ≠ w.heap.size := (by omega); have hg2 : w.heap.size ≠ g := (by omega); have hg3 : g ≠ w.heap.size + 1 := (by omega); have hg4 : w.heap.size + 1 ≠ g := (by omega); clear b2 o2 o3 X0 X1 O2 O3)) | (go_at_call 59; refine (isPlace_eq HPL.out).mono ?_; rintro e w3 ⟨rfl, ew⟩; replace ew := ew.symm; subst ew))
    have hX := (((((HY1.out.other (c := w.heap.size) (o := 0) (.slice a2 len c2) (by omega)).other (c := w.heap.size) (o := 1) (.slice (some ⟨g, 0, none⟩) np c3) (by omega)).other (c := g) (o := k * 4 + 3) (.bool true) (by omega)).set 0 (.slice a2 len c2)).set 1 (.slice (some ⟨g, 0, none⟩) np c3))
    have hO2 := (((((HO2.out.put (b := w.heap.size) (o := 0) (.slice a2 len c2) (by omega)).put (b := w.heap.size) (o := 1) (.slice (some ⟨g, 0, none⟩) np c3) (by omega)).apart ((hcb.other (c := w.heap.size) (o := 0) (.slice a2 len c2) (by omega)).other (c := w.heap.size) (o := 1) (.slice (some ⟨g, 0, none⟩) np c3) (by omega)) (o := k * 4 + 3) (.bool true)).put (b := w.heap.size + 1) (o := 0) (.slice a2 len c2) (by omega)).put (b := w.heap.size + 1) (o := 1) (.slice (some ⟨g, 0, none⟩) np c3) (by omega))
    have hO3 := (((((HO3.out.put (b := w.heap.size) (o := 0) (.slice a2 len c2) (by omega)).put (b := w.heap.size) (o := 1) (.slice (some ⟨g, 0, none⟩) np c3) (by omega)).vd hk).put (b := w.heap.size + 1) (o := 0) (.slice a2 len c2) (by omega)).put (b := w.heap.size + 1) (o := 1) (.slice (some ⟨g, 0, none⟩) np c3) (by omega))
    have hZ := (((((HB2.out.setCell (p := ⟨w.heap.size, 0, none⟩) (by simp; try omega) (.slice a2 len c2)).setCell (p := ⟨w.heap.size, 1, none⟩) (by simp; try omega) (.slice (some ⟨g, 0, none⟩) np c3)).setCell (p := ⟨g, k * 4 + 3, none⟩) (by simp; try omega) (.bool true)).setCell (p := ⟨w.heap.size + 1, 0, none⟩) (by simp; try omega) (.slice a2 len c2)).setCell (p := ⟨w.heap.size + 1, 1, none⟩) (by simp; try omega) (.slice (some ⟨g, 0, none⟩) np c3))
    have e0 := hX.cell 0
    have e1 := hX.cell 1
    simp at e0 e1
    clear hX
    clear k0 k1 k2 k3 f0 f1 f2 f3
    clear y3 fg
    generalize (World.setCell _ _ _) = W9 at e0 e1 hO2 hO3 hZ ⊢
    refine bodyPost_ret (by simp [results, Tryd.results20, go_sem, e0, e1]; try rfl) rfl ?_
    exact ⟨a2, c2, (some ⟨g, 0, none⟩), c3, rfl, hO2.mono (by omega), hO3.mono (by omega), hZ⟩
  · have HVD : Hid ((p k).vd = true) := hvd
    have HV : Hid (voidR len c np p (k : Int) = ⟨len, np, p, false⟩) := voidR_f HRP.out fun H => by have := H.2.2; simp [hvd] at this
    rw [HV.out]
    clear hvd
    go_enter Tryd.func20, Tryd.ntmps20
    go_wp2_with (first | (go_at_call 16; go_loud (refine HCF.out.mono ?_; rintro e w1 ⟨rfl, b1⟩; obtain ⟨X0, X1, b2⟩ := two_bl b1; have HB1 : Hid (Below w.heap.size w w1) := b2; have k0 := (X0.cell 0).trans rfl; have k1 := (X0.cell 1).trans rfl; have k2 := (X1.cell 0).trans rfl; have k3 := (X1.cell 1).trans rfl; have f0 := X0.fr 0; have f1 := X0.fr 1; have f2 := X1.fr 0; have f3 := X1.fr 1; have HX0 := hid X0; have HX1 := hid X1; have hs1 : w.heap.size + 1 < w1.heap.size := X1.lt; clear b1 b2 HCF X0 X1)) | (go_at_call 56; go_loud (refine (copied_any a b len cap c np pcap p _ h hn (HR.out.below HB1.out) (HP.out.below HB1.out)).mono ?_; rintro e w2 ⟨a2, c2, a3, c3, rfl, o2, o3, b2⟩; obtain ⟨O2, O3⟩ := own_pair o2 o3; have HO2 := hid O2; have HO3 := hid O3; have HB2 : Hid (Below w.heap.size w w2) := bel_on HB1.out b2; have X0 := HX0.out.below b2 HX0.out.lt; have X1 := HX1.out.below b2 HX1.out.lt; have HY0 := hid X0; have HY1 := hid X1; clear k0 k1 k2 k3 f0 f1 f2 f3; have k0 := (X0.cell 0).trans rfl; have k1 := (X0.cell 1).trans rfl; have k2 := (X1.cell 0).trans rfl; have k3 := (X1.cell 1).trans rfl; have f0 := X0.fr 0; have f1 := X0.fr 1; have f2 := X1.fr 0; have f3 := X1.fr 1; have hs2 : w1.heap.size ≤ w2.heap.size := b2.size; obtain ⟨g, cs, rfl, hlo, hcb, hsz⟩ := HO3.out.blk (by omega); have hA := HO3.out.row.cell hk; unfold AtP4 at hA; simp only [Nat.zero_add] at hA; obtain ⟨_, _, _, y3⟩ := hA; rw [HVD.out] at y3; have fg := hcb.fr (k * 4 + 3); have hg1 : g ≠ w.heap.size := (by omega); have hg2 : w.heap.size ≠ g := (by omega); have hg3 : g ≠ w.heap.size + 1 := (by omega); have hg4 : w.heap.size + 1 ≠ g := (by omega); clear b2 o2 o3 X0 X1 O2 O3)) | (go_at_call 59; refine (isPlace_eq HPL.out).mono ?_; rintro e w3 ⟨rfl, ew⟩; replace ew := ew.symm; subst ew))
    have hX := ((((HY1.out.other (c := w.heap.size) (o := 0) (.slice a2 len c2) (by omega)).other (c := w.heap.size) (o := 1) (.slice (some ⟨g, 0, none⟩) np c3) (by omega)).set 0 (.slice a2 len c2)).set 1 (.slice (some ⟨g, 0, none⟩) np c3))
    have hO2 := ((((HO2.out.put (b := w.heap.size) (o := 0) (.slice a2 len c2) (by omega)).put (b := w.heap.size) (o := 1) (.slice (some ⟨g, 0, none⟩) np c3) (by omega)).put (b := w.heap.size + 1) (o := 0) (.slice a2 len c2) (by omega)).put (b := w.heap.size + 1) (o := 1) (.slice (some ⟨g, 0, none⟩) np c3) (by omega))
    have hO3 := ((((HO3.out.put (b := w.heap.size) (o := 0) (.slice a2 len c2) (by omega)).put (b := w.heap.size) (o := 1) (.slice (some ⟨g, 0, none⟩) np c3) (by omega)).put (b := w.heap.size + 1) (o := 0) (.slice a2 len c2) (by omega)).put (b := w.heap.size + 1) (o := 1) (.slice (some ⟨g, 0, none⟩) np c3) (by omega))
    have hZ := ((((HB2.out.setCell (p := ⟨w.heap.size, 0, none⟩) (by simp; try omega) (.slice a2 len c2)).setCell (p := ⟨w.heap.size, 1, none⟩) (by simp; try omega) (.slice (some ⟨g, 0, none⟩) np c3)).setCell (p := ⟨w.heap.size + 1, 0, none⟩) (by simp; try omega) (.slice a2 len c2)).setCell (p := ⟨w.heap.size + 1, 1, none⟩) (by simp; try omega) (.slice (some ⟨g, 0, none⟩) np c3))
    have e0 := hX.cell 0
    have e1 := hX.cell 1
    simp at e0 e1
    clear hX
    clear k0 k1 k2 k3 f0 f1 f2 f3
    clear y3 fg
    generalize (World.setCell _ _ _) = W9 at e0 e1 hO2 hO3 hZ ⊢
    refine bodyPost_ret (by simp [results, Tryd.results20, go_sem, e0, e1]; try rfl) rfl ?_
    exact ⟨a2, c2, (some ⟨g, 0, none⟩), c3, rfl, hO2.mono (by omega), hO3.mono (by omega), hZ⟩

set_option maxRecDepth 20000 in
set_option maxHeartbeats 4000000 in
theorem specVoid_any (a b : Addr) (len cap : Nat) (c : Nat → S2) (np pcap : Nat) (p : Nat → P4) (at_ : Int) (w : World) (h : (len : Int) ≤ 1048576) (hs : ∀ j, (c j).pre.size ≤ maxLen) (hr : SRw w (some a) len c) (hn : (np : Int) ≤ 1048576) (hp : PRw w (some b) np p) :
    Calls Tryd.prog 32 #[.agg #[.slice (some a) len cap, .slice (some b) np pcap], .int .i64 at_] w (VoI c (voidR len c np p at_) w) := by
  have HR : Hid (SRw w (some a) len c) := hr
  have HP : Hid (PRw w (some b) np p) := hp
  have HBA : Hid (Below w.heap.size w ((w.alloc (.cells #[.slice (some a) len cap, .slice (some b) np pcap] 27 (0, 0))).alloc (.cells #[.slice none 0 0, .slice none 0 0] 27 (0, 0)))) := ((Below.refl _ _).alloc (Nat.le_refl _) _).alloc (by simp) _
  have HC := specReg_any (some a) len cap c (some b) np pcap p ((w.alloc (.cells #[.slice (some a) len cap, .slice (some b) np pcap] 27 (0, 0))).alloc (.cells #[.slice none 0 0, .slice none 0 0] 27 (0, 0))) h hs (hr.below HBA.out) hn (hp.below HBA.out)
  clear hr hp hs
  cases hb : regB len c np p
  · rw [hb] at HC
    have HCF := hid HC
    have HV : Hid (voidR len c np p at_ = ⟨0, 0, p, false⟩) := voidR_n fun H => by rw [regB_t H] at hb; cases hb
    rw [HV.out]
    clear HC hb
    go_enter Tryd.func32, Tryd.ntmps32
    go_wp2_with (first | (go_at_call 15; go_loud (refine HCF.out.mono ?_; rintro e w1 ⟨rfl, b1⟩; obtain ⟨X0, X1, b2⟩ := two_bl b1; have HB1 : Hid (Below w.heap.size w w1) := b2; have k0 := (X0.cell 0).trans rfl; have k1 := (X0.cell 1).trans rfl; have k2 := (X1.cell 0).trans rfl; have k3 := (X1.cell 1).trans rfl; have f0 := X0.fr 0; have f1 := X0.fr 1; have f2 := X1.fr 0; have f3 := X1.fr 1; have HX0 := hid X0; have HX1 := hid X1; have hs1 : w.heap.size + 1 < w1.heap.size := X1.lt; clear b1 b2 HCF X0 X1)))
    have hX := ((HX1.out.set 0 (.slice none 0 0)).set 1 (.slice none 0 0))
    have hZ := ((HB1.out.setCell (p := ⟨w.heap.size + 1, 0, none⟩) (by simp; try omega) (.slice none 0 0)).setCell (p := ⟨w.heap.size + 1, 1, none⟩) (by simp; try omega) (.slice none 0 0))
    have e0 := hX.cell 0
    have e1 := hX.cell 1
    simp at e0 e1
    clear hX
    clear k0 k1 k2 k3 f0 f1 f2 f3
    generalize (World.setCell _ _ _) = W9 at e0 e1 hZ ⊢
    refine bodyPost_ret (by simp [results, Tryd.results32, go_sem, e0, e1]; try rfl) rfl ?_
    exact ⟨none, 0, none, 0, rfl, .inl rfl, .inl rfl, hZ⟩
  rw [hb] at HC
  have HCF := hid HC
  have HRP : Hid (RegP len c np p) := regB_of hb
  clear HC hb
  cases hq : inB at_ 0 ((np : Int) - 1)
  · have HIN : Hid (inB at_ 0 ((np : Int) - 1) = false) := hq
    have HV : Hid (voidR len c np p at_ = ⟨len, np, p, false⟩) := voidR_f HRP.out fun H => inB_f hq ⟨H.1, by have := H.2.1; omega⟩
    rw [HV.out]
    clear hq
    go_enter Tryd.func32, Tryd.ntmps32
    go_wp2_with (first | (go_at_call 15; go_loud (refine HCF.out.mono ?_; rintro e w1 ⟨rfl, b1⟩; obtain ⟨X0, X1, b2⟩ := two_bl b1; have HB1 : Hid (Below w.heap.size w w1) := b2; have k0 := (X0.cell 0).trans rfl; have k1 := (X0.cell 1).trans rfl; have k2 := (X1.cell 0).trans rfl; have k3 := (X1.cell 1).trans rfl; have f0 := X0.fr 0; have f1 := X0.fr 1; have f2 := X1.fr 0; have f3 := X1.fr 1; have HX0 := hid X0; have HX1 := hid X1; have hs1 : w.heap.size + 1 < w1.heap.size := X1.lt; clear b1 b2 HCF X0 X1)) | (go_at_call 58; go_loud (refine (l11Reg_any a b len cap c np pcap p _ h hn (HR.out.below HB1.out) (HP.out.below HB1.out)).mono ?_; rintro e w2 ⟨a2, c2, a3, c3, rfl, o2, o3, b2⟩; obtain ⟨O2, O3⟩ := own_pair o2 o3; have HO2 := hid O2; have HO3 := hid O3; have HB2 : Hid (Below w.heap.size w w2) := bel_on HB1.out b2; have X0 := HX0.out.below b2 HX0.out.lt; have X1 := HX1.out.below b2 HX1.out.lt; have HY0 := hid X0; have HY1 := hid X1; clear k0 k1 k2 k3 f0 f1 f2 f3; have k0 := (X0.cell 0).trans rfl; have k1 := (X0.cell 1).trans rfl; have k2 := (X1.cell 0).trans rfl; have k3 := (X1.cell 1).trans rfl; have f0 := X0.fr 0; have f1 := X0.fr 1; have f2 := X1.fr 0; have f3 := X1.fr 1; have hs2 : w1.heap.size ≤ w2.heap.size := b2.size; have k1 : w2.cell? ⟨w.heap.size, 1, none⟩ = some (.slice (some b) np pcap) := (X0.cell 1).trans rfl; have kk1 := keep_cell ((Below.refl _ _).alloc (Nat.le_refl _) (.cells #[.slice a2 len c2, .slice a3 np c3] 27 (0, 0))) k1; clear b2 o2 o3 X0 X1 O2 O3)))
    have hbn : Below w2.heap.size w2 (w2.alloc (.cells #[.slice a2 len c2, .slice a3 np c3] 27 (0, 0))) := (Below.refl _ _).alloc (Nat.le_refl _) _
    have XN : CB (w2.alloc (.cells #[.slice a2 len c2, .slice a3 np c3] 27 (0, 0))) w2.heap.size #[.slice a2 len c2, .slice a3 np c3] 27 := CB.new _ _
    replace HY0 := hid (HY0.out.below hbn HY0.out.lt)
    replace HY1 := hid (HY1.out.below hbn HY1.out.lt)
    replace HO2 := hid (HO2.out.below hbn)
    replace HO3 := hid (HO3.out.below hbn)
    replace HB2 := hid (bel_on HB2.out hbn)
    have hs3 := hbn.size
    clear hbn k0 k1 k2 k3 f0 f1 f2 f3 kk1
    generalize (w2.alloc (.cells #[.slice a2 len c2, .slice a3 np c3] 27 (0, 0))) = wn at XN HY0 HY1 HO2 HO3 HB2 hs3 ⊢
    have k0 := (XN.cell 0).trans rfl
    have k1 := (XN.cell 1).trans rfl
    have k2 := (HY1.out.cell 0).trans rfl
    have k3 := (HY1.out.cell 1).trans rfl
    have f0 := (HY0.out.cell 1).trans rfl
    have f1 := HY1.out.fr 0
    have f2 := HY1.out.fr 1
    have f3 := HY1.out.fr 2
    go_wp2_with (first | (go_at_call 51; refine (l1In_eq HIN.out).mono ?_; rintro e w3 ⟨rfl, ew⟩; replace ew := ew.symm; subst ew))
    have hX := ((HY1.out.set 0 (.slice a2 len c2)).set 1 (.slice a3 np c3))
    have hO2 := ((HO2.out.put (b := w.heap.size + 1) (o := 0) (.slice a2 len c2) (by omega)).put (b := w.heap.size + 1) (o := 1) (.slice a3 np c3) (by omega))
    have hO3 := ((HO3.out.put (b := w.heap.size + 1) (o := 0) (.slice a2 len c2) (by omega)).put (b := w.heap.size + 1) (o := 1) (.slice a3 np c3) (by omega))
    have hZ := ((HB2.out.setCell (p := ⟨w.heap.size + 1, 0, none⟩) (by simp; try omega) (.slice a2 len c2)).setCell (p := ⟨w.heap.size + 1, 1, none⟩) (by simp; try omega) (.slice a3 np c3))
    have e0 := hX.cell 0
    have e1 := hX.cell 1
    simp at e0 e1
    clear hX
    clear k0 k1 k2 k3 f0 f1 f2 f3
    generalize (World.setCell _ _ _) = W9 at e0 e1 hO2 hO3 hZ ⊢
    refine bodyPost_ret (by simp [results, Tryd.results32, go_sem, e0, e1]; try rfl) rfl ?_
    exact ⟨a2, c2, a3, c3, rfl, hO2.mono (by omega), hO3.mono (by omega), hZ⟩
  have HIN : Hid (inB at_ 0 ((np : Int) - 1) = true) := hq
  have hq2 := inB_t hq
  clear hq
  obtain ⟨k, rfl⟩ : ∃ k : Nat, at_ = (k : Int) := ⟨at_.toNat, by omega⟩
  have hk : k < np := by omega
  have hk2 : (k : Int) < (np : Int) := by omega
  obtain ⟨kb, off, e1, _⟩ := HP.out.addr (by omega)
  cases e1
  cases hvd : (p k).vd
  · have HVD : Hid ((p k).vd = false) := hvd
    have HV : Hid (voidR len c np p (k : Int) = ⟨len, np, setVd p k, true⟩) := voidR_t HRP.out ⟨by omega, by omega, by simpa using hvd⟩
    rw [HV.out]
    clear hvd
    go_enter Tryd.func32, Tryd.ntmps32
    go_wp2_with (first | (go_at_call 15; go_loud (refine HCF.out.mono ?_; rintro e w1 ⟨rfl, b1⟩; obtain ⟨X0, X1, b2⟩ := two_bl b1; have HB1 : Hid (Below w.heap.size w w1) := b2; have k0 := (X0.cell 0).trans rfl; have k1 := (X0.cell 1).trans rfl; have k2 := (X1.cell 0).trans rfl; have k3 := (X1.cell 1).trans rfl; have f0 := X0.fr 0; have f1 := X0.fr 1; have f2 := X1.fr 0; have f3 := X1.fr 1; have HX0 := hid X0; have HX1 := hid X1; have hs1 : w.heap.size + 1 < w1.heap.size := X1.lt; clear b1 b2 HCF X0 X1)) | (go_at_call 58; go_loud (refine (l11Reg_any a ⟨kb, off, none⟩ len cap c np pcap p _ h hn (HR.out.below HB1.out) (HP.out.below HB1.out)).mono ?_; rintro e w2 ⟨a2, c2, a3, c3, rfl, o2, o3, b2⟩; obtain ⟨O2, O3⟩ := own_pair o2 o3; have HO2 := hid O2; have HO3 := hid O3; have HB2 : Hid (Below w.heap.size w w2) := bel_on HB1.out b2; have X0 := HX0.out.below b2 HX0.out.lt; have X1 := HX1.out.below b2 HX1.out.lt; have HY0 := hid X0; have HY1 := hid X1; clear k0 k1 k2 k3 f0 f1 f2 f3; have k0 := (X0.cell 0).trans rfl; have k1 := (X0.cell 1).trans rfl; have k2 := (X1.cell 0).trans rfl; have k3 := (X1.cell 1).trans rfl; have f0 := X0.fr 0; have f1 := X0.fr 1; have f2 := X1.fr 0; have f3 := X1.fr 1; have hs2 : w1.heap.size ≤ w2.heap.size := b2.size; have k1 : w2.cell? ⟨w.heap.size, 1, none⟩ = some (.slice (some ⟨kb, off, none⟩) np pcap) := (X0.cell 1).trans rfl; have kk1 := keep_cell ((Below.refl _ _).alloc (Nat.le_refl _) (.cells #[.slice a2 len c2, .slice a3 np c3] 27 (0, 0))) k1; clear b2 o2 o3 X0 X1 O2 O3)))
    have hbn : Below w2.heap.size w2 (w2.alloc (.cells #[.slice a2 len c2, .slice a3 np c3] 27 (0, 0))) := (Below.refl _ _).alloc (Nat.le_refl _) _
    have XN : CB (w2.alloc (.cells #[.slice a2 len c2, .slice a3 np c3] 27 (0, 0))) w2.heap.size #[.slice a2 len c2, .slice a3 np c3] 27 := CB.new _ _
    replace HY0 := hid (HY0.out.below hbn HY0.out.lt)
    replace HY1 := hid (HY1.out.below hbn HY1.out.lt)
    replace HO2 := hid (HO2.out.below hbn)
    replace HO3 := hid (HO3.out.below hbn)
    replace HB2 := hid (bel_on HB2.out hbn)
    have hs3 := hbn.size
    clear hbn k0 k1 k2 k3 f0 f1 f2 f3 kk1
    generalize (w2.alloc (.cells #[.slice a2 len c2, .slice a3 np c3] 27 (0, 0))) = wn at XN HY0 HY1 HO2 HO3 HB2 hs3 ⊢
    have k0 := (XN.cell 0).trans rfl
    have k1 := (XN.cell 1).trans rfl
    have k2 := (HY1.out.cell 0).trans rfl
    have k3 := (HY1.out.cell 1).trans rfl
    have f0 := (HY0.out.cell 1).trans rfl
    have f1 := HY1.out.fr 0
    have f2 := HY1.out.fr 1
    have f3 := HY1.out.fr 2
    obtain ⟨g, cs, rfl, hlo, hcb, hsz⟩ := HO3.out.blk (by omega)
    obtain ⟨_, _, _, y3⟩ := (HP.out.below HB2.out).cell hk
    rw [HVD.out] at y3
    have hA := HO3.out.row.cell hk
    unfold AtP4 at hA
    simp only [Nat.zero_add] at hA
    obtain ⟨_, _, _, y4⟩ := hA
    rw [HVD.out] at y4
    have fg := hcb.fr (k * 4 + 3)
    have hg1 : g ≠ w.heap.size := by omega
    have hg2 : w.heap.size ≠ g := by omega
    have hg3 : g ≠ w.heap.size + 1 := by omega
    have hg4 : w.heap.size + 1 ≠ g := by omega
    have hg5 : g ≠ w2.heap.size := CB_ne hcb XN (by decide)
    have hg6 : w2.heap.size ≠ g := fun e => hg5 e.symm
    go_wp2_with (first | (go_at_call 51; refine (l1In_eq HIN.out).mono ?_; rintro e w3 ⟨rfl, ew⟩; replace ew := ew.symm; subst ew))
    have hX := (((HY1.out.other (c := g) (o := k * 4 + 3) (.bool true) (by omega)).set 0 (.slice a2 len c2)).set 1 (.slice (some ⟨g, 0, none⟩) np c3))
    have hO2 := (((HO2.out.apart hcb (o := k * 4 + 3) (.bool true)).put (b := w.heap.size + 1) (o := 0) (.slice a2 len c2) (by omega)).put (b := w.heap.size + 1) (o := 1) (.slice (some ⟨g, 0, none⟩) np c3) (by omega))
    have hO3 := (((HO3.out.vd hk).put (b := w.heap.size + 1) (o := 0) (.slice a2 len c2) (by omega)).put (b := w.heap.size + 1) (o := 1) (.slice (some ⟨g, 0, none⟩) np c3) (by omega))
    have hZ := (((HB2.out.setCell (p := ⟨g, k * 4 + 3, none⟩) (by simp; try omega) (.bool true)).setCell (p := ⟨w.heap.size + 1, 0, none⟩) (by simp; try omega) (.slice a2 len c2)).setCell (p := ⟨w.heap.size + 1, 1, none⟩) (by simp; try omega) (.slice (some ⟨g, 0, none⟩) np c3))
    have e0 := hX.cell 0
    have e1 := hX.cell 1
    simp at e0 e1
    clear hX
    clear k0 k1 k2 k3 f0 f1 f2 f3
    clear y3 fg
    generalize (World.setCell _ _ _) = W9 at e0 e1 hO2 hO3 hZ ⊢
    refine bodyPost_ret (by simp [results, Tryd.results32, go_sem, e0, e1]; try rfl) rfl ?_
    exact ⟨a2, c2, (some ⟨g, 0, none⟩), c3, rfl, hO2.mono (by omega), hO3.mono (by omega), hZ⟩
  · have HVD : Hid ((p k).vd = true) := hvd
    have HV : Hid (voidR len c np p (k : Int) = ⟨len, np, p, false⟩) := voidR_f HRP.out fun H => by have := H.2.2; simp [hvd] at this
    rw [HV.out]
    clear hvd
    go_enter Tryd.func32, Tryd.ntmps32
    go_wp2_with (first | (go_at_call 15; go_loud (refine HCF.out.mono ?_; rintro e w1 ⟨rfl, b1⟩; obtain ⟨X0, X1, b2⟩ := two_bl b1; have HB1 : Hid (Below w.heap.size w w1) := b2; have k0 := (X0.cell 0).trans rfl; have k1 := (X0.cell 1).trans rfl; have k2 := (X1.cell 0).trans rfl; have k3 := (X1.cell 1).trans rfl; have f0 := X0.fr 0; have f1 := X0.fr 1; have f2 := X1.fr 0; have f3 := X1.fr 1; have HX0 := hid X0; have HX1 := hid X1; have hs1 : w.heap.size + 1 < w1.heap.size := X1.lt; clear b1 b2 HCF X0 X1)) | (go_at_call 58; go_loud (refine (l11Reg_any a ⟨kb, off, none⟩ len cap c np pcap p _ h hn (HR.out.below HB1.out) (HP.out.below HB1.out)).mono ?_; rintro e w2 ⟨a2, c2, a3, c3, rfl, o2, o3, b2⟩; obtain ⟨O2, O3⟩ := own_pair o2 o3; have HO2 := hid O2; have HO3 := hid O3; have HB2 : Hid (Below w.heap.size w w2) := bel_on HB1.out b2; have X0 := HX0.out.below b2 HX0.out.lt; have X1 := HX1.out.below b2 HX1.out.lt; have HY0 := hid X0; have HY1 := hid X1; clear k0 k1 k2 k3 f0 f1 f2 f3; have k0 := (X0.cell 0).trans rfl; have k1 := (X0.cell 1).trans rfl; have k2 := (X1.cell 0).trans rfl; have k3 := (X1.cell 1).trans rfl; have f0 := X0.fr 0; have f1 := X0.fr 1; have f2 := X1.fr 0; have f3 := X1.fr 1; have hs2 : w1.heap.size ≤ w2.heap.size := b2.size; have k1 : w2.cell? ⟨w.heap.size, 1, none⟩ = some (.slice (some ⟨kb, off, none⟩) np pcap) := (X0.cell 1).trans rfl; have kk1 := keep_cell ((Below.refl _ _).alloc (Nat.le_refl _) (.cells #[.slice a2 len c2, .slice a3 np c3] 27 (0, 0))) k1; clear b2 o2 o3 X0 X1 O2 O3)))
    have hbn : Below w2.heap.size w2 (w2.alloc (.cells #[.slice a2 len c2, .slice a3 np c3] 27 (0, 0))) := (Below.refl _ _).alloc (Nat.le_refl _) _
    have XN : CB (w2.alloc (.cells #[.slice a2 len c2, .slice a3 np c3] 27 (0, 0))) w2.heap.size #[.slice a2 len c2, .slice a3 np c3] 27 := CB.new _ _
    replace HY0 := hid (HY0.out.below hbn HY0.out.lt)
    replace HY1 := hid (HY1.out.below hbn HY1.out.lt)
    replace HO2 := hid (HO2.out.below hbn)
    replace HO3 := hid (HO3.out.below hbn)
    replace HB2 := hid (bel_on HB2.out hbn)
    have hs3 := hbn.size
    clear hbn k0 k1 k2 k3 f0 f1 f2 f3 kk1
    generalize (w2.alloc (.cells #[.slice a2 len c2, .slice a3 np c3] 27 (0, 0))) = wn at XN HY0 HY1 HO2 HO3 HB2 hs3 ⊢
    have k0 := (XN.cell 0).trans rfl
    have k1 := (XN.cell 1).trans rfl
    have k2 := (HY1.out.cell 0).trans rfl
    have k3 := (HY1.out.cell 1).trans rfl
    have f0 := (HY0.out.cell 1).trans rfl
    have f1 := HY1.out.fr 0
    have f2 := HY1.out.fr 1
    have f3 := HY1.out.fr 2
    obtain ⟨g, cs, rfl, hlo, hcb, hsz⟩ := HO3.out.blk (by omega)
    obtain ⟨_, _, _, y3⟩ := (HP.out.below HB2.out).cell hk
    rw [HVD.out] at y3
    have hA := HO3.out.row.cell hk
    unfold AtP4 at hA
    simp only [Nat.zero_add] at hA
    obtain ⟨_, _, _, y4⟩ := hA
    rw [HVD.out] at y4
    have fg := hcb.fr (k * 4 + 3)
    have hg1 : g ≠ w.heap.size := by omega
    have hg2 : w.heap.size ≠ g := by omega
    have hg3 : g ≠ w.heap.size + 1 := by omega
    have hg4 : w.heap.size + 1 ≠ g := by omega
    have hg5 : g ≠ w2.heap.size := CB_ne hcb XN (by decide)
    have hg6 : w2.heap.size ≠ g := fun e => hg5 e.symm
    go_wp2_with (first | (go_at_call 51; refine (l1In_eq HIN.out).mono ?_; rintro e w3 ⟨rfl, ew⟩; replace ew := ew.symm; subst ew))
    have hX := ((HY1.out.set 0 (.slice a2 len c2)).set 1 (.slice (some ⟨g, 0, none⟩) np c3))
    have hO2 := ((HO2.out.put (b := w.heap.size + 1) (o := 0) (.slice a2 len c2) (by omega)).put (b := w.heap.size + 1) (o := 1) (.slice (some ⟨g, 0, none⟩) np c3) (by omega))
    have hO3 := ((HO3.out.put (b := w.heap.size + 1) (o := 0) (.slice a2 len c2) (by omega)).put (b := w.heap.size + 1) (o := 1) (.slice (some ⟨g, 0, none⟩) np c3) (by omega))
    have hZ := ((HB2.out.setCell (p := ⟨w.heap.size + 1, 0, none⟩) (by simp; try omega) (.slice a2 len c2)).setCell (p := ⟨w.heap.size + 1, 1, none⟩) (by simp; try omega) (.slice (some ⟨g, 0, none⟩) np c3))
    have e0 := hX.cell 0
    have e1 := hX.cell 1
    simp at e0 e1
    clear hX
    clear k0 k1 k2 k3 f0 f1 f2 f3
    clear y3 fg
    generalize (World.setCell _ _ _) = W9 at e0 e1 hO2 hO3 hZ ⊢
    refine bodyPost_ret (by simp [results, Tryd.results32, go_sem, e0, e1]; try rfl) rfl ?_
    exact ⟨a2, c2, (some ⟨g, 0, none⟩), c3, rfl, hO2.mono (by omega), hO3.mono (by omega), hZ⟩
end Go.Proofs.YtdhpadcihlmhiaaDoor
