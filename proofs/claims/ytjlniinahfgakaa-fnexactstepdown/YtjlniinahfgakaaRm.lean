/- The laws over rules: copies, likeness, marks. -/
import Derived.Test.YtjlniinahfgakaaRl
namespace Go.Proofs.Ytjlniinahfgakaa
open Go.ChangeShapes Go.WideShapes Go.ChangeAt Go.RowKit
set_option linter.unusedVariables false
set_option linter.unusedSimpArgs false

/-- A row of whole numbers of its own block. -/
def RowAt (w : World) (b n : Nat) (z : Nat → Int) : Prop := IR w (some ⟨b, 0, none⟩) n z ∧ ∃ cs, CB w b cs 3 ∧ cs.size = n
section
variable {w w' : World} {b n : Nat} {z : Nat → Int}
theorem RowAt.lt (H : RowAt w b n z) : b < w.heap.size := by obtain ⟨_, cs, h, _⟩ := H; exact h.lt
theorem RowAt.below (H : RowAt w b n z) (k : Below w.heap.size w w') : RowAt w' b n z := by obtain ⟨h, cs, h1, h2⟩ := H; exact ⟨h.below k, cs, h1.below k h1.lt, h2⟩
theorem RowAt.other (H : RowAt w b n z) {c o : Nat} (u : Value) (h : b ≠ c) : RowAt (w.setCell ⟨c, o, none⟩ u) b n z := by obtain ⟨h0, cs, h1, h2⟩ := H; exact ⟨h0.other u h, cs, h1.other u h, h2⟩
end
theorem toIntS_at {ad : Option Addr} {len cap : Nat} {z : Nat → Int} {w : World} {b : Nat} (hb : w.heap.size = b) (h : (len : Int) ≤ 1048576) (hr : IR w ad len z) :
    Calls Try.prog 23 #[.slice ad len cap] w fun e w' => e = .returned (.slice (some ⟨b, 0, none⟩) len len) ∧ RowAt w' b len z ∧ Below w.heap.size w w' := by
  subst hb; exact toIntS_any ad len cap z w h hr
theorem three_bl {w w1 : World} {bs cs ds : Array Value} {s t u : TypeId} (b : Below (((w.alloc (.cells bs s (0, 0))).alloc (.cells cs t (0, 0))).alloc (.cells ds u (0, 0))).heap.size (((w.alloc (.cells bs s (0, 0))).alloc (.cells cs t (0, 0))).alloc (.cells ds u (0, 0))) w1) :
    CB w1 w.heap.size bs s ∧ CB w1 (w.heap.size + 1) cs t ∧ CB w1 (w.heap.size + 1 + 1) ds u ∧ Below w.heap.size w w1 := by
  refine ⟨?_, ?_, ?_, ?_⟩
  · exact (((CB.new bs s).alloc _).alloc _).below b (by simp; omega)
  · exact ((CB.newAt (by simp) cs t).alloc _).below b (by simp)
  · exact (CB.newAt (by simp) ds u).below b (by simp)
  · exact bel_on ((((Below.refl _ _).alloc (Nat.le_refl _) _).alloc (by simp) _).alloc (by simp; omega) _) b

set_option maxRecDepth 20000 in
set_option maxHeartbeats 2000000 in
theorem toRule_any (f : Int) (ta wa : Option Addr) (tn tc wn wc : Nat) (to wt : Nat → Int) (w : World) (h1 : (tn : Int) ≤ 1048576) (h2 : (wn : Int) ≤ 1048576) (hT : IR w ta tn to) (hW : IR w wa wn wt) :
    Calls Try.prog 66 #[.agg #[.int .i64 f, .slice ta tn tc, .slice wa wn wc]] w fun e w' => ∃ bt bw, e = .returned (.agg #[.int .i64 f, .slice (some ⟨bt, 0, none⟩) tn tn, .slice (some ⟨bw, 0, none⟩) wn wn]) ∧ (w.heap.size ≤ bt ∧ bt < bw) ∧ (RowAt w' bt tn to ∧ RowAt w' bw wn wt) ∧ Below w.heap.size w w' := by
  have HT : Hid (IR w ta tn to) := hT
  have HW : Hid (IR w wa wn wt) := hW
  have HBL : Hid (Below w.heap.size w (((w.alloc (.cells #[.int .i64 f, .slice ta tn tc, .slice wa wn wc] 91 (0, 0))).alloc (.cells #[.int .i64 0, .slice none 0 0, .slice none 0 0] 36 (0, 0))).alloc (.cells #[.int .i64 f, .slice none 0 0, .slice none 0 0] 36 (0, 0)))) := (((Below.refl _ _).alloc (Nat.le_refl _) _).alloc (by simp) _).alloc (by simp; omega) _
  clear hT hW
  have tok1 : True := trivial
  go_enter Try.func66, Try.ntmps66
  go_wp2_with (first
    | (go_at_call 23; clear tok1; go_loud (refine (toIntS_at (b := w.heap.size + 1 + 1 + 1) (by simp) h1 (HT.out.below HBL.out)).mono ?_; rintro e w1 ⟨rfl, o1, b1⟩; obtain ⟨C0, C1, C2, b2⟩ := three_bl b1; have k0 := (C2.cell 0).trans rfl; have k1 := (C2.cell 1).trans rfl; have k2 := (C2.cell 2).trans rfl; have m2 := (C0.cell 2).trans rfl; have f1 := C2.fr 1; have hl1 := o1.lt; have HB1 : Hid (Below w.heap.size w (w1.setCell ⟨w.heap.size + 1 + 1, 1, none⟩ (.slice (some ⟨w.heap.size + 1 + 1 + 1, 0, none⟩) tn tn))) := b2.setCell (by show w.heap.size ≤ w.heap.size + 1 + 1; omega) _; have HC1 : Hid (CB (w1.setCell ⟨w.heap.size + 1 + 1, 1, none⟩ (.slice (some ⟨w.heap.size + 1 + 1 + 1, 0, none⟩) tn tn)) (w.heap.size + 1) #[.int .i64 0, .slice none 0 0, .slice none 0 0] 36) := C1.other _ (by omega); have HC2 : Hid (CB (w1.setCell ⟨w.heap.size + 1 + 1, 1, none⟩ (.slice (some ⟨w.heap.size + 1 + 1 + 1, 0, none⟩) tn tn)) (w.heap.size + 1 + 1) #[.int .i64 f, .slice (some ⟨w.heap.size + 1 + 1 + 1, 0, none⟩) tn tn, .slice none 0 0] 36) := C2.set 1 _; have HO1 : Hid (RowAt (w1.setCell ⟨w.heap.size + 1 + 1, 1, none⟩ (.slice (some ⟨w.heap.size + 1 + 1 + 1, 0, none⟩) tn tn)) (w.heap.size + 1 + 1 + 1) tn to) := o1.other _ (by omega); clear o1 b1 b2 C0 C1 C2))
    | (go_at_call 23; go_loud (refine (toIntS_at (b := w1.heap.size) (by simp [World.setCell]) h2 (HW.out.below HB1.out)).mono ?_; rintro e w3 ⟨rfl, o3, b3⟩; have D1 := HC1.out.below b3 HC1.out.lt; have D2 := HC2.out.below b3 HC2.out.lt; have HR1 : Hid (RowAt w3 (w.heap.size + 1 + 1 + 1) tn to) := HO1.out.below b3; have HR2 : Hid (RowAt w3 w1.heap.size wn wt) := o3; have HB3 : Hid (Below w.heap.size w w3) := bel_on HB1.out b3; have k10 := (D2.cell 0).trans rfl; have k11 := (D2.cell 1).trans rfl; have k12 := (D2.cell 2).trans rfl; have m10 := (D1.cell 0).trans rfl; have m11 := (D1.cell 1).trans rfl; have m12 := (D1.cell 2).trans rfl; have f2 := D2.fr 2; have g0 := D1.fr 0; have g1 := D1.fr 1; have g2 := D1.fr 2; have HD1 : Hid (CB w3 (w.heap.size + 1) #[.int .i64 0, .slice none 0 0, .slice none 0 0] 36) := D1; clear o3 b3 D1 D2)))
  have hX := (((HD1.out.other (c := w.heap.size + 1 + 1) (o := 2) (.slice (some ⟨w1.heap.size, 0, none⟩) wn wn) (by omega)).set 0 (.int .i64 f)).set 1 (.slice (some ⟨w.heap.size + 1 + 1 + 1, 0, none⟩) tn tn)).set 2 (.slice (some ⟨w1.heap.size, 0, none⟩) wn wn)
  have hY := (((HR1.out.other (c := w.heap.size + 1 + 1) (o := 2) (.slice (some ⟨w1.heap.size, 0, none⟩) wn wn) (by omega)).other (c := w.heap.size + 1) (o := 0) (.int .i64 f) (by omega)).other (c := w.heap.size + 1) (o := 1) (.slice (some ⟨w.heap.size + 1 + 1 + 1, 0, none⟩) tn tn) (by omega)).other (c := w.heap.size + 1) (o := 2) (.slice (some ⟨w1.heap.size, 0, none⟩) wn wn) (by omega)
  have hY2 := (((HR2.out.other (c := w.heap.size + 1 + 1) (o := 2) (.slice (some ⟨w1.heap.size, 0, none⟩) wn wn) (by omega)).other (c := w.heap.size + 1) (o := 0) (.int .i64 f) (by omega)).other (c := w.heap.size + 1) (o := 1) (.slice (some ⟨w.heap.size + 1 + 1 + 1, 0, none⟩) tn tn) (by omega)).other (c := w.heap.size + 1) (o := 2) (.slice (some ⟨w1.heap.size, 0, none⟩) wn wn) (by omega)
  have hZ := (((HB3.out.setCell (p := ⟨w.heap.size + 1 + 1, 2, none⟩) (by simp; omega) (.slice (some ⟨w1.heap.size, 0, none⟩) wn wn)).setCell (p := ⟨w.heap.size + 1, 0, none⟩) (by simp) (.int .i64 f)).setCell (p := ⟨w.heap.size + 1, 1, none⟩) (by simp) (.slice (some ⟨w.heap.size + 1 + 1 + 1, 0, none⟩) tn tn)).setCell (p := ⟨w.heap.size + 1, 2, none⟩) (by simp) (.slice (some ⟨w1.heap.size, 0, none⟩) wn wn)
  have e0 := hX.cell 0
  have e1 := hX.cell 1
  have e2 := hX.cell 2
  simp at e0 e1 e2
  clear hX k0 k1 k2 m2 f1 k10 k11 k12 m10 m11 m12 f2 g0 g1 g2 HD1 HR1 HR2 HB3 HC1 HC2 HO1 HB1 HBL
  generalize (World.setCell _ _ _) = W5 at e0 e1 e2 hY hY2 hZ ⊢
  refine bodyPost_ret (by simp [results, Try.results66, go_sem, e0, e1, e2]; try rfl) rfl ?_
  exact ⟨_, _, rfl, ⟨by omega, by omega⟩, ⟨hY, hY2⟩, hZ⟩

set_option maxRecDepth 20000 in
set_option maxHeartbeats 1000000 in
theorem eqRule_same (f : Int) (ta wa tb wb : Option Addr) (tn tc td wn wc wd : Nat) (to wt : Nat → Int) (w : World) (h1 : (tn : Int) ≤ 1048576) (h2 : (wn : Int) ≤ 1048576) (hT : IR w ta tn to) (hW : IR w wa wn wt) (hT2 : IR w tb tn to) (hW2 : IR w wb wn wt) :
    Calls Try.prog 67 #[.agg #[.int .i64 f, .slice ta tn tc, .slice wa wn wc], .agg #[.int .i64 f, .slice tb tn td, .slice wb wn wd]] w fun e w' => e = .returned (.bool true) ∧ Below w.heap.size w w' := by
  have HT : Hid (IR w ta tn to) := hT
  have HW : Hid (IR w wa wn wt) := hW
  have HT2 : Hid (IR w tb tn to) := hT2
  have HW2 : Hid (IR w wb wn wt) := hW2
  have HBL : Hid (Below w.heap.size w ((w.alloc (.cells #[.int .i64 f, .slice ta tn tc, .slice wa wn wc] 36 (0, 0))).alloc (.cells #[.int .i64 f, .slice tb tn td, .slice wb wn wd] 36 (0, 0)))) := ((Below.refl _ _).alloc (Nat.le_refl _) _).alloc (by simp) _
  clear hT hW hT2 hW2
  have tok1 : True := trivial
  go_enter Try.func67, Try.ntmps67
  go_wp2_with (first
    | (go_at_call 24; clear tok1; go_loud (refine (eqIntS_same _ _ _ _ _ to _ h1 (HT.out.below HBL.out) (HT2.out.below HBL.out)).mono ?_; rintro e w1 ⟨rfl, b1⟩; have C0 := ((CB.new (w := w) #[.int .i64 f, .slice ta tn tc, .slice wa wn wc] 36).alloc (.cells #[.int .i64 f, .slice tb tn td, .slice wb wn wd] 36 (0, 0))).below b1 (by simp; omega); have C1 := (CB.newAt (w := w.alloc (.cells #[.int .i64 f, .slice ta tn tc, .slice wa wn wc] 36 (0, 0))) (b := w.heap.size + 1) (by simp) #[.int .i64 f, .slice tb tn td, .slice wb wn wd] 36).below b1 (by simp); have k2 := (C0.cell 2).trans rfl; have m2 := (C1.cell 2).trans rfl; have HB1 : Hid (Below w.heap.size w w1) := bel_on HBL.out b1; clear b1 C0 C1))
    | (go_at_call 24; go_loud (refine (eqIntS_same _ _ _ _ _ wt _ h2 (HW.out.below HB1.out) (HW2.out.below HB1.out)).mono ?_; rintro e w3 ⟨rfl, b3⟩; have HB3 : Hid (Below w.heap.size w w3) := bel_on HB1.out b3; clear b3)))
  go_returns
  exact ⟨rfl, HB3.out⟩
end Go.Proofs.Ytjlniinahfgakaa
