/- Groups: copies and likeness. -/
import Derived.Test.YtoihiamafbokbaaDoorMa
namespace Go.Proofs.YtoihiamafbokbaaDoor
open Go.ChangeShapes Go.WideShapes Go.ChangeAt Go.RowKit
set_option linter.unusedVariables false
set_option linter.unusedSimpArgs false

theorem toCurS_at {ad : Option Addr} {len cap : Nat} {c : Nat → C3} {w : World} {b : Nat} (hb : w.heap.size = b) (h : (len : Int) ≤ 1048576) (hr : CR w ad len c) :
    Calls Tryd.prog 22 #[.slice ad len cap] w fun e w' => e = .returned (.slice (some ⟨b, 0, none⟩) len len) ∧ (CR w' (some ⟨b, 0, none⟩) len c ∧ ∃ cs, CB w' b cs 71 ∧ cs.size = len * 3) ∧ Below w.heap.size w w' := by
  subst hb; exact toCurS_cells ad len cap c w h hr
theorem toMemberS_at {ra : Option Addr} {m rcap : Nat} {ms : Nat → M4} {w : World} {b : Nat} (hb : w.heap.size = b) (h : (m : Int) ≤ 1048576) (hl : ∀ j, j < m → ((ms j).tn : Int) ≤ 1048576) (hr : MR w ra m ms) :
    Calls Tryd.prog 23 #[.slice ra m rcap] w fun e w' => e = .returned (.slice (some ⟨b, 0, none⟩) m m) ∧ (∃ bt, OM4 w' b m m ms bt) ∧ Below w.heap.size w w' := by
  subst hb; exact toMemberS_any ra m rcap ms w h hl hr

set_option maxRecDepth 20000 in
set_option maxHeartbeats 4000000 in
theorem toGroup_any (fa : Option Addr) (len cap : Nat) (c : Nat → C3) (u : Int) (ra : Option Addr) (m rcap : Nat) (ms : Nat → M4) (mi sf : Int) (w : World) (h : (len : Int) ≤ 1048576) (hr : CR w fa len c) (hm : (m : Int) ≤ 1048576) (hl : ∀ j, j < m → ((ms j).tn : Int) ≤ 1048576) (HM : MR w ra m ms) :
    Calls Tryd.prog 7 #[gAgg fa len cap u ra m rcap mi sf] w fun e w' => ∃ bc bm bt, e = .returned (gAgg (some ⟨bc, 0, none⟩) len len u (some ⟨bm, 0, none⟩) m m mi sf) ∧ w.heap.size ≤ bc ∧ GrAt w' bc bm len m c ms bt ∧ Below w.heap.size w w' := by
  unfold gAgg
  have HR : Hid (CR w fa len c) := hr
  have HME : Hid (MR w ra m ms) := HM
  have HN : Hid (∀ j, j < m → ((ms j).tn : Int) ≤ 1048576) := hl
  have HBL : Hid (Below w.heap.size w (((w.alloc (.cells #[.slice fa len cap, .int .i64 u, .slice ra m rcap, .int .i64 mi, .int .i64 sf] 25 (0, 0))).alloc (.cells #[.slice none 0 0, .int .i64 0, .slice none 0 0, .int .i64 0, .int .i64 0] 31 (0, 0))).alloc (.cells #[.slice none 0 0, .int .i64 0, .slice none 0 0, .int .i64 0, .int .i64 0] 31 (0, 0)))) := (((Below.refl _ _).alloc (Nat.le_refl _) _).alloc (by simp) _).alloc (by simp; omega) _
  clear hr HM hl
  go_enter Tryd.func7, Tryd.ntmps7
  go_wp2_with (first
    | (go_at_call 22; go_loud (refine (toCurS_at (b := w.heap.size + 1 + 1 + 1) (by simp) h (HR.out.below HBL.out)).mono ?_; rintro e w1 ⟨rfl, ⟨o1, cs1, q1, q2⟩, b1⟩; obtain ⟨C0, C1, C2, b2⟩ := three_bl b1; have k0 := (C2.cell 0).trans rfl; have k1 := (C2.cell 1).trans rfl; have m1 := (C0.cell 1).trans rfl; have m2 := (C0.cell 2).trans rfl; have f0 := C2.fr 0; have f1 := C2.fr 1; have hl1 := q1.lt; have HB1 : Hid (Below w.heap.size w ((w1.setCell ⟨w.heap.size + 1 + 1, 0, none⟩ (.slice (some ⟨w.heap.size + 1 + 1 + 1, 0, none⟩) len len)).setCell ⟨w.heap.size + 1 + 1, 1, none⟩ (.int .i64 u))) := (b2.setCell (by show w.heap.size ≤ w.heap.size + 1 + 1; omega) _).setCell (by show w.heap.size ≤ w.heap.size + 1 + 1; omega) _; have HC0 : Hid (CB ((w1.setCell ⟨w.heap.size + 1 + 1, 0, none⟩ (.slice (some ⟨w.heap.size + 1 + 1 + 1, 0, none⟩) len len)).setCell ⟨w.heap.size + 1 + 1, 1, none⟩ (.int .i64 u)) w.heap.size #[.slice fa len cap, .int .i64 u, .slice ra m rcap, .int .i64 mi, .int .i64 sf] 25) := (C0.other _ (by omega)).other _ (by omega); have HC1 : Hid (CB ((w1.setCell ⟨w.heap.size + 1 + 1, 0, none⟩ (.slice (some ⟨w.heap.size + 1 + 1 + 1, 0, none⟩) len len)).setCell ⟨w.heap.size + 1 + 1, 1, none⟩ (.int .i64 u)) (w.heap.size + 1) #[.slice none 0 0, .int .i64 0, .slice none 0 0, .int .i64 0, .int .i64 0] 31) := (C1.other _ (by omega)).other _ (by omega); have HC2 : Hid (CB ((w1.setCell ⟨w.heap.size + 1 + 1, 0, none⟩ (.slice (some ⟨w.heap.size + 1 + 1 + 1, 0, none⟩) len len)).setCell ⟨w.heap.size + 1 + 1, 1, none⟩ (.int .i64 u)) (w.heap.size + 1 + 1) #[.slice (some ⟨w.heap.size + 1 + 1 + 1, 0, none⟩) len len, .int .i64 u, .slice none 0 0, .int .i64 0, .int .i64 0] 31) := (C2.set 0 _).set 1 _; have HO1 : Hid (CR ((w1.setCell ⟨w.heap.size + 1 + 1, 0, none⟩ (.slice (some ⟨w.heap.size + 1 + 1 + 1, 0, none⟩) len len)).setCell ⟨w.heap.size + 1 + 1, 1, none⟩ (.int .i64 u)) (some ⟨w.heap.size + 1 + 1 + 1, 0, none⟩) len c) := (o1.other' _ (by omega)).other' _ (by omega); have HQ1 : Hid (CB ((w1.setCell ⟨w.heap.size + 1 + 1, 0, none⟩ (.slice (some ⟨w.heap.size + 1 + 1 + 1, 0, none⟩) len len)).setCell ⟨w.heap.size + 1 + 1, 1, none⟩ (.int .i64 u)) (w.heap.size + 1 + 1 + 1) cs1 71 ∧ cs1.size = len * 3) := ⟨(q1.other _ (by omega)).other _ (by omega), q2⟩; clear o1 b1 b2 C0 C1 C2 q1 q2))
    | (go_at_call 23; go_loud (refine (toMemberS_at (b := w1.heap.size) (by simp [World.setCell]) hm HN.out (HME.out.below HB1.out)).mono ?_; rintro e w3 ⟨rfl, ⟨bt, o3⟩, b3⟩; have D0 := HC0.out.below b3 HC0.out.lt; have D1 := HC1.out.below b3 HC1.out.lt; have D2 := HC2.out.below b3 HC2.out.lt; have HR1 : Hid (CR w3 (some ⟨w.heap.size + 1 + 1 + 1, 0, none⟩) len c) := HO1.out.below b3; have HQ3 : Hid (CB w3 (w.heap.size + 1 + 1 + 1) cs1 71) := HQ1.out.1.below b3 HQ1.out.1.lt; have HR2 : Hid (OM4 w3 w1.heap.size m m ms bt) := o3; have HB3 : Hid (Below w.heap.size w w3) := bel_on HB1.out b3; have k10 := (D2.cell 0).trans rfl; have k11 := (D2.cell 1).trans rfl; have k12 := (D2.cell 2).trans rfl; have k13 := (D2.cell 3).trans rfl; have k14 := (D2.cell 4).trans rfl; have n3 := (D0.cell 3).trans rfl; have n4 := (D0.cell 4).trans rfl; have m10 := (D1.cell 0).trans rfl; have m11 := (D1.cell 1).trans rfl; have m12 := (D1.cell 2).trans rfl; have m13 := (D1.cell 3).trans rfl; have m14 := (D1.cell 4).trans rfl; have f2 := D2.fr 2; have f3 := D2.fr 3; have f4 := D2.fr 4; have g0 := D1.fr 0; have g1 := D1.fr 1; have g2 := D1.fr 2; have g3 := D1.fr 3; have g4 := D1.fr 4; have HD1 : Hid (CB w3 (w.heap.size + 1) #[.slice none 0 0, .int .i64 0, .slice none 0 0, .int .i64 0, .int .i64 0] 31) := D1; clear o3 b3 D0 D1 D2)))
  have hX := ((((((((HD1.out.other (c := w.heap.size + 1 + 1) (o := 2) (.slice (some ⟨w1.heap.size, 0, none⟩) m m) (by omega)).other (c := w.heap.size + 1 + 1) (o := 3) (.int .i64 mi) (by omega)).other (c := w.heap.size + 1 + 1) (o := 4) (.int .i64 sf) (by omega)).set 0 (.slice (some ⟨w.heap.size + 1 + 1 + 1, 0, none⟩) len len)).set 1 (.int .i64 u)).set 2 (.slice (some ⟨w1.heap.size, 0, none⟩) m m)).set 3 (.int .i64 mi)).set 4 (.int .i64 sf))
  have hY := ((((((((HR1.out.other' (c' := w.heap.size + 1 + 1) (o := 2) (.slice (some ⟨w1.heap.size, 0, none⟩) m m) (by omega)).other' (c' := w.heap.size + 1 + 1) (o := 3) (.int .i64 mi) (by omega)).other' (c' := w.heap.size + 1 + 1) (o := 4) (.int .i64 sf) (by omega)).other' (c' := w.heap.size + 1) (o := 0) (.slice (some ⟨w.heap.size + 1 + 1 + 1, 0, none⟩) len len) (by omega)).other' (c' := w.heap.size + 1) (o := 1) (.int .i64 u) (by omega)).other' (c' := w.heap.size + 1) (o := 2) (.slice (some ⟨w1.heap.size, 0, none⟩) m m) (by omega)).other' (c' := w.heap.size + 1) (o := 3) (.int .i64 mi) (by omega)).other' (c' := w.heap.size + 1) (o := 4) (.int .i64 sf) (by omega))
  have hQ := ((((((((HQ3.out.other (c := w.heap.size + 1 + 1) (o := 2) (.slice (some ⟨w1.heap.size, 0, none⟩) m m) (by omega)).other (c := w.heap.size + 1 + 1) (o := 3) (.int .i64 mi) (by omega)).other (c := w.heap.size + 1 + 1) (o := 4) (.int .i64 sf) (by omega)).other (c := w.heap.size + 1) (o := 0) (.slice (some ⟨w.heap.size + 1 + 1 + 1, 0, none⟩) len len) (by omega)).other (c := w.heap.size + 1) (o := 1) (.int .i64 u) (by omega)).other (c := w.heap.size + 1) (o := 2) (.slice (some ⟨w1.heap.size, 0, none⟩) m m) (by omega)).other (c := w.heap.size + 1) (o := 3) (.int .i64 mi) (by omega)).other (c := w.heap.size + 1) (o := 4) (.int .i64 sf) (by omega))
  have hO := ((((((((HR2.out.other (c := w.heap.size + 1 + 1) (o := 2) (.slice (some ⟨w1.heap.size, 0, none⟩) m m) (by omega)).other (c := w.heap.size + 1 + 1) (o := 3) (.int .i64 mi) (by omega)).other (c := w.heap.size + 1 + 1) (o := 4) (.int .i64 sf) (by omega)).other (c := w.heap.size + 1) (o := 0) (.slice (some ⟨w.heap.size + 1 + 1 + 1, 0, none⟩) len len) (by omega)).other (c := w.heap.size + 1) (o := 1) (.int .i64 u) (by omega)).other (c := w.heap.size + 1) (o := 2) (.slice (some ⟨w1.heap.size, 0, none⟩) m m) (by omega)).other (c := w.heap.size + 1) (o := 3) (.int .i64 mi) (by omega)).other (c := w.heap.size + 1) (o := 4) (.int .i64 sf) (by omega))
  have hZ := ((((((((HB3.out.setCell (p := ⟨w.heap.size + 1 + 1, 2, none⟩) (by simp; omega) (.slice (some ⟨w1.heap.size, 0, none⟩) m m)).setCell (p := ⟨w.heap.size + 1 + 1, 3, none⟩) (by simp; omega) (.int .i64 mi)).setCell (p := ⟨w.heap.size + 1 + 1, 4, none⟩) (by simp; omega) (.int .i64 sf)).setCell (p := ⟨w.heap.size + 1, 0, none⟩) (by simp) (.slice (some ⟨w.heap.size + 1 + 1 + 1, 0, none⟩) len len)).setCell (p := ⟨w.heap.size + 1, 1, none⟩) (by simp) (.int .i64 u)).setCell (p := ⟨w.heap.size + 1, 2, none⟩) (by simp) (.slice (some ⟨w1.heap.size, 0, none⟩) m m)).setCell (p := ⟨w.heap.size + 1, 3, none⟩) (by simp) (.int .i64 mi)).setCell (p := ⟨w.heap.size + 1, 4, none⟩) (by simp) (.int .i64 sf))
  have hsz := HQ1.out.2
  have e0 := hX.cell 0
  have e1 := hX.cell 1
  have e2 := hX.cell 2
  have e3 := hX.cell 3
  have e4 := hX.cell 4
  simp at e0 e1 e2 e3 e4
  clear hX k0 k1 m1 m2 f0 f1 k10 k11 k12 k13 k14 n3 n4 m10 m11 m12 m13 m14 f2 f3 f4 g0 g1 g2 g3 g4 HD1 HR1 HR2 HB3 HC0 HC1 HC2 HO1 HB1 HBL HQ1 HQ3
  generalize (World.setCell _ _ _) = W5 at e0 e1 e2 e3 e4 hY hQ hO hZ ⊢
  refine bodyPost_ret (by simp [results, Tryd.results7, go_sem, e0, e1, e2, e3, e4]; try rfl) rfl ?_
  exact ⟨_, _, bt, rfl, by omega, ⟨hY, ⟨cs1, hQ, hsz⟩, hO, hl1⟩, hZ⟩

set_option maxRecDepth 20000 in
set_option maxHeartbeats 2000000 in
theorem eqGroup_same (fa fb : Option Addr) (len cap cap2 : Nat) (c : Nat → C3) (u : Int) (ra rb : Option Addr) (m rcap rcap2 : Nat) (ms : Nat → M4) (mi sf : Int) (w : World) (h : (len : Int) ≤ 1048576) (hm : (m : Int) ≤ 1048576) (hl : ∀ j, j < m → ((ms j).tn : Int) ≤ 1048576) (h1 : CR w fa len c) (h2 : CR w fb len c) (h3 : MR w ra m ms) (h4 : MR w rb m ms) :
    Calls Tryd.prog 9 #[gAgg fa len cap u ra m rcap mi sf, gAgg fb len cap2 u rb m rcap2 mi sf] w fun e w' => e = .returned (.bool true) ∧ Below w.heap.size w w' := by
  unfold gAgg
  have H1 : Hid (CR w fa len c) := h1
  have H2 : Hid (CR w fb len c) := h2
  have H3 : Hid (MR w ra m ms) := h3
  have H4 : Hid (MR w rb m ms) := h4
  have HN : Hid (∀ j, j < m → ((ms j).tn : Int) ≤ 1048576) := hl
  have HBL : Hid (Below w.heap.size w ((w.alloc (.cells #[.slice fa len cap, .int .i64 u, .slice ra m rcap, .int .i64 mi, .int .i64 sf] 31 (0, 0))).alloc (.cells #[.slice fb len cap2, .int .i64 u, .slice rb m rcap2, .int .i64 mi, .int .i64 sf] 31 (0, 0)))) := ((Below.refl _ _).alloc (Nat.le_refl _) _).alloc (by simp) _
  clear h1 h2 h3 h4 hl
  go_enter Tryd.func9, Tryd.ntmps9
  go_wp2_with (first
    | (go_at_call 25; go_loud (refine (eqCurS_same _ _ _ _ _ c _ h (H1.out.below HBL.out) (H2.out.below HBL.out)).mono ?_; rintro e w1 ⟨rfl, b1⟩; have C0 := ((CB.new (w := w) #[.slice fa len cap, .int .i64 u, .slice ra m rcap, .int .i64 mi, .int .i64 sf] 31).alloc (.cells #[.slice fb len cap2, .int .i64 u, .slice rb m rcap2, .int .i64 mi, .int .i64 sf] 31 (0, 0))).below b1 (by simp; omega); have C1 := (CB.newAt (w := w.alloc (.cells #[.slice fa len cap, .int .i64 u, .slice ra m rcap, .int .i64 mi, .int .i64 sf] 31 (0, 0))) (b := w.heap.size + 1) (by simp) #[.slice fb len cap2, .int .i64 u, .slice rb m rcap2, .int .i64 mi, .int .i64 sf] 31).below b1 (by simp); have k1 := (C0.cell 1).trans rfl; have k2 := (C0.cell 2).trans rfl; have m1 := (C1.cell 1).trans rfl; have m2 := (C1.cell 2).trans rfl; have HC0 : Hid (CB w1 w.heap.size #[.slice fa len cap, .int .i64 u, .slice ra m rcap, .int .i64 mi, .int .i64 sf] 31) := C0; have HC1 : Hid (CB w1 (w.heap.size + 1) #[.slice fb len cap2, .int .i64 u, .slice rb m rcap2, .int .i64 mi, .int .i64 sf] 31) := C1; have HB1 : Hid (Below w.heap.size w w1) := bel_on HBL.out b1; clear b1 C0 C1))
    | (go_at_call 26; go_loud (refine (eqMemberS_same _ _ _ _ _ ms _ hm HN.out (H3.out.below HB1.out) (H4.out.below HB1.out)).mono ?_; rintro e w3 ⟨rfl, b3⟩; have D0 := HC0.out.below b3 HC0.out.lt; have D1 := HC1.out.below b3 HC1.out.lt; have k3 := (D0.cell 3).trans rfl; have k4 := (D0.cell 4).trans rfl; have m3 := (D1.cell 3).trans rfl; have m4 := (D1.cell 4).trans rfl; have HB3 : Hid (Below w.heap.size w w3) := bel_on HB1.out b3; clear b3 D0 D1)))
  go_returns
  exact ⟨rfl, HB3.out⟩
end Go.Proofs.YtoihiamafbokbaaDoor
