/- Value of both; the laws' functions over worths. -/
import Derived.Test.YtdgccdlaokbnhaaWb
import Derived.Test.YtdgccdlaokbnhaaLb
import Derived.BigQuiet
namespace Go.Proofs.Ytdgccdlaokbnhaa
open Go Go.ChangeShapes Go.WideShapes Go.ChangeAt Go.RowKit
set_option linter.unusedVariables false
set_option linter.unusedSimpArgs false


open Classical in
noncomputable def vaQ (m p : Int) (n : Nat) (c : Nat → LA2) (off : Int) : Int := if woB m p n c off = true then qS c n else 0
open Classical in
noncomputable def vaK (m p : Int) (n : Nat) (c : Nat → LA2) (off : Int) : Int := if woB m p n c off = true then kS c n else 0
set_option maxRecDepth 20000 in
theorem implValue_any (m p : Int) (ad : Option Addr) (n cap : Nat) (off : Int) (c : Nat → LA2) (A B : Int) (w : World) (h : (n : Int) ≤ 1048576) (hr : LAr w ad n c) (hA : vaQ m p n c off = A) (hB : vaK m p n c off = B) :
    Calls Try.prog 23 #[.agg #[.int .i64 m, .int .i64 p, .slice ad n cap, .int .i64 off]] w fun e w' => e = .returned (.tuple #[.int .i64 A, .int .i64 B]) ∧ Below w.heap.size w w' := by
  have HR : Hid (LAr w ad n c) := hr
  clear hr
  cases hv : woB m p n c off
  · obtain rfl : A = 0 := by rw [← hA]; simp [vaQ, hv]
    obtain rfl : B = 0 := by rw [← hB]; simp [vaK, hv]
    have HV : Hid (woB m p n c off = false) := hv
    clear hv hA hB
    go_enter Try.func23, Try.ntmps23
    go_wp2_with (go_at_call 18; refine (implWorth_any m p ad n cap off c _ h (HR.out.alloc _)).mono ?_; rintro e w1 ⟨rfl, b1⟩; rw [HV.out]; have HB1 : Hid (Below w.heap.size w w1) := hid (bel_on ((Below.refl _ _).alloc (Nat.le_refl _) _) b1); clear b1)
    go_returns
    exact ⟨rfl, HB1.out⟩
  · have HP := hid (woB_p hv)
    have hn3 := HP.out.len300
    have HQ : Hid (qS c n = A) := hid (by rw [← hA]; simp [vaQ, hv])
    have HK : Hid (kS c n = B) := hid (by rw [← hB]; simp [vaK, hv])
    have HV : Hid (woB m p n c off = true) := hv
    clear hv hA hB
    go_enter Try.func23, Try.ntmps23
    go_wp2_with (first
      | (go_at_call 18; refine (implWorth_any m p ad n cap off c _ h (HR.out.alloc _)).mono ?_; rintro e w1 ⟨rfl, b1⟩; rw [HV.out]; have X1 : CB w1 w.heap.size #[.int .i64 m, .int .i64 p, .slice ad n cap, .int .i64 off] 26 := (CB.new _ _).below b1 (CB.new _ _).lt; have e2 : w1.cell? ⟨w.heap.size, 2, none⟩ = some (.slice ad n cap) := X1.cell 2; have HB1 : Hid (Below w.heap.size w w1) := hid (bel_on ((Below.refl _ _).alloc (Nat.le_refl _) _) b1); clear b1 X1)
      | (go_at_call 63; refine (allOf_eq ad n cap c A B _ hn3 HP.out.lay (HR.out.below HB1.out) HQ.out HK.out).mono ?_; rintro e w2 ⟨rfl, b2⟩; have HB2 : Hid (Below w.heap.size w w2) := hid (bel_on HB1.out b2); clear b2))
    go_quiet (fail)
    go_wp2
    go_returns
    exact ⟨rfl, bd_N (HB2.out.alloc HB2.out.size _) _⟩
set_option maxRecDepth 20000 in
theorem specValue_any (m p : Int) (ad : Option Addr) (n cap : Nat) (off : Int) (c : Nat → LA2) (A B : Int) (w : World) (h : (n : Int) ≤ 1048576) (hr : LAr w ad n c) (hA : vaQ m p n c off = A) (hB : vaK m p n c off = B) :
    Calls Try.prog 48 #[.agg #[.int .i64 m, .int .i64 p, .slice ad n cap, .int .i64 off]] w fun e w' => e = .returned (.tuple #[.int .i64 A, .int .i64 B]) ∧ Below w.heap.size w w' := by
  have HR : Hid (LAr w ad n c) := hr
  clear hr
  cases hv : woB m p n c off
  · obtain rfl : A = 0 := by rw [← hA]; simp [vaQ, hv]
    obtain rfl : B = 0 := by rw [← hB]; simp [vaK, hv]
    have HV : Hid (woB m p n c off = false) := hv
    clear hv hA hB
    go_enter Try.func48, Try.ntmps48
    go_wp2_with (go_at_call 20; refine (specWorth_any m p ad n cap off c _ h (HR.out.alloc _)).mono ?_; rintro e w1 ⟨rfl, b1⟩; rw [HV.out]; have HB1 : Hid (Below w.heap.size w w1) := hid (bel_on ((Below.refl _ _).alloc (Nat.le_refl _) _) b1); clear b1)
    go_returns
    exact ⟨rfl, HB1.out⟩
  · have HP := hid (woB_p hv)
    have hn3 := HP.out.len300
    have HQ : Hid (qS c n = A) := hid (by rw [← hA]; simp [vaQ, hv])
    have HK : Hid (kS c n = B) := hid (by rw [← hB]; simp [vaK, hv])
    have HV : Hid (woB m p n c off = true) := hv
    clear hv hA hB
    go_enter Try.func48, Try.ntmps48
    go_wp2_with (first
      | (go_at_call 20; refine (specWorth_any m p ad n cap off c _ h (HR.out.alloc _)).mono ?_; rintro e w1 ⟨rfl, b1⟩; rw [HV.out]; have X1 : CB w1 w.heap.size #[.int .i64 m, .int .i64 p, .slice ad n cap, .int .i64 off] 26 := (CB.new _ _).below b1 (CB.new _ _).lt; have e2 : w1.cell? ⟨w.heap.size, 2, none⟩ = some (.slice ad n cap) := X1.cell 2; have HB1 : Hid (Below w.heap.size w w1) := hid (bel_on ((Below.refl _ _).alloc (Nat.le_refl _) _) b1); clear b1 X1)
      | (go_at_call 70; refine (specSums_eq ad n cap c A B _ (by omega) HP.out.lay (HR.out.below HB1.out) HQ.out HK.out).mono ?_; rintro e w2 ⟨rfl, ew⟩; replace ew := ew.symm; subst ew))
    go_returns
    exact ⟨rfl, HB1.out⟩

theorem szWorth_any (m p : Int) (ad : Option Addr) (n cap : Nat) (off L : Int) (w : World) (g0 : 0 ≤ L) (g1 : L ≤ 1048576) (hl : (n : Int) ≤ 9223372036854775807) :
    Calls Try.prog 27 #[.agg #[.int .i64 m, .int .i64 p, .slice ad n cap, .int .i64 off], .int .i64 L] w fun e w' => ∃ v : Int, e = .returned (.int .i64 v) ∧ (v = -1 ∨ (0 ≤ v ∧ v ≤ 1048576 ∧ (n : Int) ≤ 1048576)) ∧ Below w.heap.size w w' := by
  go_enter Try.func27, Try.ntmps27
  go_wp2_with (go_at_call 43; refine (szLA2S_any _ _ _ _ _ g0 g1 hl).mono ?_; rintro e w1 ⟨v, rfl, hv, ew⟩; replace ew := ew.symm; subst ew; rcases hv with rfl | ⟨hv, hv1, hlb⟩)
  · go_returns
    exact ⟨-1, rfl, .inl rfl, by go_grown⟩
  · have hv3 : ¬ v < 0 := by omega
    have HV : Hid (0 ≤ v ∧ v ≤ 1048576 ∧ (n : Int) ≤ 1048576) := ⟨hv, hv1, hlb⟩
    clear hv hv1 hlb
    go_wp2
    go_returns
    exact ⟨v, rfl, .inr HV.out, by go_grown⟩
theorem toLA2S_at (b : Nat) (ad : Option Addr) (len cap : Nat) (c : Nat → LA2) (w : World) (hb : w.heap.size = b) (h : (len : Int) ≤ 1048576) (hr : LAr w ad len c) :
    Calls Try.prog 44 #[.slice ad len cap] w fun e w' => e = .returned (.slice (some ⟨b, 0, none⟩) len len) ∧ LAr w' (some ⟨b, 0, none⟩) len c ∧ (∃ cs, CB w' b cs 40 ∧ cs.size = len * 2) ∧ Below w.heap.size w w' := by
  subst hb
  exact (toLA2S_any ad len cap c w h hr).mono fun e w' ⟨h1, ⟨h2, h3⟩, h4⟩ => ⟨h1, h2, h3, h4⟩
set_option maxRecDepth 20000 in
set_option maxHeartbeats 4000000 in
theorem toWorth_any (m p : Int) (ad : Option Addr) (n cap : Nat) (off : Int) (c : Nat → LA2) (w : World) (h : (n : Int) ≤ 1048576) (hr : LAr w ad n c) :
    Calls Try.prog 28 #[.agg #[.int .i64 m, .int .i64 p, .slice ad n cap, .int .i64 off]] w fun e w' => ∃ b, w.heap.size ≤ b ∧ e = .returned (.agg #[.int .i64 m, .int .i64 p, .slice (some ⟨b, 0, none⟩) n n, .int .i64 off]) ∧ (LAr w' (some ⟨b, 0, none⟩) n c ∧ ∃ cs, CB w' b cs 40 ∧ cs.size = n * 2) ∧ Below w.heap.size w w' := by
  have HR : Hid (LAr w ad n c) := hr
  clear hr
  go_enter Try.func28, Try.ntmps28
  go_wp2_with (go_at_call 44; refine (toLA2S_at (w.heap.size + 3) _ _ _ c _ (by simp) h (((HR.out.alloc _).alloc _).alloc _)).mono ?_; rintro e w1 ⟨rfl, i1, k1, b1⟩; have X0 : CB w1 w.heap.size #[.int .i64 m, .int .i64 p, .slice ad n cap, .int .i64 off] 48 := (((CB.new _ _).alloc _).alloc _).below b1 (((CB.new _ _).alloc _).alloc _).lt; have X1 : CB w1 (w.heap.size + 1) #[.int .i64 0, .int .i64 0, .slice none 0 0, .int .i64 0] 26 := ((CB.newAt (by simp) _ _).alloc _).below b1 ((CB.newAt (by simp) _ _).alloc _).lt; have X2 : CB w1 (w.heap.size + 2) #[.int .i64 m, .int .i64 p, .slice none 0 0, .int .i64 0] 26 := (CB.newAt (by simp) _ _).below b1 (CB.newAt (by simp) _ _).lt; have HX1 := hid X1; have HX2 := hid X2; have HI := hid i1; have HK := hid k1; have HB : Hid (Below w.heap.size w w1) := hid (bel_on ((((Below.refl _ _).alloc (Nat.le_refl _) _).alloc (by simp) _).alloc (by simp; omega) _) b1); have y0 : w1.cell? ⟨w.heap.size, 3, none⟩ = some (.int .i64 off) := X0.cell 3; have y1 : w1.cell? ⟨w.heap.size + 2, 0, none⟩ = some (.int .i64 m) := X2.cell 0; have y2 : w1.cell? ⟨w.heap.size + 2, 1, none⟩ = some (.int .i64 p) := X2.cell 1; have y3 : w1.cell? ⟨w.heap.size + 2, 2, none⟩ = some (.slice none 0 0) := X2.cell 2; have y4 : w1.cell? ⟨w.heap.size + 2, 3, none⟩ = some (.int .i64 0) := X2.cell 3; have z0 : w1.cell? ⟨w.heap.size + 1, 0, none⟩ = some (.int .i64 0) := X1.cell 0; have z1 : w1.cell? ⟨w.heap.size + 1, 1, none⟩ = some (.int .i64 0) := X1.cell 1; have z2 : w1.cell? ⟨w.heap.size + 1, 2, none⟩ = some (.slice none 0 0) := X1.cell 2; have z3 : w1.cell? ⟨w.heap.size + 1, 3, none⟩ = some (.int .i64 0) := X1.cell 3; have f0 := X2.fr 2; have f1 := X2.fr 3; have f2 := X1.fr 0; have f3 := X1.fr 1; have f4 := X1.fr 2; have f5 := X1.fr 3; clear X0 X1 X2 i1 k1 b1)
  have ZC : CB ((((((w1.setCell ⟨w.heap.size + 1 + 1, 2, none⟩ (.slice (some ⟨w.heap.size + 3, 0, none⟩) n n)).setCell ⟨w.heap.size + 1 + 1, 3, none⟩ (.int .i64 off)).setCell ⟨w.heap.size + 1, 0, none⟩ (.int .i64 m)).setCell ⟨w.heap.size + 1, 1, none⟩ (.int .i64 p)).setCell ⟨w.heap.size + 1, 2, none⟩ (.slice (some ⟨w.heap.size + 3, 0, none⟩) n n)).setCell ⟨w.heap.size + 1, 3, none⟩ (.int .i64 off)) (w.heap.size + 1) #[.int .i64 m, .int .i64 p, .slice (some ⟨w.heap.size + 3, 0, none⟩) n n, .int .i64 off] 26 := by simpa using ((((((HX1.out.other _ (by omega)).other _ (by omega)).set 0 (.int .i64 m)).set 1 (.int .i64 p)).set 2 (.slice (some ⟨w.heap.size + 3, 0, none⟩) n n)).set 3 (.int .i64 off))
  have ZI : LAr ((((((w1.setCell ⟨w.heap.size + 1 + 1, 2, none⟩ (.slice (some ⟨w.heap.size + 3, 0, none⟩) n n)).setCell ⟨w.heap.size + 1 + 1, 3, none⟩ (.int .i64 off)).setCell ⟨w.heap.size + 1, 0, none⟩ (.int .i64 m)).setCell ⟨w.heap.size + 1, 1, none⟩ (.int .i64 p)).setCell ⟨w.heap.size + 1, 2, none⟩ (.slice (some ⟨w.heap.size + 3, 0, none⟩) n n)).setCell ⟨w.heap.size + 1, 3, none⟩ (.int .i64 off)) (some ⟨w.heap.size + 3, 0, none⟩) n c := ((((((HI.out.other _ (by intro k o e; simp only [Option.some.injEq, Addr.mk.injEq] at e; omega)).other _ (by intro k o e; simp only [Option.some.injEq, Addr.mk.injEq] at e; omega)).other _ (by intro k o e; simp only [Option.some.injEq, Addr.mk.injEq] at e; omega)).other _ (by intro k o e; simp only [Option.some.injEq, Addr.mk.injEq] at e; omega)).other _ (by intro k o e; simp only [Option.some.injEq, Addr.mk.injEq] at e; omega)).other _ (by intro k o e; simp only [Option.some.injEq, Addr.mk.injEq] at e; omega))
  have ZK : ∃ cs, CB ((((((w1.setCell ⟨w.heap.size + 1 + 1, 2, none⟩ (.slice (some ⟨w.heap.size + 3, 0, none⟩) n n)).setCell ⟨w.heap.size + 1 + 1, 3, none⟩ (.int .i64 off)).setCell ⟨w.heap.size + 1, 0, none⟩ (.int .i64 m)).setCell ⟨w.heap.size + 1, 1, none⟩ (.int .i64 p)).setCell ⟨w.heap.size + 1, 2, none⟩ (.slice (some ⟨w.heap.size + 3, 0, none⟩) n n)).setCell ⟨w.heap.size + 1, 3, none⟩ (.int .i64 off)) (w.heap.size + 3) cs 40 ∧ cs.size = n * 2 := by obtain ⟨cs, kc, hs⟩ := HK.out; exact ⟨cs, ((((((kc.other _ (by omega)).other _ (by omega)).other _ (by omega)).other _ (by omega)).other _ (by omega)).other _ (by omega)), hs⟩
  have ZB : Below w.heap.size w ((((((w1.setCell ⟨w.heap.size + 1 + 1, 2, none⟩ (.slice (some ⟨w.heap.size + 3, 0, none⟩) n n)).setCell ⟨w.heap.size + 1 + 1, 3, none⟩ (.int .i64 off)).setCell ⟨w.heap.size + 1, 0, none⟩ (.int .i64 m)).setCell ⟨w.heap.size + 1, 1, none⟩ (.int .i64 p)).setCell ⟨w.heap.size + 1, 2, none⟩ (.slice (some ⟨w.heap.size + 3, 0, none⟩) n n)).setCell ⟨w.heap.size + 1, 3, none⟩ (.int .i64 off)) := ((((((HB.out.setCell (by simp <;> omega) _).setCell (by simp <;> omega) _).setCell (by simp <;> omega) _).setCell (by simp <;> omega) _).setCell (by simp <;> omega) _).setCell (by simp <;> omega) _)
  generalize ((((((w1.setCell ⟨w.heap.size + 1 + 1, 2, none⟩ (.slice (some ⟨w.heap.size + 3, 0, none⟩) n n)).setCell ⟨w.heap.size + 1 + 1, 3, none⟩ (.int .i64 off)).setCell ⟨w.heap.size + 1, 0, none⟩ (.int .i64 m)).setCell ⟨w.heap.size + 1, 1, none⟩ (.int .i64 p)).setCell ⟨w.heap.size + 1, 2, none⟩ (.slice (some ⟨w.heap.size + 3, 0, none⟩) n n)).setCell ⟨w.heap.size + 1, 3, none⟩ (.int .i64 off)) = V at ZC ZI ZK ZB ⊢
  have z0 : V.cell? ⟨w.heap.size + 1, 0, none⟩ = some (.int .i64 m) := ZC.cell 0
  have z1 : V.cell? ⟨w.heap.size + 1, 1, none⟩ = some (.int .i64 p) := ZC.cell 1
  have z2 : V.cell? ⟨w.heap.size + 1, 2, none⟩ = some (.slice (some ⟨w.heap.size + 3, 0, none⟩) n n) := ZC.cell 2
  have z3 : V.cell? ⟨w.heap.size + 1, 3, none⟩ = some (.int .i64 off) := ZC.cell 3
  refine bodyPost_ret (v := .agg #[.int .i64 m, .int .i64 p, .slice (some ⟨w.heap.size + 3, 0, none⟩) n n, .int .i64 off]) (by simp [results, Try.results28, go_sem, z0, z1, z2, z3]; try rfl) rfl ?_
  exact ⟨w.heap.size + 3, by omega, rfl, ⟨ZI, ZK⟩, ZB⟩

set_option maxRecDepth 20000 in
set_option maxHeartbeats 4000000 in
theorem eqWorth_same (m p : Int) (ad be : Option Addr) (n cap cap2 : Nat) (off : Int) (c : Nat → LA2) (w : World) (h : (n : Int) ≤ 1048576) (h1 : LAr w ad n c) (h2 : LAr w be n c) :
    Calls Try.prog 29 #[.agg #[.int .i64 m, .int .i64 p, .slice ad n cap, .int .i64 off], .agg #[.int .i64 m, .int .i64 p, .slice be n cap2, .int .i64 off]] w fun e w' => e = .returned (.bool true) ∧ Below w.heap.size w w' := by
  have H1 : Hid (LAr w ad n c) := h1
  have H2 : Hid (LAr w be n c) := h2
  clear h1 h2
  have em : (m != m) = false := by simp
  have ep : (p != p) = false := by simp
  have eo : (off != off) = false := by simp
  go_enter Try.func29, Try.ntmps29
  go_wp2_with (go_at_call 45; refine (eqLA2S_same _ _ _ _ _ c _ h ((H1.out.alloc _).alloc _) ((H2.out.alloc _).alloc _)).mono ?_; rintro e w1 ⟨rfl, b1⟩; have X0 : CB w1 w.heap.size #[.int .i64 m, .int .i64 p, .slice ad n cap, .int .i64 off] 26 := ((CB.new _ _).alloc _).below b1 ((CB.new _ _).alloc _).lt; have X1 : CB w1 (w.heap.size + 1) #[.int .i64 m, .int .i64 p, .slice be n cap2, .int .i64 off] 26 := (CB.newAt (by simp) _ _).below b1 (CB.newAt (by simp) _ _).lt; have y0 : w1.cell? ⟨w.heap.size, 3, none⟩ = some (.int .i64 off) := X0.cell 3; have y1 : w1.cell? ⟨w.heap.size + 1, 3, none⟩ = some (.int .i64 off) := X1.cell 3; have HB : Hid (Below w.heap.size w w1) := hid (bel_on (((Below.refl _ _).alloc (Nat.le_refl _) _).alloc (by simp) _) b1); clear X0 X1 b1)
  go_returns
  exact ⟨rfl, HB.out⟩

end Go.Proofs.Ytdgccdlaokbnhaa
