/- What the tables tell of a place and a day; RateAt in the program: it tells 'rateO'. -/
import Derived.Test.YtghphlnpginmhaaVGb
namespace Go.Proofs.Ytghphlnpginmhaa.Rt
open Go.ChangeShapes Go.WideShapes Go.ChangeAt Go.RowKit
set_option linter.unusedVariables false
set_option linter.unusedSimpArgs false
def Told (o : Option (Int × Int)) (c x : Int) (ok : Bool) : Prop := (o = some (c, x) ∧ ok = true) ∨ (o = none ∧ c = 0 ∧ x = 0 ∧ ok = false)
def AtPost (o : Option (Int × Int)) (e : Ending) : Prop := ∃ (a b c x : Int) (ok : Bool), e = .returned (.tuple #[.agg #[.int .i64 a, .int .i64 b, .int .i64 c, .int .i64 x], .bool ok]) ∧ Told o c x ok
theorem atp {o : Option (Int × Int)} {a b c x : Int} {ok : Bool} (h : Told o c x ok) : AtPost o (.returned (.tuple #[.agg #[.int .i64 a, .int .i64 b, .int .i64 c, .int .i64 x], .bool ok])) := ⟨a, b, c, x, ok, rfl, h⟩
theorem isDay_eq {x : Int} {v : Bool} (w : World) (h : inB x 0 40000 = v) : Calls Try.prog 92 #[.int .i64 x] w fun e w' => e = .returned (.bool v) ∧ w' = w := h ▸ isDay_any x w
theorem at_none (p d : Int) (w : World) :
    Calls Try.prog 126 #[.agg #[.int .i64 0, .map none], .int .i64 p, .int .i64 d] w fun e w' => e = .returned (.tuple #[.agg #[.int .i64 0, .int .i64 0, .int .i64 0, .int .i64 0], .bool false]) ∧ Below w.heap.size w w' := by
  by_cases hp : p < 0
  · cases hd : inB d 0 40000
    all_goals
      go_enter Try.func126, Try.ntmps126
      go_wp2_with (go_at_call 92; refine (isDay_eq _ hd).mono ?_; rintro e w1 ⟨rfl, ew⟩; replace ew := ew.symm; subst ew)
      go_returns
      exact ⟨rfl, by go_grown⟩
  · have hp2 : 0 ≤ p := by omega
    cases hd : inB d 0 40000
    all_goals
      go_enter Try.func126, Try.ntmps126
      go_wp2_with (go_at_call 92; refine (isDay_eq _ hd).mono ?_; rintro e w1 ⟨rfl, ew⟩; replace ew := ew.symm; subst ew)
      go_returns
      exact ⟨rfl, by go_grown⟩
theorem four_set {W : World} {b : Nat} {a0 a1 a2 a3 : Value} (h : CB W b #[a0, a1, a2, a3] 144) (u0 u1 u2 u3 : Value) : CB ((((W.setCell ⟨b, 0, none⟩ u0).setCell ⟨b, 1, none⟩ u1).setCell ⟨b, 2, none⟩ u2).setCell ⟨b, 3, none⟩ u3) b #[u0, u1, u2, u3] 144 := by
  have := (((h.set 0 u0).set 1 u1).set 2 u2).set 3 u3
  simpa using this
theorem four_below {n : Nat} {A W : World} {b : Nat} (h : Below n A W) (hb : n ≤ b) (u0 u1 u2 u3 : Value) : Below n A ((((W.setCell ⟨b, 0, none⟩ u0).setCell ⟨b, 1, none⟩ u1).setCell ⟨b, 2, none⟩ u2).setCell ⟨b, 3, none⟩ u3) :=
  (((h.setCell (by simpa using hb) u0).setCell (by simpa using hb) u1).setCell (by simpa using hb) u2).setCell (by simpa using hb) u3
set_option maxRecDepth 20000 in
set_option maxHeartbeats 2000000 in
theorem at_ok (m p d : Int) (B len : Nat) (F : Int → Value) (r : Nat → R4) (w : World) (hv : ratesB m len r = true) (hG : GT Try.prog w B len F (fun q => tabL q (rl len r))) :
    Calls Try.prog 126 #[.agg #[.int .i64 m, .map (some B)], .int .i64 p, .int .i64 d] w fun e w' => AtPost (rateO m len r p d) e ∧ Below w.heap.size w w' := by
  have HG : Hid (GT Try.prog w B len F (fun q => tabL q (rl len r))) := hG
  have hP := ratesB_iff.1 hv
  have hm3 := inB_iff.1 hP.1
  have hl4 : len ≤ 400 := hP.2.1
  have HP : Hid (ratesP m len r) := hP
  clear hG hP
  by_cases hp : p < 0
  · have HF : Hid (rateO m len r p d = none) := rateO_bad fun H => by have := (inB_iff.1 H.2.1).1; omega
    cases hd : inB d 0 40000
    all_goals
      go_enter Try.func126, Try.ntmps126
      go_wp2_with (go_at_call 92; refine (isDay_eq _ hd).mono ?_; rintro e w1 ⟨rfl, ew⟩; replace ew := ew.symm; subst ew)
      go_returns
      exact ⟨atp (.inr ⟨HF.out, rfl, rfl, rfl⟩), by go_grown⟩
  have hp0 : 0 ≤ p := by omega
  by_cases hpm : m ≤ p
  · have HF : Hid (rateO m len r p d = none) := rateO_bad fun H => by have := (inB_iff.1 H.2.1).2; omega
    cases hd : inB d 0 40000
    all_goals
      go_enter Try.func126, Try.ntmps126
      go_wp2_with (go_at_call 92; refine (isDay_eq _ hd).mono ?_; rintro e w1 ⟨rfl, ew⟩; replace ew := ew.symm; subst ew)
      go_returns
      exact ⟨atp (.inr ⟨HF.out, rfl, rfl, rfl⟩), by go_grown⟩
  have hpm2 : p < m := by omega
  cases hd : inB d 0 40000
  · have HF : Hid (rateO m len r p d = none) := rateO_bad fun H => by have := H.2.2; rw [hd] at this; cases this
    go_enter Try.func126, Try.ntmps126
    go_wp2_with (go_at_call 92; refine (isDay_eq _ hd).mono ?_; rintro e w1 ⟨rfl, ew⟩; replace ew := ew.symm; subst ew)
    go_returns
    exact ⟨atp (.inr ⟨HF.out, rfl, rfl, rfl⟩), by go_grown⟩
  by_cases hpz : p = 0
  · have HF : Hid (rateO m len r p d = some (1, 1)) := by subst hpz; exact rateO_own hv (inB_t (by omega) (by omega)) hd
    have ep : (p == 0) = true := by simpa using hpz
    clear hpz
    go_enter Try.func126, Try.ntmps126
    go_wp2_with (go_at_call 92; refine (isDay_eq _ hd).mono ?_; rintro e w1 ⟨rfl, ew⟩; replace ew := ew.symm; subst ew)
    go_returns
    exact ⟨atp (.inl ⟨HF.out, rfl⟩), by go_grown⟩
  have HF : Hid (rateO m len r p d = (lastR p d len r).map (fun x => (x.num, x.den))) := rateO_other hv (inB_t (by omega) (by omega)) hd hpz
  have ep : (p == 0) = false := by simpa using hpz
  obtain ⟨ad, cap, eF, hR⟩ := HG.out.row p
  obtain ⟨T, hT⟩ : ∃ T, tabL p (rl len r) = T := ⟨_, rfl⟩
  try dsimp only at eF hR
  rw [hT] at eF hR
  have hTl : T.length ≤ 400 := by have := tab_length p (rl len r); rw [hT, rl_length] at this; omega
  obtain ⟨n, hn⟩ : ∃ n, T.length = n := ⟨_, rfl⟩
  rw [hn] at eF hR hTl
  have hn4 : (n : Int) ≤ 400 := by omega
  have HR : Hid (RR w ad n (fun j => T.getD j ⟨0, 0, 0, 0⟩)) := hR
  have HT : Hid (tabL p (rl len r) = T) := hT
  have HN : Hid (T.length = n) := hn
  have HMn : Hid (∀ i j, i ≤ j → j < n → (T.getD i ⟨0, 0, 0, 0⟩).day ≤ (T.getD j ⟨0, 0, 0, 0⟩).day) := fun i j hij hj => by
    have hi2 : i < T.length := by omega
    have hj2 : j < T.length := by omega
    have e1 : T.getD i ⟨0, 0, 0, 0⟩ = T[i] := by simp [List.getD, List.getElem?_eq_getElem hi2]
    have e2 : T.getD j ⟨0, 0, 0, 0⟩ = T[j] := by simp [List.getD, List.getElem?_eq_getElem hj2]
    rw [e1, e2]
    subst hT
    exact tab_mono HP.out p hi2 hj2 hij
  have hwf : (Lit.int .i64 p).wf = true := WalkArith.wf_i64 (by omega)
  have EF : Hid (F p = .slice ad n cap) := eF
  have tk : True := trivial
  clear hT hn hR eF hpz hTl
  have W4 : Hid (Below w.heap.size w ((((w.alloc (.cells #[.int .i64 m, .map (some B)] 109 (0, 0))).alloc (.cells #[.int .i64 d] 3 (0, 0))).alloc (.cells #[.int .i64 0, .int .i64 0, .int .i64 0, .int .i64 0] 144 (0, 0))).alloc (.cells #[.slice ad n cap] 25 (0, 0)))) := (((((Below.refl _ _).alloc (Nat.le_refl _) _).alloc (by simp) _).alloc (by simp; omega) _).alloc (by simp; omega) _)
  have h8 : Hid (World.cell? ((((w.alloc (.cells #[.int .i64 m, .map (some B)] 109 (0, 0))).alloc (.cells #[.int .i64 d] 3 (0, 0))).alloc (.cells #[.int .i64 0, .int .i64 0, .int .i64 0, .int .i64 0] 144 (0, 0))).alloc (.cells #[.slice ad n cap] 25 (0, 0))) ⟨w.heap.size + 1 + 1 + 1, 0, none⟩ = some (.slice ad n cap)) := ((CB.newAt (by simp) _ _).cell 0).trans rfl
  have h5 : Hid (World.cell? ((((w.alloc (.cells #[.int .i64 m, .map (some B)] 109 (0, 0))).alloc (.cells #[.int .i64 d] 3 (0, 0))).alloc (.cells #[.int .i64 0, .int .i64 0, .int .i64 0, .int .i64 0] 144 (0, 0))).alloc (.cells #[.slice ad n cap] 25 (0, 0))) ⟨w.heap.size + 1, 0, none⟩ = some (.int .i64 d)) := ((((CB.newAt (by simp) _ _).alloc _).alloc _).cell 0).trans rfl
  have hZ : Hid (CB ((((w.alloc (.cells #[.int .i64 m, .map (some B)] 109 (0, 0))).alloc (.cells #[.int .i64 d] 3 (0, 0))).alloc (.cells #[.int .i64 0, .int .i64 0, .int .i64 0, .int .i64 0] 144 (0, 0))).alloc (.cells #[.slice ad n cap] 25 (0, 0))) (w.heap.size + 1 + 1) #[.int .i64 0, .int .i64 0, .int .i64 0, .int .i64 0] 144) := (CB.newAt (by simp) _ _).alloc _
  have hR4 : Hid (RR ((((w.alloc (.cells #[.int .i64 m, .map (some B)] 109 (0, 0))).alloc (.cells #[.int .i64 d] 3 (0, 0))).alloc (.cells #[.int .i64 0, .int .i64 0, .int .i64 0, .int .i64 0] 144 (0, 0))).alloc (.cells #[.slice ad n cap] 25 (0, 0))) ad n (fun j => T.getD j ⟨0, 0, 0, 0⟩)) := (((HR.out.alloc _).alloc _).alloc _).alloc _
  go_enter Try.func126, Try.ntmps126
  go_wp2_with (first
    | (go_at_call 92; refine (isDay_eq _ hd).mono ?_; rintro e w1 ⟨rfl, ew⟩; replace ew := ew.symm; subst ew)
    | (at_lookup; refine wpList_lookup_mp _ rfl _ _ 107 rfl 3 25 key3 Try.underlying3 Try.underlying107 nilS (zero25 _) B len F rfl (((HG.out.alloc _).alloc _).alloc _).1 p rfl hwf _ EF.out ?_))
  refine (search_any (w.heap.size + 1 + 1 + 1) (w.heap.size + 1) ad n cap (fun j => T.getD j ⟨0, 0, 0, 0⟩) d _ h8.out h5.out hR4.out hn4 HMn.out).mono ?_
  rintro e w5 ⟨⟨s, rfl, hs, g1, g2⟩, q, rfl⟩
  have HLS : Hid ((s = 0 → lastR p d len r = none) ∧ (∀ j, s = j + 1 → lastR p d len r = some (T.getD j ⟨0, 0, 0, 0⟩))) := by
    have hT := HT.out
    have hN := HN.out
    have LS := last_of_search (p := p) (d := d) (len := len) (r := r) (s := s) (by rw [hT, hN]; exact hs)
    simp only [hT] at LS
    have get : ∀ i (h : i < T.length), T.getD i ⟨0, 0, 0, 0⟩ = T[i] := fun i h => by simp [List.getD, List.getElem?_eq_getElem h]
    obtain ⟨L1, L2⟩ := LS (fun i h hi => by rw [← get i h]; exact g1 i hi) (fun i h hi => by rw [← get i h]; exact g2 i hi (by omega))
    exact ⟨L1, fun j hj => by rw [get j (by omega)]; exact L2 j hj (by omega)⟩
  have C5 : CB (((((w.alloc (.cells #[.int .i64 m, .map (some B)] 109 (0, 0))).alloc (.cells #[.int .i64 d] 3 (0, 0))).alloc (.cells #[.int .i64 0, .int .i64 0, .int .i64 0, .int .i64 0] 144 (0, 0))).alloc (.cells #[.slice ad n cap] 25 (0, 0))).drewN q) (w.heap.size + 1 + 1) #[.int .i64 0, .int .i64 0, .int .i64 0, .int .i64 0] 144 := hZ.out
  have B5 : Below w.heap.size w (((((w.alloc (.cells #[.int .i64 m, .map (some B)] 109 (0, 0))).alloc (.cells #[.int .i64 d] 3 (0, 0))).alloc (.cells #[.int .i64 0, .int .i64 0, .int .i64 0, .int .i64 0] 144 (0, 0))).alloc (.cells #[.slice ad n cap] 25 (0, 0))).drewN q) := bdN W4.out q
  have R5 : RR (((((w.alloc (.cells #[.int .i64 m, .map (some B)] 109 (0, 0))).alloc (.cells #[.int .i64 d] 3 (0, 0))).alloc (.cells #[.int .i64 0, .int .i64 0, .int .i64 0, .int .i64 0] 144 (0, 0))).alloc (.cells #[.slice ad n cap] 25 (0, 0))).drewN q) ad n (fun j => T.getD j ⟨0, 0, 0, 0⟩) := hR4.out.drewN q
  have s8 : World.cell? (((((w.alloc (.cells #[.int .i64 m, .map (some B)] 109 (0, 0))).alloc (.cells #[.int .i64 d] 3 (0, 0))).alloc (.cells #[.int .i64 0, .int .i64 0, .int .i64 0, .int .i64 0] 144 (0, 0))).alloc (.cells #[.slice ad n cap] 25 (0, 0))).drewN q) ⟨w.heap.size + 1 + 1 + 1, 0, none⟩ = some (.slice ad n cap) := h8.out
  clear g1 g2 W4 h8 h5 hZ hR4 HR
  revert C5 B5 R5 s8
  generalize (((((w.alloc (.cells #[.int .i64 m, .map (some B)] 109 (0, 0))).alloc (.cells #[.int .i64 d] 3 (0, 0))).alloc (.cells #[.int .i64 0, .int .i64 0, .int .i64 0, .int .i64 0] 144 (0, 0))).alloc (.cells #[.slice ad n cap] 25 (0, 0))).drewN q) = w9
  intro C5 B5 R5 s8
  have t0 := C5.cell 0
  have t1 := C5.cell 1
  have t2 := C5.cell 2
  have t3 := C5.cell 3
  have f0 := C5.fr 0
  have f1 := C5.fr 1
  have f2 := C5.fr 2
  have f3 := C5.fr 3
  simp at t0 t1 t2 t3
  have H5 : Hid (CB w9 (w.heap.size + 1 + 1) #[.int .i64 0, .int .i64 0, .int .i64 0, .int .i64 0] 144) := C5
  have HB5 : Hid (Below w.heap.size w w9) := B5
  have HR5 : Hid (RR w9 ad n (fun j => T.getD j ⟨0, 0, 0, 0⟩)) := R5
  clear C5 B5 R5
  by_cases hs0 : s = 0
  · have HL : Hid (lastR p d len r = none) := HLS.out.1 hs0
    subst hs0
    go_wp2
    have C4 := four_set H5.out (.int .i64 0) (.int .i64 0) (.int .i64 0) (.int .i64 0)
    have B4 := four_below HB5.out (b := w.heap.size + 1 + 1) (by omega) (.int .i64 0) (.int .i64 0) (.int .i64 0) (.int .i64 0)
    revert C4 B4
    generalize ((((w9.setCell ⟨w.heap.size + 1 + 1, 0, none⟩ (.int .i64 0)).setCell ⟨w.heap.size + 1 + 1, 1, none⟩ (.int .i64 0)).setCell ⟨w.heap.size + 1 + 1, 2, none⟩ (.int .i64 0)).setCell ⟨w.heap.size + 1 + 1, 3, none⟩ (.int .i64 0)) = W
    intro C4 B4
    have e0 := C4.cell 0
    have e1 := C4.cell 1
    have e2 := C4.cell 2
    have e3 := C4.cell 3
    simp at e0 e1 e2 e3
    clear t0 t1 t2 t3 f0 f1 f2 f3 s8
    refine bodyPost_ret (by simp [results, Try.results126, go_sem, e0, e1, e2, e3]; try rfl) rfl ?_
    exact ⟨atp (.inr ⟨by rw [HF.out, HL.out]; rfl, rfl, rfl, rfl⟩), B4⟩
  · obtain ⟨j, rfl⟩ : ∃ j, s = j + 1 := ⟨s - 1, by omega⟩
    have HL : Hid (lastR p d len r = some (T.getD j ⟨0, 0, 0, 0⟩)) := HLS.out.2 j rfl
    obtain ⟨kb, off, rfl, _⟩ := HR5.out.addr (by omega)
    obtain ⟨c1, c2, c3, c4⟩ := HR5.out.cell (j := j) (by omega)
    obtain ⟨xd, xf, xn, xe, hx⟩ : ∃ a b c d, T.getD j ⟨0, 0, 0, 0⟩ = (⟨a, b, c, d⟩ : R4) := ⟨_, _, _, _, rfl⟩
    simp only [hx] at c1 c2 c3 c4
    have HX : Hid (T.getD j ⟨0, 0, 0, 0⟩ = (⟨xd, xf, xn, xe⟩ : R4)) := hx
    have ej1 : (j : Int) < (n : Int) := by omega
    clear hx hs0
    go_wp2
    have C4 := four_set H5.out (.int .i64 xd) (.int .i64 xf) (.int .i64 xn) (.int .i64 xe)
    have B4 := four_below HB5.out (b := w.heap.size + 1 + 1) (by omega) (.int .i64 xd) (.int .i64 xf) (.int .i64 xn) (.int .i64 xe)
    revert C4 B4
    generalize ((((w9.setCell ⟨w.heap.size + 1 + 1, 0, none⟩ (.int .i64 xd)).setCell ⟨w.heap.size + 1 + 1, 1, none⟩ (.int .i64 xf)).setCell ⟨w.heap.size + 1 + 1, 2, none⟩ (.int .i64 xn)).setCell ⟨w.heap.size + 1 + 1, 3, none⟩ (.int .i64 xe)) = W
    intro C4 B4
    have e0 := C4.cell 0
    have e1 := C4.cell 1
    have e2 := C4.cell 2
    have e3 := C4.cell 3
    simp at e0 e1 e2 e3
    clear t0 t1 t2 t3 f0 f1 f2 f3 s8 c1 c2 c3 c4
    refine bodyPost_ret (by simp [results, Try.results126, go_sem, e0, e1, e2, e3]; try rfl) rfl ?_
    exact ⟨atp (.inl ⟨by rw [HF.out, HL.out, HX.out]; rfl, rfl⟩), B4⟩
end Go.Proofs.Ytghphlnpginmhaa.Rt
