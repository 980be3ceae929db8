/- What comes in: the model. -/
import Derived.Test.YtdgccdlaokbnhaaTb
import Derived.Test.YtdgccdlaokbnhaaWb
namespace Go.Proofs.Ytdgccdlaokbnhaa
open Go Go.ChangeShapes Go.WideShapes Go.ChangeAt Go.RowKit
set_option linter.unusedVariables false
set_option linter.unusedSimpArgs false


set_option maxRecDepth 20000 in
set_option maxHeartbeats 8000000 in
theorem l16Copy_any (m p : Int) (a : Addr) (n cap : Nat) (off : Int) (c : Nat → LA2) (w : World) (hn : (n : Int) ≤ 1048576) (hr : LAr w (some a) n c) :
    Calls Try.prog 59 #[.agg #[.int .i64 m, .int .i64 p, .slice (some a) n cap, .int .i64 off]] w fun e w' => ∃ ad cap, e = .returned (.agg #[.int .i64 m, .int .i64 p, .slice ad n cap, .int .i64 off]) ∧ w'.ownsRow w.heap.size 40 2 (.slice ad n cap) n (rowLA2 c n) ∧ Below w.heap.size w w' := by
  have HF : Hid (LAr (((w.alloc (.cells #[.int .i64 m, .int .i64 p, .slice (some a) n cap, .int .i64 off] 26 (0, 0))).alloc (.cells #[.int .i64 0, .int .i64 0, .slice none 0 0, .int .i64 0] 26 (0, 0))).alloc (.cells #[] 40 (0, 0))) (some a) n c) := ((hr.alloc _).alloc _).alloc _
  obtain ⟨i4, hi4, hz40, hz41, hz42⟩ := infoLA2
  obtain ⟨RS, hRS⟩ : ∃ RS : List Value, RS = rowLA2 c n := ⟨_, rfl⟩
  have HL : Hid (RS.length = n * 2) := by rw [hRS]; exact rowLA2_len c n
  have H1 : Hid (∀ v ∈ RS, v.oneCell' = true) := by rw [hRS]; exact rowLA2_one c n
  have HSRC : Hid (∀ j v, RS[j]? = some v → (((w.alloc (.cells #[.int .i64 m, .int .i64 p, .slice (some a) n cap, .int .i64 off] 26 (0, 0))).alloc (.cells #[.int .i64 0, .int .i64 0, .slice none 0 0, .int .i64 0] 26 (0, 0))).alloc (.cells #[] 40 (0, 0))).cell? (a.add j) = some v) := by rw [hRS]; exact rowLA2_src HF.out
  have HRS : Hid (RS = rowLA2 c n) := hRS
  clear hr hRS
  go_enter Try.func59, Try.ntmps59
  go_wp2_with (at_builtin; go_loud (refine wpList_append_own_at _ rfl _ _ 24 rfl (w.heap.size + 2) 40 i4 (.agg #[.int .i64 0, .int .i64 0]) 2 16 Try.underlying24 hi4 hz40 hz41 hz42 rfl (by decide) (.slice (some ⟨w.heap.size + 2, 0, none⟩) 0 0) 0 [] rfl (madeLA2 (CB.newAt (by simp) _ _) (Nat.le_refl _)) a n cap RS rfl HL.out HSRC.out H1.out (by unfold maxLen; omega) (by omega) (by simp) ?_; intro v' w9 hown hgr _ _; rw [Nat.zero_add, List.nil_append, HRS.out] at hown; obtain ⟨ad9, cp9, rfl, _, _⟩ := ownLA2_of hown; have HO := hid hown; have X0 : CB w9 w.heap.size #[.int .i64 m, .int .i64 p, .slice (some a) n cap, .int .i64 off] 26 := (((CB.new _ _).alloc _).alloc _).keep (hgr.block _ (by simp; omega) (fun e => by simp [Value.ownBlock] at e)); have X1 : CB w9 (w.heap.size + 1) #[.int .i64 0, .int .i64 0, .slice none 0 0, .int .i64 0] 26 := ((CB.newAt (by simp) _ _).alloc _).keep (hgr.block _ (by simp) (fun e => by simp [Value.ownBlock] at e)); have HB : Hid (Below w.heap.size w w9) := hid (egrown ((((Below.refl _ _).alloc (Nat.le_refl _) _).alloc (by simp) _).alloc (by simp; omega) _) (Nat.le_refl _) hgr (fun r hr => by simp [Value.ownBlock] at hr; omega)); have HX0 := hid X0; have HX1 := hid X1; have y0 : w9.cell? ⟨w.heap.size, 0, none⟩ = some (.int .i64 m) := X0.cell 0; have y1 : w9.cell? ⟨w.heap.size, 1, none⟩ = some (.int .i64 p) := X0.cell 1; have y2 : w9.cell? ⟨w.heap.size, 2, none⟩ = some (.slice (some a) n cap) := X0.cell 2; have y3 : w9.cell? ⟨w.heap.size, 3, none⟩ = some (.int .i64 off) := X0.cell 3; have f2 := X0.fr 2; have x0 : w9.cell? ⟨w.heap.size + 1, 0, none⟩ = some (.int .i64 0) := X1.cell 0; have x1 : w9.cell? ⟨w.heap.size + 1, 1, none⟩ = some (.int .i64 0) := X1.cell 1; have x2 : w9.cell? ⟨w.heap.size + 1, 2, none⟩ = some (.slice none 0 0) := X1.cell 2; have x3 : w9.cell? ⟨w.heap.size + 1, 3, none⟩ = some (.int .i64 0) := X1.cell 3; have g0 := X1.fr 0; have g1 := X1.fr 1; have g2 := X1.fr 2; have g3 := X1.fr 3; clear hown hgr X0 X1))
  have ZC : CB (((((w9.setCell ⟨w.heap.size, 2, none⟩ (.slice ad9 n cp9)).setCell ⟨w.heap.size + 1, 0, none⟩ (.int .i64 m)).setCell ⟨w.heap.size + 1, 1, none⟩ (.int .i64 p)).setCell ⟨w.heap.size + 1, 2, none⟩ (.slice ad9 n cp9)).setCell ⟨w.heap.size + 1, 3, none⟩ (.int .i64 off)) (w.heap.size + 1) #[.int .i64 m, .int .i64 p, .slice ad9 n cp9, .int .i64 off] 26 := set4 (HX1.out.other _ (by omega))
  have ZB : Below w.heap.size w (((((w9.setCell ⟨w.heap.size, 2, none⟩ (.slice ad9 n cp9)).setCell ⟨w.heap.size + 1, 0, none⟩ (.int .i64 m)).setCell ⟨w.heap.size + 1, 1, none⟩ (.int .i64 p)).setCell ⟨w.heap.size + 1, 2, none⟩ (.slice ad9 n cp9)).setCell ⟨w.heap.size + 1, 3, none⟩ (.int .i64 off)) := ((((HB.out.setCell (by simp <;> omega) _).setCell (by simp <;> omega) _).setCell (by simp <;> omega) _).setCell (by simp <;> omega) _).setCell (by simp <;> omega) _
  have ZO : (((((w9.setCell ⟨w.heap.size, 2, none⟩ (.slice ad9 n cp9)).setCell ⟨w.heap.size + 1, 0, none⟩ (.int .i64 m)).setCell ⟨w.heap.size + 1, 1, none⟩ (.int .i64 p)).setCell ⟨w.heap.size + 1, 2, none⟩ (.slice ad9 n cp9)).setCell ⟨w.heap.size + 1, 3, none⟩ (.int .i64 off)).ownsRow w.heap.size 40 2 (.slice ad9 n cp9) n (rowLA2 c n) := own_lower (earow HO.out (fun g hg => (keep4 (by have := (HO.out.lt g hg).1; omega)).trans (hs_set (by have := (HO.out.lt g hg).1; omega)))) (by omega)
  generalize (((((w9.setCell ⟨w.heap.size, 2, none⟩ (.slice ad9 n cp9)).setCell ⟨w.heap.size + 1, 0, none⟩ (.int .i64 m)).setCell ⟨w.heap.size + 1, 1, none⟩ (.int .i64 p)).setCell ⟨w.heap.size + 1, 2, none⟩ (.slice ad9 n cp9)).setCell ⟨w.heap.size + 1, 3, none⟩ (.int .i64 off)) = Z at ZC ZB ZO ⊢
  have z0 : Z.cell? ⟨w.heap.size + 1, 0, none⟩ = some (.int .i64 m) := ZC.cell 0
  have z1 : Z.cell? ⟨w.heap.size + 1, 1, none⟩ = some (.int .i64 p) := ZC.cell 1
  have z2 : Z.cell? ⟨w.heap.size + 1, 2, none⟩ = some (.slice ad9 n cp9) := ZC.cell 2
  have z3 : Z.cell? ⟨w.heap.size + 1, 3, none⟩ = some (.int .i64 off) := ZC.cell 3
  refine bodyPost_ret (v := .agg #[.int .i64 m, .int .i64 p, .slice ad9 n cp9, .int .i64 off]) (by simp [results, Try.results59, go_sem, z0, z1, z2, z3]; try rfl) rfl ?_
  exact ⟨_, _, rfl, ZO, ZB⟩

theorem specWorth_eq (m p : Int) (ad : Option Addr) (n cap : Nat) (off : Int) (c : Nat → LA2) (v : Bool) (w : World) (h : (n : Int) ≤ 1048576) (hr : LAr w ad n c) (hv : woB m p n c off = v) :
    Calls Try.prog 20 #[.agg #[.int .i64 m, .int .i64 p, .slice ad n cap, .int .i64 off]] w fun e w' => e = .returned (.bool v) ∧ Below w.heap.size w w' := by
  subst hv; exact specWorth_any m p ad n cap off c w h hr
structure VB (w : World) (m p : Int) (sv : Value) (off : Int) (V : World) : Prop where
  bl : Below w.heap.size w V
  bx : CB V w.heap.size #[.int .i64 m, .int .i64 p, sv, .int .i64 off] 26
  rs : CB V (w.heap.size + 1) #[.int .i64 0, .int .i64 0, .slice none 0 0, .int .i64 0] 26
section
variable {w V V' : World} {m p off : Int} {sv : Value}
theorem VB.below (h : VB w m p sv off V) (b : Below V.heap.size V V') : VB w m p sv off V' := ⟨bel_on h.bl b, h.bx.below b h.bx.lt, h.rs.below b h.rs.lt⟩
theorem VB.alloc (h : VB w m p sv off V) (o : Obj) : VB w m p sv off (V.alloc o) := h.below ((Below.refl _ _).alloc (Nat.le_refl _) o)
theorem VB.size (h : VB w m p sv off V) : w.heap.size + 2 ≤ V.heap.size := h.rs.lt
theorem VB.set (h : VB w m p sv off V) {b o : Nat} (u : Value) (hb : w.heap.size + 2 ≤ b) : VB w m p sv off (V.setCell ⟨b, o, none⟩ u) := ⟨h.bl.setCell (by simp <;> omega) _, h.bx.other _ (by omega), h.rs.other _ (by omega)⟩
theorem VB.grown (h : VB w m p sv off V) {row : Option Nat} (hg : V.grownBy V' row) (hr : ∀ r, row = some r → w.heap.size + 2 ≤ r) : VB w m p sv off V' := by
  have ne : ∀ x, x < w.heap.size + 2 → V'.heap[x]? = V.heap[x]? := fun x hx => hg.block x (Nat.lt_of_lt_of_le hx h.size) (fun e => by have := hr x e.symm; omega)
  exact ⟨egrown h.bl (Nat.le_refl _) hg (fun r e => by have := hr r e; omega), h.bx.keep (ne _ (by omega)), h.rs.keep (ne _ (by omega))⟩
theorem VB.start (w : World) (m p : Int) (sv : Value) (off : Int) : VB w m p sv off ((w.alloc (.cells #[.int .i64 m, .int .i64 p, sv, .int .i64 off] 26 (0, 0))).alloc (.cells #[.int .i64 0, .int .i64 0, .slice none 0 0, .int .i64 0] 26 (0, 0))) :=
  ⟨((Below.refl _ _).alloc (Nat.le_refl _) _).alloc (by simp) _, (CB.new _ _).alloc _, CB.newAt (by simp) _ _⟩
end
theorem putL_q (c : Nat → LA2) (n : Nat) (x : LA2) : qS (putL c n x) (n + 1) = qS c n + x.qty := by
  simp only [qS]; rw [qS_congr (c := putL c n x) (d := c) n (fun j hj => by unfold putL; rw [if_neg (by omega)])]; simp [putL]
theorem putL_k (c : Nat → LA2) (n : Nat) (x : LA2) : kS (putL c n x) (n + 1) = kS c n + x.cost := by
  simp only [kS]; rw [kS_congr (c := putL c n x) (d := c) n (fun j hj => by unfold putL; rw [if_neg (by omega)])]; simp [putL]
theorem putL_la {c : Nat → LA2} {n : Nat} {x : LA2} (h : ∀ j, j < n → laB (c j) = true) (hx : laB x = true) : ∀ j, j < n + 1 → laB (putL c n x j) = true := fun j hj => by
  unfold putL; split
  · exact hx
  · exact h j (by omega)

set_option maxRecDepth 20000 in
set_option maxHeartbeats 16000000 in
theorem specTakeIn_no (m p : Int) (a : Addr) (n cap : Nat) (off q k : Int) (c C : Nat → LA2) (w : World) (hnI : (n : Int) ≤ 1048576) (hno : woB m p n c off = false ∨ laB ⟨q, k⟩ = false) (hr : LAr w (some a) n c) :
    Calls Try.prog 30 #[.agg #[.int .i64 m, .int .i64 p, .slice (some a) n cap, .int .i64 off], .int .i64 q, .int .i64 k] w fun e w' => ∃ ad cap, e = .returned (.tuple #[.agg #[.int .i64 0, .int .i64 0, .slice ad 0 cap, .int .i64 0], .bool false]) ∧ OwnLA2 w' w.heap.size ad 0 C ∧ Below w.heap.size w w' := by
  have HR : Hid (LAr w (some a) n c) := hr
  obtain ⟨i4, hi4, hz40, hz41, hz42⟩ := infoLA2
  have tkW : True := trivial
  have tkA : True := trivial
  have tkB : True := trivial
  clear hr
  obtain ⟨v0, h0⟩ : ∃ v, woB m p n c off = v := ⟨_, rfl⟩
  obtain ⟨v1, h1⟩ : ∃ v, inB q 1 1000000 = v := ⟨_, rfl⟩
  obtain ⟨v2, h2⟩ : ∃ v, inB k 0 100000000000 = v := ⟨_, rfl⟩
  have hv : v0 = false ∨ v1 = false ∨ v2 = false := by
    rcases hno with h | h
    · exact .inl (h0.symm.trans h)
    · right
      unfold laB at h
      simp only at h
      rw [h1, h2] at h
      cases v1 <;> cases v2 <;> simp_all
  have HW0 := hid h0
  have HQ0 := hid h1
  have HK0 := hid h2
  clear h0 h1 h2 hno
  cases v0
  · clear hv
    go_enter Try.func30, Try.ntmps30
    go_wp2_with (first
    | (go_at_call 20; clear tkW; refine (specWorth_eq _ _ _ _ _ _ c _ _ hnI ((HR.out.alloc _).alloc _) HW0.out).mono ?_; rintro e w3 ⟨rfl, b3⟩; have U3 : Hid (VB w m p (.slice (some a) n cap) off w3) := hid ((VB.start w m p (.slice (some a) n cap) off).below b3); have R3 : Hid (LAr w3 (some a) n c) := hid (((HR.out.alloc _).alloc _).below b3); have x0 : w3.cell? ⟨w.heap.size + 1, 0, none⟩ = some (.int .i64 0) := U3.out.rs.cell 0; have x1 : w3.cell? ⟨w.heap.size + 1, 1, none⟩ = some (.int .i64 0) := U3.out.rs.cell 1; have x2 : w3.cell? ⟨w.heap.size + 1, 2, none⟩ = some (.slice none 0 0) := U3.out.rs.cell 2; have x3 : w3.cell? ⟨w.heap.size + 1, 3, none⟩ = some (.int .i64 0) := U3.out.rs.cell 3; have f0 := U3.out.rs.fr 0; have f1 := U3.out.rs.fr 1; have f2 := U3.out.rs.fr 2; have f3 := U3.out.rs.fr 3; have t0 : w3.cell? ⟨w.heap.size, 0, none⟩ = some (.int .i64 m) := U3.out.bx.cell 0; have t1 : w3.cell? ⟨w.heap.size, 1, none⟩ = some (.int .i64 p) := U3.out.bx.cell 1; have t2 : w3.cell? ⟨w.heap.size, 2, none⟩ = some (.slice (some a) n cap) := U3.out.bx.cell 2; have t3 : w3.cell? ⟨w.heap.size, 3, none⟩ = some (.int .i64 off) := U3.out.bx.cell 3; have hs3 := U3.out.size; clear b3)
    | (go_at_call 60; clear tkA; refine (l1In_eq _ _ _ _ _ HQ0.out).mono ?_; rintro e w1 ⟨rfl, ew⟩; replace ew := ew.symm; subst ew)
    | (go_at_call 60; clear tkB; refine (l1In_eq _ _ _ _ _ HK0.out).mono ?_; rintro e w1 ⟨rfl, ew⟩; replace ew := ew.symm; subst ew)
    | (go_at_call 59; clear x0 x1 x2 x3 f0 f1 f2 f3; refine (l16Copy_any _ _ a n _ _ c _ hnI R3.out).mono ?_; rintro e w5 ⟨ad5, cp5, rfl, o5, b5⟩; have U5 := hid (U3.out.below b5); have O5 := hid (own_lower o5 U3.out.size); clear t0 t1 t2 t3 o5 b5)
    | (at_builtin; go_loud (refine wpList_append_own_at _ rfl _ _ 24 rfl (w.heap.size + 2) 40 i4 (.agg #[.int .i64 0, .int .i64 0]) 2 16 Try.underlying24 hi4 hz40 hz41 hz42 rfl (by decide) (.slice ad5 n cp5) n (rowLA2 c n) rfl (row_bel O5.out (((Below.refl _ _).alloc (Nat.le_refl _) _).alloc (by simp) _)) ⟨_, 0, none⟩ 1 1 [.int .i64 q, .int .i64 k] rfl rfl (ecells (by first | rfl | simp)) (fun u hu => by simp at hu; rcases hu with rfl | rfl <;> rfl) (by unfold maxLen; omega) (by omega) (by have := U5.out.size; simp; omega) ?_; intro v9 w9 hown hgr _ _; have hown2 := hown; rw [← row_put c n ⟨q, k⟩] at hown2; obtain ⟨ad9, cp9, rfl, _, ow9⟩ := ownLA2_of hown2; have U9 := hid (((U5.out.alloc _).alloc _).grown hgr (fun x hx => (O5.out.lt x hx).1)); have N9 : Hid (CB w9 w5.heap.size #[.int .i64 m, .int .i64 p, .slice ad5 n cp5, .int .i64 off] 26) := hid (((CB.new _ _).alloc _).keep (hgr.block _ (by simp; omega) (fun e => by have := (O5.out.lt _ e.symm).2; omega))); have O9 := hid ow9; have HNG : Hid (∀ g, ad9 = some ⟨g, 0, none⟩ → w.heap.size + 2 ≤ g) := hid (fun g hg => (hown.lt g (by rw [hg]; rfl)).1); have hs5 := U5.out.size; have HNN : Hid (∀ g, ad9 = some ⟨g, 0, none⟩ → g ≠ w5.heap.size) := hid (fun g hg e => by have h1 := hown.2; rcases h1 with ⟨h1, _⟩ | ⟨g0, cap0, cur0, e1, hb1, hg1, _⟩; (rw [hg] at h1; cases h1); (rw [hg] at e1; cases e1; have hX := N9.out; unfold CB at hX; rw [← e] at hX; rw [hX] at hg1; cases hg1)); have e0 : w9.cell? ⟨w5.heap.size, 0, none⟩ = some (.int .i64 m) := N9.out.cell 0; have e1 : w9.cell? ⟨w5.heap.size, 1, none⟩ = some (.int .i64 p) := N9.out.cell 1; have e2 : w9.cell? ⟨w5.heap.size, 2, none⟩ = some (.slice ad5 n cp5) := N9.out.cell 2; have e3 : w9.cell? ⟨w5.heap.size, 3, none⟩ = some (.int .i64 off) := N9.out.cell 3; have j2 := N9.out.fr 2; have t0 : w9.cell? ⟨w.heap.size, 0, none⟩ = some (.int .i64 m) := U9.out.bx.cell 0; have t1 : w9.cell? ⟨w.heap.size, 1, none⟩ = some (.int .i64 p) := U9.out.bx.cell 1; have t2 : w9.cell? ⟨w.heap.size, 2, none⟩ = some (.slice (some a) n cap) := U9.out.bx.cell 2; have t3 : w9.cell? ⟨w.heap.size, 3, none⟩ = some (.int .i64 off) := U9.out.bx.cell 3; clear hown hown2 hgr ow9)))
    have ZC : CB ((((w3.setCell ⟨w.heap.size + 1, 0, none⟩ (.int .i64 0)).setCell ⟨w.heap.size + 1, 1, none⟩ (.int .i64 0)).setCell ⟨w.heap.size + 1, 2, none⟩ (.slice none 0 0)).setCell ⟨w.heap.size + 1, 3, none⟩ (.int .i64 0)) (w.heap.size + 1) #[.int .i64 0, .int .i64 0, .slice none 0 0, .int .i64 0] 26 := set4 U3.out.rs
    have ZB : Below w.heap.size w ((((w3.setCell ⟨w.heap.size + 1, 0, none⟩ (.int .i64 0)).setCell ⟨w.heap.size + 1, 1, none⟩ (.int .i64 0)).setCell ⟨w.heap.size + 1, 2, none⟩ (.slice none 0 0)).setCell ⟨w.heap.size + 1, 3, none⟩ (.int .i64 0)) := ((((U3.out.bl.setCell (by simp <;> omega) _).setCell (by simp <;> omega) _).setCell (by simp <;> omega) _).setCell (by simp <;> omega) _)
    have ZO : OwnLA2 ((((w3.setCell ⟨w.heap.size + 1, 0, none⟩ (.int .i64 0)).setCell ⟨w.heap.size + 1, 1, none⟩ (.int .i64 0)).setCell ⟨w.heap.size + 1, 2, none⟩ (.slice none 0 0)).setCell ⟨w.heap.size + 1, 3, none⟩ (.int .i64 0)) w.heap.size none 0 C := .inl rfl
    generalize ((((w3.setCell ⟨w.heap.size + 1, 0, none⟩ (.int .i64 0)).setCell ⟨w.heap.size + 1, 1, none⟩ (.int .i64 0)).setCell ⟨w.heap.size + 1, 2, none⟩ (.slice none 0 0)).setCell ⟨w.heap.size + 1, 3, none⟩ (.int .i64 0)) = Z at ZC ZB ZO ⊢
    have z0 : Z.cell? ⟨w.heap.size + 1, 0, none⟩ = some (.int .i64 0) := ZC.cell 0
    have z1 : Z.cell? ⟨w.heap.size + 1, 1, none⟩ = some (.int .i64 0) := ZC.cell 1
    have z2 : Z.cell? ⟨w.heap.size + 1, 2, none⟩ = some (.slice none 0 0) := ZC.cell 2
    have z3 : Z.cell? ⟨w.heap.size + 1, 3, none⟩ = some (.int .i64 0) := ZC.cell 3
    refine bodyPost_ret (v := .tuple #[.agg #[.int .i64 0, .int .i64 0, .slice none 0 0, .int .i64 0], .bool false]) (by simp [results, Try.results30, go_sem, z0, z1, z2, z3]; try rfl) rfl ?_
    exact ⟨_, _, rfl, ZO, ZB⟩
  cases v1
  · clear hv
    go_enter Try.func30, Try.ntmps30
    go_wp2_with (first
    | (go_at_call 20; clear tkW; refine (specWorth_eq _ _ _ _ _ _ c _ _ hnI ((HR.out.alloc _).alloc _) HW0.out).mono ?_; rintro e w3 ⟨rfl, b3⟩; have U3 : Hid (VB w m p (.slice (some a) n cap) off w3) := hid ((VB.start w m p (.slice (some a) n cap) off).below b3); have R3 : Hid (LAr w3 (some a) n c) := hid (((HR.out.alloc _).alloc _).below b3); have x0 : w3.cell? ⟨w.heap.size + 1, 0, none⟩ = some (.int .i64 0) := U3.out.rs.cell 0; have x1 : w3.cell? ⟨w.heap.size + 1, 1, none⟩ = some (.int .i64 0) := U3.out.rs.cell 1; have x2 : w3.cell? ⟨w.heap.size + 1, 2, none⟩ = some (.slice none 0 0) := U3.out.rs.cell 2; have x3 : w3.cell? ⟨w.heap.size + 1, 3, none⟩ = some (.int .i64 0) := U3.out.rs.cell 3; have f0 := U3.out.rs.fr 0; have f1 := U3.out.rs.fr 1; have f2 := U3.out.rs.fr 2; have f3 := U3.out.rs.fr 3; have t0 : w3.cell? ⟨w.heap.size, 0, none⟩ = some (.int .i64 m) := U3.out.bx.cell 0; have t1 : w3.cell? ⟨w.heap.size, 1, none⟩ = some (.int .i64 p) := U3.out.bx.cell 1; have t2 : w3.cell? ⟨w.heap.size, 2, none⟩ = some (.slice (some a) n cap) := U3.out.bx.cell 2; have t3 : w3.cell? ⟨w.heap.size, 3, none⟩ = some (.int .i64 off) := U3.out.bx.cell 3; have hs3 := U3.out.size; clear b3)
    | (go_at_call 60; clear tkA; refine (l1In_eq _ _ _ _ _ HQ0.out).mono ?_; rintro e w1 ⟨rfl, ew⟩; replace ew := ew.symm; subst ew)
    | (go_at_call 60; clear tkB; refine (l1In_eq _ _ _ _ _ HK0.out).mono ?_; rintro e w1 ⟨rfl, ew⟩; replace ew := ew.symm; subst ew)
    | (go_at_call 59; clear x0 x1 x2 x3 f0 f1 f2 f3; refine (l16Copy_any _ _ a n _ _ c _ hnI R3.out).mono ?_; rintro e w5 ⟨ad5, cp5, rfl, o5, b5⟩; have U5 := hid (U3.out.below b5); have O5 := hid (own_lower o5 U3.out.size); clear t0 t1 t2 t3 o5 b5)
    | (at_builtin; go_loud (refine wpList_append_own_at _ rfl _ _ 24 rfl (w.heap.size + 2) 40 i4 (.agg #[.int .i64 0, .int .i64 0]) 2 16 Try.underlying24 hi4 hz40 hz41 hz42 rfl (by decide) (.slice ad5 n cp5) n (rowLA2 c n) rfl (row_bel O5.out (((Below.refl _ _).alloc (Nat.le_refl _) _).alloc (by simp) _)) ⟨_, 0, none⟩ 1 1 [.int .i64 q, .int .i64 k] rfl rfl (ecells (by first | rfl | simp)) (fun u hu => by simp at hu; rcases hu with rfl | rfl <;> rfl) (by unfold maxLen; omega) (by omega) (by have := U5.out.size; simp; omega) ?_; intro v9 w9 hown hgr _ _; have hown2 := hown; rw [← row_put c n ⟨q, k⟩] at hown2; obtain ⟨ad9, cp9, rfl, _, ow9⟩ := ownLA2_of hown2; have U9 := hid (((U5.out.alloc _).alloc _).grown hgr (fun x hx => (O5.out.lt x hx).1)); have N9 : Hid (CB w9 w5.heap.size #[.int .i64 m, .int .i64 p, .slice ad5 n cp5, .int .i64 off] 26) := hid (((CB.new _ _).alloc _).keep (hgr.block _ (by simp; omega) (fun e => by have := (O5.out.lt _ e.symm).2; omega))); have O9 := hid ow9; have HNG : Hid (∀ g, ad9 = some ⟨g, 0, none⟩ → w.heap.size + 2 ≤ g) := hid (fun g hg => (hown.lt g (by rw [hg]; rfl)).1); have hs5 := U5.out.size; have HNN : Hid (∀ g, ad9 = some ⟨g, 0, none⟩ → g ≠ w5.heap.size) := hid (fun g hg e => by have h1 := hown.2; rcases h1 with ⟨h1, _⟩ | ⟨g0, cap0, cur0, e1, hb1, hg1, _⟩; (rw [hg] at h1; cases h1); (rw [hg] at e1; cases e1; have hX := N9.out; unfold CB at hX; rw [← e] at hX; rw [hX] at hg1; cases hg1)); have e0 : w9.cell? ⟨w5.heap.size, 0, none⟩ = some (.int .i64 m) := N9.out.cell 0; have e1 : w9.cell? ⟨w5.heap.size, 1, none⟩ = some (.int .i64 p) := N9.out.cell 1; have e2 : w9.cell? ⟨w5.heap.size, 2, none⟩ = some (.slice ad5 n cp5) := N9.out.cell 2; have e3 : w9.cell? ⟨w5.heap.size, 3, none⟩ = some (.int .i64 off) := N9.out.cell 3; have j2 := N9.out.fr 2; have t0 : w9.cell? ⟨w.heap.size, 0, none⟩ = some (.int .i64 m) := U9.out.bx.cell 0; have t1 : w9.cell? ⟨w.heap.size, 1, none⟩ = some (.int .i64 p) := U9.out.bx.cell 1; have t2 : w9.cell? ⟨w.heap.size, 2, none⟩ = some (.slice (some a) n cap) := U9.out.bx.cell 2; have t3 : w9.cell? ⟨w.heap.size, 3, none⟩ = some (.int .i64 off) := U9.out.bx.cell 3; clear hown hown2 hgr ow9)))
    have ZC : CB ((((w3.setCell ⟨w.heap.size + 1, 0, none⟩ (.int .i64 0)).setCell ⟨w.heap.size + 1, 1, none⟩ (.int .i64 0)).setCell ⟨w.heap.size + 1, 2, none⟩ (.slice none 0 0)).setCell ⟨w.heap.size + 1, 3, none⟩ (.int .i64 0)) (w.heap.size + 1) #[.int .i64 0, .int .i64 0, .slice none 0 0, .int .i64 0] 26 := set4 U3.out.rs
    have ZB : Below w.heap.size w ((((w3.setCell ⟨w.heap.size + 1, 0, none⟩ (.int .i64 0)).setCell ⟨w.heap.size + 1, 1, none⟩ (.int .i64 0)).setCell ⟨w.heap.size + 1, 2, none⟩ (.slice none 0 0)).setCell ⟨w.heap.size + 1, 3, none⟩ (.int .i64 0)) := ((((U3.out.bl.setCell (by simp <;> omega) _).setCell (by simp <;> omega) _).setCell (by simp <;> omega) _).setCell (by simp <;> omega) _)
    have ZO : OwnLA2 ((((w3.setCell ⟨w.heap.size + 1, 0, none⟩ (.int .i64 0)).setCell ⟨w.heap.size + 1, 1, none⟩ (.int .i64 0)).setCell ⟨w.heap.size + 1, 2, none⟩ (.slice none 0 0)).setCell ⟨w.heap.size + 1, 3, none⟩ (.int .i64 0)) w.heap.size none 0 C := .inl rfl
    generalize ((((w3.setCell ⟨w.heap.size + 1, 0, none⟩ (.int .i64 0)).setCell ⟨w.heap.size + 1, 1, none⟩ (.int .i64 0)).setCell ⟨w.heap.size + 1, 2, none⟩ (.slice none 0 0)).setCell ⟨w.heap.size + 1, 3, none⟩ (.int .i64 0)) = Z at ZC ZB ZO ⊢
    have z0 : Z.cell? ⟨w.heap.size + 1, 0, none⟩ = some (.int .i64 0) := ZC.cell 0
    have z1 : Z.cell? ⟨w.heap.size + 1, 1, none⟩ = some (.int .i64 0) := ZC.cell 1
    have z2 : Z.cell? ⟨w.heap.size + 1, 2, none⟩ = some (.slice none 0 0) := ZC.cell 2
    have z3 : Z.cell? ⟨w.heap.size + 1, 3, none⟩ = some (.int .i64 0) := ZC.cell 3
    refine bodyPost_ret (v := .tuple #[.agg #[.int .i64 0, .int .i64 0, .slice none 0 0, .int .i64 0], .bool false]) (by simp [results, Try.results30, go_sem, z0, z1, z2, z3]; try rfl) rfl ?_
    exact ⟨_, _, rfl, ZO, ZB⟩
  obtain rfl : v2 = false := by simpa using hv
  clear hv
  go_enter Try.func30, Try.ntmps30
  go_wp2_with (first
    | (go_at_call 20; clear tkW; refine (specWorth_eq _ _ _ _ _ _ c _ _ hnI ((HR.out.alloc _).alloc _) HW0.out).mono ?_; rintro e w3 ⟨rfl, b3⟩; have U3 : Hid (VB w m p (.slice (some a) n cap) off w3) := hid ((VB.start w m p (.slice (some a) n cap) off).below b3); have R3 : Hid (LAr w3 (some a) n c) := hid (((HR.out.alloc _).alloc _).below b3); have x0 : w3.cell? ⟨w.heap.size + 1, 0, none⟩ = some (.int .i64 0) := U3.out.rs.cell 0; have x1 : w3.cell? ⟨w.heap.size + 1, 1, none⟩ = some (.int .i64 0) := U3.out.rs.cell 1; have x2 : w3.cell? ⟨w.heap.size + 1, 2, none⟩ = some (.slice none 0 0) := U3.out.rs.cell 2; have x3 : w3.cell? ⟨w.heap.size + 1, 3, none⟩ = some (.int .i64 0) := U3.out.rs.cell 3; have f0 := U3.out.rs.fr 0; have f1 := U3.out.rs.fr 1; have f2 := U3.out.rs.fr 2; have f3 := U3.out.rs.fr 3; have t0 : w3.cell? ⟨w.heap.size, 0, none⟩ = some (.int .i64 m) := U3.out.bx.cell 0; have t1 : w3.cell? ⟨w.heap.size, 1, none⟩ = some (.int .i64 p) := U3.out.bx.cell 1; have t2 : w3.cell? ⟨w.heap.size, 2, none⟩ = some (.slice (some a) n cap) := U3.out.bx.cell 2; have t3 : w3.cell? ⟨w.heap.size, 3, none⟩ = some (.int .i64 off) := U3.out.bx.cell 3; have hs3 := U3.out.size; clear b3)
    | (go_at_call 60; clear tkA; refine (l1In_eq _ _ _ _ _ HQ0.out).mono ?_; rintro e w1 ⟨rfl, ew⟩; replace ew := ew.symm; subst ew)
    | (go_at_call 60; clear tkB; refine (l1In_eq _ _ _ _ _ HK0.out).mono ?_; rintro e w1 ⟨rfl, ew⟩; replace ew := ew.symm; subst ew)
    | (go_at_call 59; clear x0 x1 x2 x3 f0 f1 f2 f3; refine (l16Copy_any _ _ a n _ _ c _ hnI R3.out).mono ?_; rintro e w5 ⟨ad5, cp5, rfl, o5, b5⟩; have U5 := hid (U3.out.below b5); have O5 := hid (own_lower o5 U3.out.size); clear t0 t1 t2 t3 o5 b5)
    | (at_builtin; go_loud (refine wpList_append_own_at _ rfl _ _ 24 rfl (w.heap.size + 2) 40 i4 (.agg #[.int .i64 0, .int .i64 0]) 2 16 Try.underlying24 hi4 hz40 hz41 hz42 rfl (by decide) (.slice ad5 n cp5) n (rowLA2 c n) rfl (row_bel O5.out (((Below.refl _ _).alloc (Nat.le_refl _) _).alloc (by simp) _)) ⟨_, 0, none⟩ 1 1 [.int .i64 q, .int .i64 k] rfl rfl (ecells (by first | rfl | simp)) (fun u hu => by simp at hu; rcases hu with rfl | rfl <;> rfl) (by unfold maxLen; omega) (by omega) (by have := U5.out.size; simp; omega) ?_; intro v9 w9 hown hgr _ _; have hown2 := hown; rw [← row_put c n ⟨q, k⟩] at hown2; obtain ⟨ad9, cp9, rfl, _, ow9⟩ := ownLA2_of hown2; have U9 := hid (((U5.out.alloc _).alloc _).grown hgr (fun x hx => (O5.out.lt x hx).1)); have N9 : Hid (CB w9 w5.heap.size #[.int .i64 m, .int .i64 p, .slice ad5 n cp5, .int .i64 off] 26) := hid (((CB.new _ _).alloc _).keep (hgr.block _ (by simp; omega) (fun e => by have := (O5.out.lt _ e.symm).2; omega))); have O9 := hid ow9; have HNG : Hid (∀ g, ad9 = some ⟨g, 0, none⟩ → w.heap.size + 2 ≤ g) := hid (fun g hg => (hown.lt g (by rw [hg]; rfl)).1); have hs5 := U5.out.size; have HNN : Hid (∀ g, ad9 = some ⟨g, 0, none⟩ → g ≠ w5.heap.size) := hid (fun g hg e => by have h1 := hown.2; rcases h1 with ⟨h1, _⟩ | ⟨g0, cap0, cur0, e1, hb1, hg1, _⟩; (rw [hg] at h1; cases h1); (rw [hg] at e1; cases e1; have hX := N9.out; unfold CB at hX; rw [← e] at hX; rw [hX] at hg1; cases hg1)); have e0 : w9.cell? ⟨w5.heap.size, 0, none⟩ = some (.int .i64 m) := N9.out.cell 0; have e1 : w9.cell? ⟨w5.heap.size, 1, none⟩ = some (.int .i64 p) := N9.out.cell 1; have e2 : w9.cell? ⟨w5.heap.size, 2, none⟩ = some (.slice ad5 n cp5) := N9.out.cell 2; have e3 : w9.cell? ⟨w5.heap.size, 3, none⟩ = some (.int .i64 off) := N9.out.cell 3; have j2 := N9.out.fr 2; have t0 : w9.cell? ⟨w.heap.size, 0, none⟩ = some (.int .i64 m) := U9.out.bx.cell 0; have t1 : w9.cell? ⟨w.heap.size, 1, none⟩ = some (.int .i64 p) := U9.out.bx.cell 1; have t2 : w9.cell? ⟨w.heap.size, 2, none⟩ = some (.slice (some a) n cap) := U9.out.bx.cell 2; have t3 : w9.cell? ⟨w.heap.size, 3, none⟩ = some (.int .i64 off) := U9.out.bx.cell 3; clear hown hown2 hgr ow9)))
  have ZC : CB ((((w3.setCell ⟨w.heap.size + 1, 0, none⟩ (.int .i64 0)).setCell ⟨w.heap.size + 1, 1, none⟩ (.int .i64 0)).setCell ⟨w.heap.size + 1, 2, none⟩ (.slice none 0 0)).setCell ⟨w.heap.size + 1, 3, none⟩ (.int .i64 0)) (w.heap.size + 1) #[.int .i64 0, .int .i64 0, .slice none 0 0, .int .i64 0] 26 := set4 U3.out.rs
  have ZB : Below w.heap.size w ((((w3.setCell ⟨w.heap.size + 1, 0, none⟩ (.int .i64 0)).setCell ⟨w.heap.size + 1, 1, none⟩ (.int .i64 0)).setCell ⟨w.heap.size + 1, 2, none⟩ (.slice none 0 0)).setCell ⟨w.heap.size + 1, 3, none⟩ (.int .i64 0)) := ((((U3.out.bl.setCell (by simp <;> omega) _).setCell (by simp <;> omega) _).setCell (by simp <;> omega) _).setCell (by simp <;> omega) _)
  have ZO : OwnLA2 ((((w3.setCell ⟨w.heap.size + 1, 0, none⟩ (.int .i64 0)).setCell ⟨w.heap.size + 1, 1, none⟩ (.int .i64 0)).setCell ⟨w.heap.size + 1, 2, none⟩ (.slice none 0 0)).setCell ⟨w.heap.size + 1, 3, none⟩ (.int .i64 0)) w.heap.size none 0 C := .inl rfl
  generalize ((((w3.setCell ⟨w.heap.size + 1, 0, none⟩ (.int .i64 0)).setCell ⟨w.heap.size + 1, 1, none⟩ (.int .i64 0)).setCell ⟨w.heap.size + 1, 2, none⟩ (.slice none 0 0)).setCell ⟨w.heap.size + 1, 3, none⟩ (.int .i64 0)) = Z at ZC ZB ZO ⊢
  have z0 : Z.cell? ⟨w.heap.size + 1, 0, none⟩ = some (.int .i64 0) := ZC.cell 0
  have z1 : Z.cell? ⟨w.heap.size + 1, 1, none⟩ = some (.int .i64 0) := ZC.cell 1
  have z2 : Z.cell? ⟨w.heap.size + 1, 2, none⟩ = some (.slice none 0 0) := ZC.cell 2
  have z3 : Z.cell? ⟨w.heap.size + 1, 3, none⟩ = some (.int .i64 0) := ZC.cell 3
  refine bodyPost_ret (v := .tuple #[.agg #[.int .i64 0, .int .i64 0, .slice none 0 0, .int .i64 0], .bool false]) (by simp [results, Try.results30, go_sem, z0, z1, z2, z3]; try rfl) rfl ?_
  exact ⟨_, _, rfl, ZO, ZB⟩

set_option maxRecDepth 20000 in
set_option maxHeartbeats 16000000 in
theorem specTakeIn_1 (p : Int) (a : Addr) (n cap : Nat) (off q k Q KK R : Int) (BV : Bool) (c : Nat → LA2) (w : World) (hn : n ≤ 300) (hw0 : woB 1 p n c off = true) (hla : laB ⟨q, k⟩ = true) (hr : LAr w (some a) n c) (hQ : qS c n = Q) (hK : kS c n = KK) (hRR : q * p = R) (hBV : woB 1 p (n + 1) (putL c n ⟨q, k⟩) (off) = BV) :
    Calls Try.prog 30 #[.agg #[.int .i64 1, .int .i64 p, .slice (some a) n cap, .int .i64 off], .int .i64 q, .int .i64 k] w fun e w' => ∃ ad cap, e = .returned (.tuple #[.agg #[.int .i64 (zI BV 1), .int .i64 (zI BV p), .slice ad (zN BV (n + 1)) cap, .int .i64 (zI BV (off))], .bool BV]) ∧ OwnLA2 w' w.heap.size ad (zN BV (n + 1)) (putL c n ⟨q, k⟩) ∧ Below w.heap.size w w' := by
  have HR : Hid (LAr w (some a) n c) := hr
  obtain ⟨i4, hi4, hz40, hz41, hz42⟩ := infoLA2
  have hnI : (n : Int) ≤ 1048576 := by omega
  have tkW : True := trivial
  have tkA : True := trivial
  have tkB : True := trivial
  have hwp := woB_p hw0
  have hbd := hwp.bd
  rw [hQ, hK] at hbd
  obtain ⟨_, d1, d2, d3⟩ := hbd
  have d0 : 0 ≤ Q := by rw [← hQ]; have := (sums_bd n hwp.lay).1; omega
  obtain ⟨⟨q1, q2⟩, k1, k2⟩ := laB_p hla
  simp only at q1 q2 k1 k2
  have HPL : Hid (∀ j, j < n + 1 → laB (putL c n ⟨q, k⟩ j) = true) := hid (putL_la hwp.lay hla)
  have HSQ : Hid (qS (putL c n ⟨q, k⟩) (n + 1) = Q + q) := hid (by rw [putL_q, hQ])
  have HSK : Hid (kS (putL c n ⟨q, k⟩) (n + 1) = KK + k) := hid (by rw [putL_k, hK])
  have HW0 : Hid (woB 1 p n c off = true) := hw0
  have HQ0 : Hid (inB q 1 1000000 = true) := hid (inB_y q1 q2)
  have HK0 : Hid (inB k 0 100000000000 = true) := hid (inB_y k1 k2)
  have HTB : Hid (woB 1 p (n + 1) (putL c n ⟨q, k⟩) (off) = BV) := hBV
  clear hr hw0 hla hwp hQ hK hRR hBV
  go_enter Try.func30, Try.ntmps30
  go_wp2_with (first
    | (go_at_call 20; clear tkW; refine (specWorth_eq _ _ _ _ _ _ c _ _ hnI ((HR.out.alloc _).alloc _) HW0.out).mono ?_; rintro e w3 ⟨rfl, b3⟩; have U3 : Hid (VB w 1 p (.slice (some a) n cap) off w3) := hid ((VB.start w 1 p (.slice (some a) n cap) off).below b3); have R3 : Hid (LAr w3 (some a) n c) := hid (((HR.out.alloc _).alloc _).below b3); have x0 : w3.cell? ⟨w.heap.size + 1, 0, none⟩ = some (.int .i64 0) := U3.out.rs.cell 0; have x1 : w3.cell? ⟨w.heap.size + 1, 1, none⟩ = some (.int .i64 0) := U3.out.rs.cell 1; have x2 : w3.cell? ⟨w.heap.size + 1, 2, none⟩ = some (.slice none 0 0) := U3.out.rs.cell 2; have x3 : w3.cell? ⟨w.heap.size + 1, 3, none⟩ = some (.int .i64 0) := U3.out.rs.cell 3; have f0 := U3.out.rs.fr 0; have f1 := U3.out.rs.fr 1; have f2 := U3.out.rs.fr 2; have f3 := U3.out.rs.fr 3; have t0 : w3.cell? ⟨w.heap.size, 0, none⟩ = some (.int .i64 1) := U3.out.bx.cell 0; have t1 : w3.cell? ⟨w.heap.size, 1, none⟩ = some (.int .i64 p) := U3.out.bx.cell 1; have t2 : w3.cell? ⟨w.heap.size, 2, none⟩ = some (.slice (some a) n cap) := U3.out.bx.cell 2; have t3 : w3.cell? ⟨w.heap.size, 3, none⟩ = some (.int .i64 off) := U3.out.bx.cell 3; have hs3 := U3.out.size; clear b3)
    | (go_at_call 60; clear tkA; refine (l1In_eq _ _ _ _ _ HQ0.out).mono ?_; rintro e w1 ⟨rfl, ew⟩; replace ew := ew.symm; subst ew)
    | (go_at_call 60; clear tkB; refine (l1In_eq _ _ _ _ _ HK0.out).mono ?_; rintro e w1 ⟨rfl, ew⟩; replace ew := ew.symm; subst ew)
    | (go_at_call 59; clear x0 x1 x2 x3 f0 f1 f2 f3; refine (l16Copy_any _ _ a n _ _ c _ hnI R3.out).mono ?_; rintro e w5 ⟨ad5, cp5, rfl, o5, b5⟩; have U5 := hid (U3.out.below b5); have O5 := hid (own_lower o5 U3.out.size); clear t0 t1 t2 t3 o5 b5)
    | (at_builtin; go_loud (refine wpList_append_own_at _ rfl _ _ 24 rfl (w.heap.size + 2) 40 i4 (.agg #[.int .i64 0, .int .i64 0]) 2 16 Try.underlying24 hi4 hz40 hz41 hz42 rfl (by decide) (.slice ad5 n cp5) n (rowLA2 c n) rfl (row_bel O5.out (((Below.refl _ _).alloc (Nat.le_refl _) _).alloc (by simp) _)) ⟨_, 0, none⟩ 1 1 [.int .i64 q, .int .i64 k] rfl rfl (ecells (by first | rfl | simp)) (fun u hu => by simp at hu; rcases hu with rfl | rfl <;> rfl) (by unfold maxLen; omega) (by omega) (by have := U5.out.size; simp; omega) ?_; intro v9 w9 hown hgr _ _; have hown2 := hown; rw [← row_put c n ⟨q, k⟩] at hown2; obtain ⟨ad9, cp9, rfl, _, ow9⟩ := ownLA2_of hown2; have U9 := hid (((U5.out.alloc _).alloc _).grown hgr (fun x hx => (O5.out.lt x hx).1)); have N9 : Hid (CB w9 w5.heap.size #[.int .i64 1, .int .i64 p, .slice ad5 n cp5, .int .i64 off] 26) := hid (((CB.new _ _).alloc _).keep (hgr.block _ (by simp; omega) (fun e => by have := (O5.out.lt _ e.symm).2; omega))); have O9 := hid ow9; have HNG : Hid (∀ g, ad9 = some ⟨g, 0, none⟩ → w.heap.size + 2 ≤ g) := hid (fun g hg => (hown.lt g (by rw [hg]; rfl)).1); have hs5 := U5.out.size; have HNN : Hid (∀ g, ad9 = some ⟨g, 0, none⟩ → g ≠ w5.heap.size) := hid (fun g hg e => by have h1 := hown.2; rcases h1 with ⟨h1, _⟩ | ⟨g0, cap0, cur0, e1, hb1, hg1, _⟩; (rw [hg] at h1; cases h1); (rw [hg] at e1; cases e1; have hX := N9.out; unfold CB at hX; rw [← e] at hX; rw [hX] at hg1; cases hg1)); have e0 : w9.cell? ⟨w5.heap.size, 0, none⟩ = some (.int .i64 1) := N9.out.cell 0; have e1 : w9.cell? ⟨w5.heap.size, 1, none⟩ = some (.int .i64 p) := N9.out.cell 1; have e2 : w9.cell? ⟨w5.heap.size, 2, none⟩ = some (.slice ad5 n cp5) := N9.out.cell 2; have e3 : w9.cell? ⟨w5.heap.size, 3, none⟩ = some (.int .i64 off) := N9.out.cell 3; have j2 := N9.out.fr 2; have t0 : w9.cell? ⟨w.heap.size, 0, none⟩ = some (.int .i64 1) := U9.out.bx.cell 0; have t1 : w9.cell? ⟨w.heap.size, 1, none⟩ = some (.int .i64 p) := U9.out.bx.cell 1; have t2 : w9.cell? ⟨w.heap.size, 2, none⟩ = some (.slice (some a) n cap) := U9.out.bx.cell 2; have t3 : w9.cell? ⟨w.heap.size, 3, none⟩ = some (.int .i64 off) := U9.out.bx.cell 3; clear hown hown2 hgr ow9)))
  have UA : Hid (VB w 1 p (.slice (some a) n cap) off (w9.setCell ⟨w5.heap.size, 2, none⟩ (.slice ad9 (n + 1) cp9))) := hid (U9.out.set (b := w5.heap.size) (o := 2) (.slice ad9 (n + 1) cp9) hs5)
  have NA : Hid (CB (w9.setCell ⟨w5.heap.size, 2, none⟩ (.slice ad9 (n + 1) cp9)) w5.heap.size #[.int .i64 1, .int .i64 p, .slice ad9 (n + 1) cp9, .int .i64 off] 26) := hid (by simpa using N9.out.set 2 (.slice ad9 (n + 1) cp9))
  have OA : Hid (OwnLA2 (w9.setCell ⟨w5.heap.size, 2, none⟩ (.slice ad9 (n + 1) cp9)) (w.heap.size + 2) ad9 (n + 1) (putL c n ⟨q, k⟩)) := hid (O9.out.keep (fun g hg => hs_set (HNN.out g hg)))
  clear e0 e1 e2 e3 j2 t0 t1 t2 t3
  obtain ⟨nb, hnb⟩ : ∃ nb, w5.heap.size = nb := ⟨_, rfl⟩
  rw [hnb] at UA NA OA hs5 ⊢
  generalize w9.setCell ⟨nb, 2, none⟩ (.slice ad9 (n + 1) cp9) = wA at UA NA OA ⊢
  clear hnb
  cases hw : woB 1 p (n + 1) (putL c n ⟨q, k⟩) (off)
  · obtain rfl : BV = false := by rw [← HTB.out, hw]
    refine (specWorth_eq _ _ _ _ _ _ (putL c n ⟨q, k⟩) false _ (by omega) OA.out.row hw).mono ?_
    rintro e wB ⟨rfl, bB⟩
    have UB9 := hid (UA.out.below bB)
    have NB9 := hid (NA.out.below bB NA.out.lt)
    have OB9 := hid (OA.out.below bB)
    have x0 : wB.cell? ⟨w.heap.size + 1, 0, none⟩ = some (.int .i64 0) := UB9.out.rs.cell 0
    have x1 : wB.cell? ⟨w.heap.size + 1, 1, none⟩ = some (.int .i64 0) := UB9.out.rs.cell 1
    have x2 : wB.cell? ⟨w.heap.size + 1, 2, none⟩ = some (.slice none 0 0) := UB9.out.rs.cell 2
    have x3 : wB.cell? ⟨w.heap.size + 1, 3, none⟩ = some (.int .i64 0) := UB9.out.rs.cell 3
    have f0 := UB9.out.rs.fr 0
    have f1 := UB9.out.rs.fr 1
    have f2 := UB9.out.rs.fr 2
    have f3 := UB9.out.rs.fr 3
    have n0 : wB.cell? ⟨nb, 0, none⟩ = some (.int .i64 1) := NB9.out.cell 0
    have n1 : wB.cell? ⟨nb, 1, none⟩ = some (.int .i64 p) := NB9.out.cell 1
    have n2 : wB.cell? ⟨nb, 2, none⟩ = some (.slice ad9 (n + 1) cp9) := NB9.out.cell 2
    have n3 : wB.cell? ⟨nb, 3, none⟩ = some (.int .i64 off) := NB9.out.cell 3
    clear bB hw
    go_wp2
    have ZC : CB ((((wB.setCell ⟨w.heap.size + 1, 0, none⟩ (.int .i64 0)).setCell ⟨w.heap.size + 1, 1, none⟩ (.int .i64 0)).setCell ⟨w.heap.size + 1, 2, none⟩ (.slice none 0 0)).setCell ⟨w.heap.size + 1, 3, none⟩ (.int .i64 0)) (w.heap.size + 1) #[.int .i64 0, .int .i64 0, .slice none 0 0, .int .i64 0] 26 := set4 UB9.out.rs
    have ZB : Below w.heap.size w ((((wB.setCell ⟨w.heap.size + 1, 0, none⟩ (.int .i64 0)).setCell ⟨w.heap.size + 1, 1, none⟩ (.int .i64 0)).setCell ⟨w.heap.size + 1, 2, none⟩ (.slice none 0 0)).setCell ⟨w.heap.size + 1, 3, none⟩ (.int .i64 0)) := ((((UB9.out.bl.setCell (by simp <;> omega) _).setCell (by simp <;> omega) _).setCell (by simp <;> omega) _).setCell (by simp <;> omega) _)
    have ZO : OwnLA2 ((((wB.setCell ⟨w.heap.size + 1, 0, none⟩ (.int .i64 0)).setCell ⟨w.heap.size + 1, 1, none⟩ (.int .i64 0)).setCell ⟨w.heap.size + 1, 2, none⟩ (.slice none 0 0)).setCell ⟨w.heap.size + 1, 3, none⟩ (.int .i64 0)) w.heap.size none 0 (putL c n ⟨q, k⟩) := .inl rfl
    generalize ((((wB.setCell ⟨w.heap.size + 1, 0, none⟩ (.int .i64 0)).setCell ⟨w.heap.size + 1, 1, none⟩ (.int .i64 0)).setCell ⟨w.heap.size + 1, 2, none⟩ (.slice none 0 0)).setCell ⟨w.heap.size + 1, 3, none⟩ (.int .i64 0)) = Z at ZC ZB ZO ⊢
    have z0 : Z.cell? ⟨w.heap.size + 1, 0, none⟩ = some (.int .i64 0) := ZC.cell 0
    have z1 : Z.cell? ⟨w.heap.size + 1, 1, none⟩ = some (.int .i64 0) := ZC.cell 1
    have z2 : Z.cell? ⟨w.heap.size + 1, 2, none⟩ = some (.slice none 0 0) := ZC.cell 2
    have z3 : Z.cell? ⟨w.heap.size + 1, 3, none⟩ = some (.int .i64 0) := ZC.cell 3
    refine bodyPost_ret (v := .tuple #[.agg #[.int .i64 0, .int .i64 0, .slice none 0 0, .int .i64 0], .bool false]) (by simp [results, Try.results30, go_sem, z0, z1, z2, z3]; try rfl) rfl ?_
    exact ⟨_, _, rfl, ZO, ZB⟩
  · obtain rfl : BV = true := by rw [← HTB.out, hw]
    refine (specWorth_eq _ _ _ _ _ _ (putL c n ⟨q, k⟩) true _ (by omega) OA.out.row hw).mono ?_
    rintro e wB ⟨rfl, bB⟩
    have UB9 := hid (UA.out.below bB)
    have NB9 := hid (NA.out.below bB NA.out.lt)
    have OB9 := hid (OA.out.below bB)
    have x0 : wB.cell? ⟨w.heap.size + 1, 0, none⟩ = some (.int .i64 0) := UB9.out.rs.cell 0
    have x1 : wB.cell? ⟨w.heap.size + 1, 1, none⟩ = some (.int .i64 0) := UB9.out.rs.cell 1
    have x2 : wB.cell? ⟨w.heap.size + 1, 2, none⟩ = some (.slice none 0 0) := UB9.out.rs.cell 2
    have x3 : wB.cell? ⟨w.heap.size + 1, 3, none⟩ = some (.int .i64 0) := UB9.out.rs.cell 3
    have f0 := UB9.out.rs.fr 0
    have f1 := UB9.out.rs.fr 1
    have f2 := UB9.out.rs.fr 2
    have f3 := UB9.out.rs.fr 3
    have n0 : wB.cell? ⟨nb, 0, none⟩ = some (.int .i64 1) := NB9.out.cell 0
    have n1 : wB.cell? ⟨nb, 1, none⟩ = some (.int .i64 p) := NB9.out.cell 1
    have n2 : wB.cell? ⟨nb, 2, none⟩ = some (.slice ad9 (n + 1) cp9) := NB9.out.cell 2
    have n3 : wB.cell? ⟨nb, 3, none⟩ = some (.int .i64 off) := NB9.out.cell 3
    clear bB hw
    go_wp2
    have ZC : CB ((((wB.setCell ⟨w.heap.size + 1, 0, none⟩ (.int .i64 1)).setCell ⟨w.heap.size + 1, 1, none⟩ (.int .i64 p)).setCell ⟨w.heap.size + 1, 2, none⟩ (.slice ad9 (n + 1) cp9)).setCell ⟨w.heap.size + 1, 3, none⟩ (.int .i64 off)) (w.heap.size + 1) #[.int .i64 1, .int .i64 p, .slice ad9 (n + 1) cp9, .int .i64 off] 26 := set4 UB9.out.rs
    have ZB : Below w.heap.size w ((((wB.setCell ⟨w.heap.size + 1, 0, none⟩ (.int .i64 1)).setCell ⟨w.heap.size + 1, 1, none⟩ (.int .i64 p)).setCell ⟨w.heap.size + 1, 2, none⟩ (.slice ad9 (n + 1) cp9)).setCell ⟨w.heap.size + 1, 3, none⟩ (.int .i64 off)) := ((((UB9.out.bl.setCell (by simp <;> omega) _).setCell (by simp <;> omega) _).setCell (by simp <;> omega) _).setCell (by simp <;> omega) _)
    have ZO : OwnLA2 ((((wB.setCell ⟨w.heap.size + 1, 0, none⟩ (.int .i64 1)).setCell ⟨w.heap.size + 1, 1, none⟩ (.int .i64 p)).setCell ⟨w.heap.size + 1, 2, none⟩ (.slice ad9 (n + 1) cp9)).setCell ⟨w.heap.size + 1, 3, none⟩ (.int .i64 off)) w.heap.size ad9 (n + 1) (putL c n ⟨q, k⟩) := (OB9.out.keep (fun g hg => keep4 (by have := HNG.out g hg; omega))).mono (by omega)
    generalize ((((wB.setCell ⟨w.heap.size + 1, 0, none⟩ (.int .i64 1)).setCell ⟨w.heap.size + 1, 1, none⟩ (.int .i64 p)).setCell ⟨w.heap.size + 1, 2, none⟩ (.slice ad9 (n + 1) cp9)).setCell ⟨w.heap.size + 1, 3, none⟩ (.int .i64 off)) = Z at ZC ZB ZO ⊢
    have z0 : Z.cell? ⟨w.heap.size + 1, 0, none⟩ = some (.int .i64 1) := ZC.cell 0
    have z1 : Z.cell? ⟨w.heap.size + 1, 1, none⟩ = some (.int .i64 p) := ZC.cell 1
    have z2 : Z.cell? ⟨w.heap.size + 1, 2, none⟩ = some (.slice ad9 (n + 1) cp9) := ZC.cell 2
    have z3 : Z.cell? ⟨w.heap.size + 1, 3, none⟩ = some (.int .i64 off) := ZC.cell 3
    refine bodyPost_ret (v := .tuple #[.agg #[.int .i64 1, .int .i64 p, .slice ad9 (n + 1) cp9, .int .i64 off], .bool true]) (by simp [results, Try.results30, go_sem, z0, z1, z2, z3]; try rfl) rfl ?_
    exact ⟨_, _, rfl, ZO, ZB⟩

set_option maxRecDepth 20000 in
set_option maxHeartbeats 16000000 in
theorem specTakeIn_2 (p : Int) (a : Addr) (n cap : Nat) (off q k Q KK R : Int) (BV : Bool) (c : Nat → LA2) (w : World) (hn : n ≤ 300) (hw0 : woB 2 p n c off = true) (hla : laB ⟨q, k⟩ = true) (hr : LAr w (some a) n c) (hQ : qS c n = Q) (hK : kS c n = KK) (hRR : q * p = R) (hBV : woB 2 p (n + 1) (putL c n ⟨q, k⟩) (off) = BV) :
    Calls Try.prog 30 #[.agg #[.int .i64 2, .int .i64 p, .slice (some a) n cap, .int .i64 off], .int .i64 q, .int .i64 k] w fun e w' => ∃ ad cap, e = .returned (.tuple #[.agg #[.int .i64 (zI BV 2), .int .i64 (zI BV p), .slice ad (zN BV (n + 1)) cap, .int .i64 (zI BV (off))], .bool BV]) ∧ OwnLA2 w' w.heap.size ad (zN BV (n + 1)) (putL c n ⟨q, k⟩) ∧ Below w.heap.size w w' := by
  have HR : Hid (LAr w (some a) n c) := hr
  obtain ⟨i4, hi4, hz40, hz41, hz42⟩ := infoLA2
  have hnI : (n : Int) ≤ 1048576 := by omega
  have tkW : True := trivial
  have tkA : True := trivial
  have tkB : True := trivial
  have hwp := woB_p hw0
  have hbd := hwp.bd
  rw [hQ, hK] at hbd
  obtain ⟨_, d1, d2, d3⟩ := hbd
  have d0 : 0 ≤ Q := by rw [← hQ]; have := (sums_bd n hwp.lay).1; omega
  obtain ⟨⟨q1, q2⟩, k1, k2⟩ := laB_p hla
  simp only at q1 q2 k1 k2
  have HPL : Hid (∀ j, j < n + 1 → laB (putL c n ⟨q, k⟩ j) = true) := hid (putL_la hwp.lay hla)
  have HSQ : Hid (qS (putL c n ⟨q, k⟩) (n + 1) = Q + q) := hid (by rw [putL_q, hQ])
  have HSK : Hid (kS (putL c n ⟨q, k⟩) (n + 1) = KK + k) := hid (by rw [putL_k, hK])
  have HW0 : Hid (woB 2 p n c off = true) := hw0
  have HQ0 : Hid (inB q 1 1000000 = true) := hid (inB_y q1 q2)
  have HK0 : Hid (inB k 0 100000000000 = true) := hid (inB_y k1 k2)
  have HTB : Hid (woB 2 p (n + 1) (putL c n ⟨q, k⟩) (off) = BV) := hBV
  clear hr hw0 hla hwp hQ hK hRR hBV
  go_enter Try.func30, Try.ntmps30
  go_wp2_with (first
    | (go_at_call 20; clear tkW; refine (specWorth_eq _ _ _ _ _ _ c _ _ hnI ((HR.out.alloc _).alloc _) HW0.out).mono ?_; rintro e w3 ⟨rfl, b3⟩; have U3 : Hid (VB w 2 p (.slice (some a) n cap) off w3) := hid ((VB.start w 2 p (.slice (some a) n cap) off).below b3); have R3 : Hid (LAr w3 (some a) n c) := hid (((HR.out.alloc _).alloc _).below b3); have x0 : w3.cell? ⟨w.heap.size + 1, 0, none⟩ = some (.int .i64 0) := U3.out.rs.cell 0; have x1 : w3.cell? ⟨w.heap.size + 1, 1, none⟩ = some (.int .i64 0) := U3.out.rs.cell 1; have x2 : w3.cell? ⟨w.heap.size + 1, 2, none⟩ = some (.slice none 0 0) := U3.out.rs.cell 2; have x3 : w3.cell? ⟨w.heap.size + 1, 3, none⟩ = some (.int .i64 0) := U3.out.rs.cell 3; have f0 := U3.out.rs.fr 0; have f1 := U3.out.rs.fr 1; have f2 := U3.out.rs.fr 2; have f3 := U3.out.rs.fr 3; have t0 : w3.cell? ⟨w.heap.size, 0, none⟩ = some (.int .i64 2) := U3.out.bx.cell 0; have t1 : w3.cell? ⟨w.heap.size, 1, none⟩ = some (.int .i64 p) := U3.out.bx.cell 1; have t2 : w3.cell? ⟨w.heap.size, 2, none⟩ = some (.slice (some a) n cap) := U3.out.bx.cell 2; have t3 : w3.cell? ⟨w.heap.size, 3, none⟩ = some (.int .i64 off) := U3.out.bx.cell 3; have hs3 := U3.out.size; clear b3)
    | (go_at_call 60; clear tkA; refine (l1In_eq _ _ _ _ _ HQ0.out).mono ?_; rintro e w1 ⟨rfl, ew⟩; replace ew := ew.symm; subst ew)
    | (go_at_call 60; clear tkB; refine (l1In_eq _ _ _ _ _ HK0.out).mono ?_; rintro e w1 ⟨rfl, ew⟩; replace ew := ew.symm; subst ew)
    | (go_at_call 59; clear x0 x1 x2 x3 f0 f1 f2 f3; refine (l16Copy_any _ _ a n _ _ c _ hnI R3.out).mono ?_; rintro e w5 ⟨ad5, cp5, rfl, o5, b5⟩; have U5 := hid (U3.out.below b5); have O5 := hid (own_lower o5 U3.out.size); clear t0 t1 t2 t3 o5 b5)
    | (at_builtin; go_loud (refine wpList_append_own_at _ rfl _ _ 24 rfl (w.heap.size + 2) 40 i4 (.agg #[.int .i64 0, .int .i64 0]) 2 16 Try.underlying24 hi4 hz40 hz41 hz42 rfl (by decide) (.slice ad5 n cp5) n (rowLA2 c n) rfl (row_bel O5.out (((Below.refl _ _).alloc (Nat.le_refl _) _).alloc (by simp) _)) ⟨_, 0, none⟩ 1 1 [.int .i64 q, .int .i64 k] rfl rfl (ecells (by first | rfl | simp)) (fun u hu => by simp at hu; rcases hu with rfl | rfl <;> rfl) (by unfold maxLen; omega) (by omega) (by have := U5.out.size; simp; omega) ?_; intro v9 w9 hown hgr _ _; have hown2 := hown; rw [← row_put c n ⟨q, k⟩] at hown2; obtain ⟨ad9, cp9, rfl, _, ow9⟩ := ownLA2_of hown2; have U9 := hid (((U5.out.alloc _).alloc _).grown hgr (fun x hx => (O5.out.lt x hx).1)); have N9 : Hid (CB w9 w5.heap.size #[.int .i64 2, .int .i64 p, .slice ad5 n cp5, .int .i64 off] 26) := hid (((CB.new _ _).alloc _).keep (hgr.block _ (by simp; omega) (fun e => by have := (O5.out.lt _ e.symm).2; omega))); have O9 := hid ow9; have HNG : Hid (∀ g, ad9 = some ⟨g, 0, none⟩ → w.heap.size + 2 ≤ g) := hid (fun g hg => (hown.lt g (by rw [hg]; rfl)).1); have hs5 := U5.out.size; have HNN : Hid (∀ g, ad9 = some ⟨g, 0, none⟩ → g ≠ w5.heap.size) := hid (fun g hg e => by have h1 := hown.2; rcases h1 with ⟨h1, _⟩ | ⟨g0, cap0, cur0, e1, hb1, hg1, _⟩; (rw [hg] at h1; cases h1); (rw [hg] at e1; cases e1; have hX := N9.out; unfold CB at hX; rw [← e] at hX; rw [hX] at hg1; cases hg1)); have e0 : w9.cell? ⟨w5.heap.size, 0, none⟩ = some (.int .i64 2) := N9.out.cell 0; have e1 : w9.cell? ⟨w5.heap.size, 1, none⟩ = some (.int .i64 p) := N9.out.cell 1; have e2 : w9.cell? ⟨w5.heap.size, 2, none⟩ = some (.slice ad5 n cp5) := N9.out.cell 2; have e3 : w9.cell? ⟨w5.heap.size, 3, none⟩ = some (.int .i64 off) := N9.out.cell 3; have j2 := N9.out.fr 2; have t0 : w9.cell? ⟨w.heap.size, 0, none⟩ = some (.int .i64 2) := U9.out.bx.cell 0; have t1 : w9.cell? ⟨w.heap.size, 1, none⟩ = some (.int .i64 p) := U9.out.bx.cell 1; have t2 : w9.cell? ⟨w.heap.size, 2, none⟩ = some (.slice (some a) n cap) := U9.out.bx.cell 2; have t3 : w9.cell? ⟨w.heap.size, 3, none⟩ = some (.int .i64 off) := U9.out.bx.cell 3; clear hown hown2 hgr ow9)))
  have UA : Hid (VB w 2 p (.slice (some a) n cap) off (w9.setCell ⟨w5.heap.size, 2, none⟩ (.slice ad9 (n + 1) cp9))) := hid (U9.out.set (b := w5.heap.size) (o := 2) (.slice ad9 (n + 1) cp9) hs5)
  have NA : Hid (CB (w9.setCell ⟨w5.heap.size, 2, none⟩ (.slice ad9 (n + 1) cp9)) w5.heap.size #[.int .i64 2, .int .i64 p, .slice ad9 (n + 1) cp9, .int .i64 off] 26) := hid (by simpa using N9.out.set 2 (.slice ad9 (n + 1) cp9))
  have OA : Hid (OwnLA2 (w9.setCell ⟨w5.heap.size, 2, none⟩ (.slice ad9 (n + 1) cp9)) (w.heap.size + 2) ad9 (n + 1) (putL c n ⟨q, k⟩)) := hid (O9.out.keep (fun g hg => hs_set (HNN.out g hg)))
  clear e0 e1 e2 e3 j2 t0 t1 t2 t3
  obtain ⟨nb, hnb⟩ : ∃ nb, w5.heap.size = nb := ⟨_, rfl⟩
  rw [hnb] at UA NA OA hs5 ⊢
  generalize w9.setCell ⟨nb, 2, none⟩ (.slice ad9 (n + 1) cp9) = wA at UA NA OA ⊢
  clear hnb
  cases hw : woB 2 p (n + 1) (putL c n ⟨q, k⟩) (off)
  · obtain rfl : BV = false := by rw [← HTB.out, hw]
    refine (specWorth_eq _ _ _ _ _ _ (putL c n ⟨q, k⟩) false _ (by omega) OA.out.row hw).mono ?_
    rintro e wB ⟨rfl, bB⟩
    have UB9 := hid (UA.out.below bB)
    have NB9 := hid (NA.out.below bB NA.out.lt)
    have OB9 := hid (OA.out.below bB)
    have x0 : wB.cell? ⟨w.heap.size + 1, 0, none⟩ = some (.int .i64 0) := UB9.out.rs.cell 0
    have x1 : wB.cell? ⟨w.heap.size + 1, 1, none⟩ = some (.int .i64 0) := UB9.out.rs.cell 1
    have x2 : wB.cell? ⟨w.heap.size + 1, 2, none⟩ = some (.slice none 0 0) := UB9.out.rs.cell 2
    have x3 : wB.cell? ⟨w.heap.size + 1, 3, none⟩ = some (.int .i64 0) := UB9.out.rs.cell 3
    have f0 := UB9.out.rs.fr 0
    have f1 := UB9.out.rs.fr 1
    have f2 := UB9.out.rs.fr 2
    have f3 := UB9.out.rs.fr 3
    have n0 : wB.cell? ⟨nb, 0, none⟩ = some (.int .i64 2) := NB9.out.cell 0
    have n1 : wB.cell? ⟨nb, 1, none⟩ = some (.int .i64 p) := NB9.out.cell 1
    have n2 : wB.cell? ⟨nb, 2, none⟩ = some (.slice ad9 (n + 1) cp9) := NB9.out.cell 2
    have n3 : wB.cell? ⟨nb, 3, none⟩ = some (.int .i64 off) := NB9.out.cell 3
    clear bB hw
    go_wp2
    have ZC : CB ((((wB.setCell ⟨w.heap.size + 1, 0, none⟩ (.int .i64 0)).setCell ⟨w.heap.size + 1, 1, none⟩ (.int .i64 0)).setCell ⟨w.heap.size + 1, 2, none⟩ (.slice none 0 0)).setCell ⟨w.heap.size + 1, 3, none⟩ (.int .i64 0)) (w.heap.size + 1) #[.int .i64 0, .int .i64 0, .slice none 0 0, .int .i64 0] 26 := set4 UB9.out.rs
    have ZB : Below w.heap.size w ((((wB.setCell ⟨w.heap.size + 1, 0, none⟩ (.int .i64 0)).setCell ⟨w.heap.size + 1, 1, none⟩ (.int .i64 0)).setCell ⟨w.heap.size + 1, 2, none⟩ (.slice none 0 0)).setCell ⟨w.heap.size + 1, 3, none⟩ (.int .i64 0)) := ((((UB9.out.bl.setCell (by simp <;> omega) _).setCell (by simp <;> omega) _).setCell (by simp <;> omega) _).setCell (by simp <;> omega) _)
    have ZO : OwnLA2 ((((wB.setCell ⟨w.heap.size + 1, 0, none⟩ (.int .i64 0)).setCell ⟨w.heap.size + 1, 1, none⟩ (.int .i64 0)).setCell ⟨w.heap.size + 1, 2, none⟩ (.slice none 0 0)).setCell ⟨w.heap.size + 1, 3, none⟩ (.int .i64 0)) w.heap.size none 0 (putL c n ⟨q, k⟩) := .inl rfl
    generalize ((((wB.setCell ⟨w.heap.size + 1, 0, none⟩ (.int .i64 0)).setCell ⟨w.heap.size + 1, 1, none⟩ (.int .i64 0)).setCell ⟨w.heap.size + 1, 2, none⟩ (.slice none 0 0)).setCell ⟨w.heap.size + 1, 3, none⟩ (.int .i64 0)) = Z at ZC ZB ZO ⊢
    have z0 : Z.cell? ⟨w.heap.size + 1, 0, none⟩ = some (.int .i64 0) := ZC.cell 0
    have z1 : Z.cell? ⟨w.heap.size + 1, 1, none⟩ = some (.int .i64 0) := ZC.cell 1
    have z2 : Z.cell? ⟨w.heap.size + 1, 2, none⟩ = some (.slice none 0 0) := ZC.cell 2
    have z3 : Z.cell? ⟨w.heap.size + 1, 3, none⟩ = some (.int .i64 0) := ZC.cell 3
    refine bodyPost_ret (v := .tuple #[.agg #[.int .i64 0, .int .i64 0, .slice none 0 0, .int .i64 0], .bool false]) (by simp [results, Try.results30, go_sem, z0, z1, z2, z3]; try rfl) rfl ?_
    exact ⟨_, _, rfl, ZO, ZB⟩
  · obtain rfl : BV = true := by rw [← HTB.out, hw]
    refine (specWorth_eq _ _ _ _ _ _ (putL c n ⟨q, k⟩) true _ (by omega) OA.out.row hw).mono ?_
    rintro e wB ⟨rfl, bB⟩
    have UB9 := hid (UA.out.below bB)
    have NB9 := hid (NA.out.below bB NA.out.lt)
    have OB9 := hid (OA.out.below bB)
    have x0 : wB.cell? ⟨w.heap.size + 1, 0, none⟩ = some (.int .i64 0) := UB9.out.rs.cell 0
    have x1 : wB.cell? ⟨w.heap.size + 1, 1, none⟩ = some (.int .i64 0) := UB9.out.rs.cell 1
    have x2 : wB.cell? ⟨w.heap.size + 1, 2, none⟩ = some (.slice none 0 0) := UB9.out.rs.cell 2
    have x3 : wB.cell? ⟨w.heap.size + 1, 3, none⟩ = some (.int .i64 0) := UB9.out.rs.cell 3
    have f0 := UB9.out.rs.fr 0
    have f1 := UB9.out.rs.fr 1
    have f2 := UB9.out.rs.fr 2
    have f3 := UB9.out.rs.fr 3
    have n0 : wB.cell? ⟨nb, 0, none⟩ = some (.int .i64 2) := NB9.out.cell 0
    have n1 : wB.cell? ⟨nb, 1, none⟩ = some (.int .i64 p) := NB9.out.cell 1
    have n2 : wB.cell? ⟨nb, 2, none⟩ = some (.slice ad9 (n + 1) cp9) := NB9.out.cell 2
    have n3 : wB.cell? ⟨nb, 3, none⟩ = some (.int .i64 off) := NB9.out.cell 3
    clear bB hw
    go_wp2
    have ZC : CB ((((wB.setCell ⟨w.heap.size + 1, 0, none⟩ (.int .i64 2)).setCell ⟨w.heap.size + 1, 1, none⟩ (.int .i64 p)).setCell ⟨w.heap.size + 1, 2, none⟩ (.slice ad9 (n + 1) cp9)).setCell ⟨w.heap.size + 1, 3, none⟩ (.int .i64 off)) (w.heap.size + 1) #[.int .i64 2, .int .i64 p, .slice ad9 (n + 1) cp9, .int .i64 off] 26 := set4 UB9.out.rs
    have ZB : Below w.heap.size w ((((wB.setCell ⟨w.heap.size + 1, 0, none⟩ (.int .i64 2)).setCell ⟨w.heap.size + 1, 1, none⟩ (.int .i64 p)).setCell ⟨w.heap.size + 1, 2, none⟩ (.slice ad9 (n + 1) cp9)).setCell ⟨w.heap.size + 1, 3, none⟩ (.int .i64 off)) := ((((UB9.out.bl.setCell (by simp <;> omega) _).setCell (by simp <;> omega) _).setCell (by simp <;> omega) _).setCell (by simp <;> omega) _)
    have ZO : OwnLA2 ((((wB.setCell ⟨w.heap.size + 1, 0, none⟩ (.int .i64 2)).setCell ⟨w.heap.size + 1, 1, none⟩ (.int .i64 p)).setCell ⟨w.heap.size + 1, 2, none⟩ (.slice ad9 (n + 1) cp9)).setCell ⟨w.heap.size + 1, 3, none⟩ (.int .i64 off)) w.heap.size ad9 (n + 1) (putL c n ⟨q, k⟩) := (OB9.out.keep (fun g hg => keep4 (by have := HNG.out g hg; omega))).mono (by omega)
    generalize ((((wB.setCell ⟨w.heap.size + 1, 0, none⟩ (.int .i64 2)).setCell ⟨w.heap.size + 1, 1, none⟩ (.int .i64 p)).setCell ⟨w.heap.size + 1, 2, none⟩ (.slice ad9 (n + 1) cp9)).setCell ⟨w.heap.size + 1, 3, none⟩ (.int .i64 off)) = Z at ZC ZB ZO ⊢
    have z0 : Z.cell? ⟨w.heap.size + 1, 0, none⟩ = some (.int .i64 2) := ZC.cell 0
    have z1 : Z.cell? ⟨w.heap.size + 1, 1, none⟩ = some (.int .i64 p) := ZC.cell 1
    have z2 : Z.cell? ⟨w.heap.size + 1, 2, none⟩ = some (.slice ad9 (n + 1) cp9) := ZC.cell 2
    have z3 : Z.cell? ⟨w.heap.size + 1, 3, none⟩ = some (.int .i64 off) := ZC.cell 3
    refine bodyPost_ret (v := .tuple #[.agg #[.int .i64 2, .int .i64 p, .slice ad9 (n + 1) cp9, .int .i64 off], .bool true]) (by simp [results, Try.results30, go_sem, z0, z1, z2, z3]; try rfl) rfl ?_
    exact ⟨_, _, rfl, ZO, ZB⟩

set_option maxRecDepth 20000 in
set_option maxHeartbeats 16000000 in
theorem specTakeIn_3 (p : Int) (a : Addr) (n cap : Nat) (off q k Q KK R : Int) (BV : Bool) (c : Nat → LA2) (w : World) (hn : n ≤ 300) (hw0 : woB 3 p n c off = true) (hla : laB ⟨q, k⟩ = true) (hr : LAr w (some a) n c) (hQ : qS c n = Q) (hK : kS c n = KK) (hRR : q * p = R) (hBV : woB 3 p 1 (fun _ => ⟨Q + q, KK + k⟩) (off) = BV) :
    Calls Try.prog 30 #[.agg #[.int .i64 3, .int .i64 p, .slice (some a) n cap, .int .i64 off], .int .i64 q, .int .i64 k] w fun e w' => ∃ ad cap, e = .returned (.tuple #[.agg #[.int .i64 (zI BV 3), .int .i64 (zI BV p), .slice ad (zN BV 1) cap, .int .i64 (zI BV (off))], .bool BV]) ∧ OwnLA2 w' w.heap.size ad (zN BV 1) (fun _ => ⟨Q + q, KK + k⟩) ∧ Below w.heap.size w w' := by
  have HR : Hid (LAr w (some a) n c) := hr
  obtain ⟨i4, hi4, hz40, hz41, hz42⟩ := infoLA2
  have hnI : (n : Int) ≤ 1048576 := by omega
  have tkW : True := trivial
  have tkA : True := trivial
  have tkB : True := trivial
  have hwp := woB_p hw0
  have hbd := hwp.bd
  rw [hQ, hK] at hbd
  obtain ⟨_, d1, d2, d3⟩ := hbd
  have d0 : 0 ≤ Q := by rw [← hQ]; have := (sums_bd n hwp.lay).1; omega
  obtain ⟨⟨q1, q2⟩, k1, k2⟩ := laB_p hla
  simp only at q1 q2 k1 k2
  have HPL : Hid (∀ j, j < n + 1 → laB (putL c n ⟨q, k⟩ j) = true) := hid (putL_la hwp.lay hla)
  have HSQ : Hid (qS (putL c n ⟨q, k⟩) (n + 1) = Q + q) := hid (by rw [putL_q, hQ])
  have HSK : Hid (kS (putL c n ⟨q, k⟩) (n + 1) = KK + k) := hid (by rw [putL_k, hK])
  have HW0 : Hid (woB 3 p n c off = true) := hw0
  have HQ0 : Hid (inB q 1 1000000 = true) := hid (inB_y q1 q2)
  have HK0 : Hid (inB k 0 100000000000 = true) := hid (inB_y k1 k2)
  have HTB : Hid (woB 3 p 1 (fun _ => ⟨Q + q, KK + k⟩) (off) = BV) := hBV
  clear hr hw0 hla hwp hQ hK hRR hBV
  go_enter Try.func30, Try.ntmps30
  go_wp2_with (first
    | (go_at_call 20; clear tkW; refine (specWorth_eq _ _ _ _ _ _ c _ _ hnI ((HR.out.alloc _).alloc _) HW0.out).mono ?_; rintro e w3 ⟨rfl, b3⟩; have U3 : Hid (VB w 3 p (.slice (some a) n cap) off w3) := hid ((VB.start w 3 p (.slice (some a) n cap) off).below b3); have R3 : Hid (LAr w3 (some a) n c) := hid (((HR.out.alloc _).alloc _).below b3); have x0 : w3.cell? ⟨w.heap.size + 1, 0, none⟩ = some (.int .i64 0) := U3.out.rs.cell 0; have x1 : w3.cell? ⟨w.heap.size + 1, 1, none⟩ = some (.int .i64 0) := U3.out.rs.cell 1; have x2 : w3.cell? ⟨w.heap.size + 1, 2, none⟩ = some (.slice none 0 0) := U3.out.rs.cell 2; have x3 : w3.cell? ⟨w.heap.size + 1, 3, none⟩ = some (.int .i64 0) := U3.out.rs.cell 3; have f0 := U3.out.rs.fr 0; have f1 := U3.out.rs.fr 1; have f2 := U3.out.rs.fr 2; have f3 := U3.out.rs.fr 3; have t0 : w3.cell? ⟨w.heap.size, 0, none⟩ = some (.int .i64 3) := U3.out.bx.cell 0; have t1 : w3.cell? ⟨w.heap.size, 1, none⟩ = some (.int .i64 p) := U3.out.bx.cell 1; have t2 : w3.cell? ⟨w.heap.size, 2, none⟩ = some (.slice (some a) n cap) := U3.out.bx.cell 2; have t3 : w3.cell? ⟨w.heap.size, 3, none⟩ = some (.int .i64 off) := U3.out.bx.cell 3; have hs3 := U3.out.size; clear b3)
    | (go_at_call 60; clear tkA; refine (l1In_eq _ _ _ _ _ HQ0.out).mono ?_; rintro e w1 ⟨rfl, ew⟩; replace ew := ew.symm; subst ew)
    | (go_at_call 60; clear tkB; refine (l1In_eq _ _ _ _ _ HK0.out).mono ?_; rintro e w1 ⟨rfl, ew⟩; replace ew := ew.symm; subst ew)
    | (go_at_call 59; clear x0 x1 x2 x3 f0 f1 f2 f3; refine (l16Copy_any _ _ a n _ _ c _ hnI R3.out).mono ?_; rintro e w5 ⟨ad5, cp5, rfl, o5, b5⟩; have U5 := hid (U3.out.below b5); have O5 := hid (own_lower o5 U3.out.size); clear t0 t1 t2 t3 o5 b5)
    | (at_builtin; go_loud (refine wpList_append_own_at _ rfl _ _ 24 rfl (w.heap.size + 2) 40 i4 (.agg #[.int .i64 0, .int .i64 0]) 2 16 Try.underlying24 hi4 hz40 hz41 hz42 rfl (by decide) (.slice ad5 n cp5) n (rowLA2 c n) rfl (row_bel O5.out (((Below.refl _ _).alloc (Nat.le_refl _) _).alloc (by simp) _)) ⟨_, 0, none⟩ 1 1 [.int .i64 q, .int .i64 k] rfl rfl (ecells (by first | rfl | simp)) (fun u hu => by simp at hu; rcases hu with rfl | rfl <;> rfl) (by unfold maxLen; omega) (by omega) (by have := U5.out.size; simp; omega) ?_; intro v9 w9 hown hgr _ _; have hown2 := hown; rw [← row_put c n ⟨q, k⟩] at hown2; obtain ⟨ad9, cp9, rfl, _, ow9⟩ := ownLA2_of hown2; have U9 := hid (((U5.out.alloc _).alloc _).grown hgr (fun x hx => (O5.out.lt x hx).1)); have N9 : Hid (CB w9 w5.heap.size #[.int .i64 3, .int .i64 p, .slice ad5 n cp5, .int .i64 off] 26) := hid (((CB.new _ _).alloc _).keep (hgr.block _ (by simp; omega) (fun e => by have := (O5.out.lt _ e.symm).2; omega))); have O9 := hid ow9; have HNG : Hid (∀ g, ad9 = some ⟨g, 0, none⟩ → w.heap.size + 2 ≤ g) := hid (fun g hg => (hown.lt g (by rw [hg]; rfl)).1); have hs5 := U5.out.size; have HNN : Hid (∀ g, ad9 = some ⟨g, 0, none⟩ → g ≠ w5.heap.size) := hid (fun g hg e => by have h1 := hown.2; rcases h1 with ⟨h1, _⟩ | ⟨g0, cap0, cur0, e1, hb1, hg1, _⟩; (rw [hg] at h1; cases h1); (rw [hg] at e1; cases e1; have hX := N9.out; unfold CB at hX; rw [← e] at hX; rw [hX] at hg1; cases hg1)); have e0 : w9.cell? ⟨w5.heap.size, 0, none⟩ = some (.int .i64 3) := N9.out.cell 0; have e1 : w9.cell? ⟨w5.heap.size, 1, none⟩ = some (.int .i64 p) := N9.out.cell 1; have e2 : w9.cell? ⟨w5.heap.size, 2, none⟩ = some (.slice ad5 n cp5) := N9.out.cell 2; have e3 : w9.cell? ⟨w5.heap.size, 3, none⟩ = some (.int .i64 off) := N9.out.cell 3; have j2 := N9.out.fr 2; have t0 : w9.cell? ⟨w.heap.size, 0, none⟩ = some (.int .i64 3) := U9.out.bx.cell 0; have t1 : w9.cell? ⟨w.heap.size, 1, none⟩ = some (.int .i64 p) := U9.out.bx.cell 1; have t2 : w9.cell? ⟨w.heap.size, 2, none⟩ = some (.slice (some a) n cap) := U9.out.bx.cell 2; have t3 : w9.cell? ⟨w.heap.size, 3, none⟩ = some (.int .i64 off) := U9.out.bx.cell 3; clear hown hown2 hgr ow9)))
  have UA : Hid (VB w 3 p (.slice (some a) n cap) off (w9.setCell ⟨w5.heap.size, 2, none⟩ (.slice ad9 (n + 1) cp9))) := hid (U9.out.set (b := w5.heap.size) (o := 2) (.slice ad9 (n + 1) cp9) hs5)
  have NA : Hid (CB (w9.setCell ⟨w5.heap.size, 2, none⟩ (.slice ad9 (n + 1) cp9)) w5.heap.size #[.int .i64 3, .int .i64 p, .slice ad9 (n + 1) cp9, .int .i64 off] 26) := hid (by simpa using N9.out.set 2 (.slice ad9 (n + 1) cp9))
  have OA : Hid (OwnLA2 (w9.setCell ⟨w5.heap.size, 2, none⟩ (.slice ad9 (n + 1) cp9)) (w.heap.size + 2) ad9 (n + 1) (putL c n ⟨q, k⟩)) := hid (O9.out.keep (fun g hg => hs_set (HNN.out g hg)))
  clear e0 e1 e2 e3 j2 t0 t1 t2 t3
  obtain ⟨nb, hnb⟩ : ∃ nb, w5.heap.size = nb := ⟨_, rfl⟩
  rw [hnb] at UA NA OA hs5 ⊢
  generalize w9.setCell ⟨nb, 2, none⟩ (.slice ad9 (n + 1) cp9) = wA at UA NA OA ⊢
  clear hnb
  have t0 : wA.cell? ⟨w.heap.size, 0, none⟩ = some (.int .i64 3) := UA.out.bx.cell 0
  have t1 : wA.cell? ⟨w.heap.size, 1, none⟩ = some (.int .i64 p) := UA.out.bx.cell 1
  have t2 : wA.cell? ⟨w.heap.size, 2, none⟩ = some (.slice (some a) n cap) := UA.out.bx.cell 2
  have t3 : wA.cell? ⟨w.heap.size, 3, none⟩ = some (.int .i64 off) := UA.out.bx.cell 3
  have n0 : wA.cell? ⟨nb, 0, none⟩ = some (.int .i64 3) := NA.out.cell 0
  have n1 : wA.cell? ⟨nb, 1, none⟩ = some (.int .i64 p) := NA.out.cell 1
  have n2 : wA.cell? ⟨nb, 2, none⟩ = some (.slice ad9 (n + 1) cp9) := NA.out.cell 2
  have n3 : wA.cell? ⟨nb, 3, none⟩ = some (.int .i64 off) := NA.out.cell 3
  have f2 := NA.out.fr 2
  have f3 := NA.out.fr 3
  have hnlt := NA.out.lt
  refine (specSums_eq ad9 (n + 1) cp9 (putL c n ⟨q, k⟩) (Q + q) (KK + k) _ (by omega) HPL.out OA.out.row HSQ.out HSK.out).mono ?_
  rintro e wC ⟨rfl, ew⟩
  replace ew := ew.symm
  subst ew
  go_wp2_with (go_at_call 20; exact absurd rfl tkNone)
  have UD : Hid (VB w 3 p (.slice (some a) n cap) off ((wA.setCell ⟨nb, 2, none⟩ (.slice (some ⟨wA.heap.size, 0, none⟩) 1 1)).alloc (.cells #[.int .i64 (Q + q), .int .i64 (KK + k)] 40 (0, 0)))) := hid ((UA.out.set (b := nb) (o := 2) (.slice (some ⟨wA.heap.size, 0, none⟩) 1 1) hs5).alloc (.cells #[.int .i64 (Q + q), .int .i64 (KK + k)] 40 (0, 0)))
  have ND : Hid (CB ((wA.setCell ⟨nb, 2, none⟩ (.slice (some ⟨wA.heap.size, 0, none⟩) 1 1)).alloc (.cells #[.int .i64 (Q + q), .int .i64 (KK + k)] 40 (0, 0))) nb #[.int .i64 3, .int .i64 p, .slice (some ⟨wA.heap.size, 0, none⟩) 1 1, .int .i64 (off)] 26) := hid (by simpa using (NA.out.set 2 (.slice (some ⟨wA.heap.size, 0, none⟩) 1 1)).alloc (.cells #[.int .i64 (Q + q), .int .i64 (KK + k)] 40 (0, 0)))
  have OD : Hid (OwnLA2 ((wA.setCell ⟨nb, 2, none⟩ (.slice (some ⟨wA.heap.size, 0, none⟩) 1 1)).alloc (.cells #[.int .i64 (Q + q), .int .i64 (KK + k)] 40 (0, 0))) (w.heap.size + 2) (some ⟨wA.heap.size, 0, none⟩) 1 (fun _ => ⟨Q + q, KK + k⟩)) := hid (ownOne (CB.newAt (by simp) _ _) UA.out.size)
  have hsA := UA.out.size
  clear t0 t1 t2 t3 n0 n1 n2 n3 f2 f3
  obtain ⟨gl, hgl⟩ : ∃ gl, wA.heap.size = gl := ⟨_, rfl⟩
  rw [hgl] at UD ND OD hsA ⊢
  generalize (wA.setCell ⟨nb, 2, none⟩ (.slice (some ⟨gl, 0, none⟩) 1 1)).alloc (.cells #[.int .i64 (Q + q), .int .i64 (KK + k)] 40 (0, 0)) = wD at UD ND OD ⊢
  clear hgl
  cases hw : woB 3 p 1 (fun _ => ⟨Q + q, KK + k⟩) (off)
  · obtain rfl : BV = false := by rw [← HTB.out, hw]
    refine (specWorth_eq _ _ _ _ _ _ (fun _ => ⟨Q + q, KK + k⟩) false _ (by omega) OD.out.row hw).mono ?_
    rintro e wB ⟨rfl, bB⟩
    have UB9 := hid (UD.out.below bB)
    have NB9 := hid (ND.out.below bB ND.out.lt)
    have OB9 := hid (OD.out.below bB)
    have x0 : wB.cell? ⟨w.heap.size + 1, 0, none⟩ = some (.int .i64 0) := UB9.out.rs.cell 0
    have x1 : wB.cell? ⟨w.heap.size + 1, 1, none⟩ = some (.int .i64 0) := UB9.out.rs.cell 1
    have x2 : wB.cell? ⟨w.heap.size + 1, 2, none⟩ = some (.slice none 0 0) := UB9.out.rs.cell 2
    have x3 : wB.cell? ⟨w.heap.size + 1, 3, none⟩ = some (.int .i64 0) := UB9.out.rs.cell 3
    have f0 := UB9.out.rs.fr 0
    have f1 := UB9.out.rs.fr 1
    have f2 := UB9.out.rs.fr 2
    have f3 := UB9.out.rs.fr 3
    have n0 : wB.cell? ⟨nb, 0, none⟩ = some (.int .i64 3) := NB9.out.cell 0
    have n1 : wB.cell? ⟨nb, 1, none⟩ = some (.int .i64 p) := NB9.out.cell 1
    have n2 : wB.cell? ⟨nb, 2, none⟩ = some (.slice (some ⟨gl, 0, none⟩) 1 1) := NB9.out.cell 2
    have n3 : wB.cell? ⟨nb, 3, none⟩ = some (.int .i64 off) := NB9.out.cell 3
    clear bB hw
    go_wp2
    have ZC : CB ((((wB.setCell ⟨w.heap.size + 1, 0, none⟩ (.int .i64 0)).setCell ⟨w.heap.size + 1, 1, none⟩ (.int .i64 0)).setCell ⟨w.heap.size + 1, 2, none⟩ (.slice none 0 0)).setCell ⟨w.heap.size + 1, 3, none⟩ (.int .i64 0)) (w.heap.size + 1) #[.int .i64 0, .int .i64 0, .slice none 0 0, .int .i64 0] 26 := set4 UB9.out.rs
    have ZB : Below w.heap.size w ((((wB.setCell ⟨w.heap.size + 1, 0, none⟩ (.int .i64 0)).setCell ⟨w.heap.size + 1, 1, none⟩ (.int .i64 0)).setCell ⟨w.heap.size + 1, 2, none⟩ (.slice none 0 0)).setCell ⟨w.heap.size + 1, 3, none⟩ (.int .i64 0)) := ((((UB9.out.bl.setCell (by simp <;> omega) _).setCell (by simp <;> omega) _).setCell (by simp <;> omega) _).setCell (by simp <;> omega) _)
    have ZO : OwnLA2 ((((wB.setCell ⟨w.heap.size + 1, 0, none⟩ (.int .i64 0)).setCell ⟨w.heap.size + 1, 1, none⟩ (.int .i64 0)).setCell ⟨w.heap.size + 1, 2, none⟩ (.slice none 0 0)).setCell ⟨w.heap.size + 1, 3, none⟩ (.int .i64 0)) w.heap.size none 0 (fun _ => ⟨Q + q, KK + k⟩) := .inl rfl
    generalize ((((wB.setCell ⟨w.heap.size + 1, 0, none⟩ (.int .i64 0)).setCell ⟨w.heap.size + 1, 1, none⟩ (.int .i64 0)).setCell ⟨w.heap.size + 1, 2, none⟩ (.slice none 0 0)).setCell ⟨w.heap.size + 1, 3, none⟩ (.int .i64 0)) = Z at ZC ZB ZO ⊢
    have z0 : Z.cell? ⟨w.heap.size + 1, 0, none⟩ = some (.int .i64 0) := ZC.cell 0
    have z1 : Z.cell? ⟨w.heap.size + 1, 1, none⟩ = some (.int .i64 0) := ZC.cell 1
    have z2 : Z.cell? ⟨w.heap.size + 1, 2, none⟩ = some (.slice none 0 0) := ZC.cell 2
    have z3 : Z.cell? ⟨w.heap.size + 1, 3, none⟩ = some (.int .i64 0) := ZC.cell 3
    refine bodyPost_ret (v := .tuple #[.agg #[.int .i64 0, .int .i64 0, .slice none 0 0, .int .i64 0], .bool false]) (by simp [results, Try.results30, go_sem, z0, z1, z2, z3]; try rfl) rfl ?_
    exact ⟨_, _, rfl, ZO, ZB⟩
  · obtain rfl : BV = true := by rw [← HTB.out, hw]
    refine (specWorth_eq _ _ _ _ _ _ (fun _ => ⟨Q + q, KK + k⟩) true _ (by omega) OD.out.row hw).mono ?_
    rintro e wB ⟨rfl, bB⟩
    have UB9 := hid (UD.out.below bB)
    have NB9 := hid (ND.out.below bB ND.out.lt)
    have OB9 := hid (OD.out.below bB)
    have x0 : wB.cell? ⟨w.heap.size + 1, 0, none⟩ = some (.int .i64 0) := UB9.out.rs.cell 0
    have x1 : wB.cell? ⟨w.heap.size + 1, 1, none⟩ = some (.int .i64 0) := UB9.out.rs.cell 1
    have x2 : wB.cell? ⟨w.heap.size + 1, 2, none⟩ = some (.slice none 0 0) := UB9.out.rs.cell 2
    have x3 : wB.cell? ⟨w.heap.size + 1, 3, none⟩ = some (.int .i64 0) := UB9.out.rs.cell 3
    have f0 := UB9.out.rs.fr 0
    have f1 := UB9.out.rs.fr 1
    have f2 := UB9.out.rs.fr 2
    have f3 := UB9.out.rs.fr 3
    have n0 : wB.cell? ⟨nb, 0, none⟩ = some (.int .i64 3) := NB9.out.cell 0
    have n1 : wB.cell? ⟨nb, 1, none⟩ = some (.int .i64 p) := NB9.out.cell 1
    have n2 : wB.cell? ⟨nb, 2, none⟩ = some (.slice (some ⟨gl, 0, none⟩) 1 1) := NB9.out.cell 2
    have n3 : wB.cell? ⟨nb, 3, none⟩ = some (.int .i64 off) := NB9.out.cell 3
    clear bB hw
    go_wp2
    have ZC : CB ((((wB.setCell ⟨w.heap.size + 1, 0, none⟩ (.int .i64 3)).setCell ⟨w.heap.size + 1, 1, none⟩ (.int .i64 p)).setCell ⟨w.heap.size + 1, 2, none⟩ (.slice (some ⟨gl, 0, none⟩) 1 1)).setCell ⟨w.heap.size + 1, 3, none⟩ (.int .i64 off)) (w.heap.size + 1) #[.int .i64 3, .int .i64 p, .slice (some ⟨gl, 0, none⟩) 1 1, .int .i64 off] 26 := set4 UB9.out.rs
    have ZB : Below w.heap.size w ((((wB.setCell ⟨w.heap.size + 1, 0, none⟩ (.int .i64 3)).setCell ⟨w.heap.size + 1, 1, none⟩ (.int .i64 p)).setCell ⟨w.heap.size + 1, 2, none⟩ (.slice (some ⟨gl, 0, none⟩) 1 1)).setCell ⟨w.heap.size + 1, 3, none⟩ (.int .i64 off)) := ((((UB9.out.bl.setCell (by simp <;> omega) _).setCell (by simp <;> omega) _).setCell (by simp <;> omega) _).setCell (by simp <;> omega) _)
    have ZO : OwnLA2 ((((wB.setCell ⟨w.heap.size + 1, 0, none⟩ (.int .i64 3)).setCell ⟨w.heap.size + 1, 1, none⟩ (.int .i64 p)).setCell ⟨w.heap.size + 1, 2, none⟩ (.slice (some ⟨gl, 0, none⟩) 1 1)).setCell ⟨w.heap.size + 1, 3, none⟩ (.int .i64 off)) w.heap.size (some ⟨gl, 0, none⟩) 1 (fun _ => ⟨Q + q, KK + k⟩) := (OB9.out.keep (fun g hg => keep4 (by have := (fun x (hx : some (⟨gl, 0, none⟩ : Addr) = some ⟨x, 0, none⟩) => (by cases hx; exact hsA : w.heap.size + 2 ≤ x)) g hg; omega))).mono (by omega)
    generalize ((((wB.setCell ⟨w.heap.size + 1, 0, none⟩ (.int .i64 3)).setCell ⟨w.heap.size + 1, 1, none⟩ (.int .i64 p)).setCell ⟨w.heap.size + 1, 2, none⟩ (.slice (some ⟨gl, 0, none⟩) 1 1)).setCell ⟨w.heap.size + 1, 3, none⟩ (.int .i64 off)) = Z at ZC ZB ZO ⊢
    have z0 : Z.cell? ⟨w.heap.size + 1, 0, none⟩ = some (.int .i64 3) := ZC.cell 0
    have z1 : Z.cell? ⟨w.heap.size + 1, 1, none⟩ = some (.int .i64 p) := ZC.cell 1
    have z2 : Z.cell? ⟨w.heap.size + 1, 2, none⟩ = some (.slice (some ⟨gl, 0, none⟩) 1 1) := ZC.cell 2
    have z3 : Z.cell? ⟨w.heap.size + 1, 3, none⟩ = some (.int .i64 off) := ZC.cell 3
    refine bodyPost_ret (v := .tuple #[.agg #[.int .i64 3, .int .i64 p, .slice (some ⟨gl, 0, none⟩) 1 1, .int .i64 off], .bool true]) (by simp [results, Try.results30, go_sem, z0, z1, z2, z3]; try rfl) rfl ?_
    exact ⟨_, _, rfl, ZO, ZB⟩

set_option maxRecDepth 20000 in
set_option maxHeartbeats 16000000 in
theorem specTakeIn_4 (p : Int) (a : Addr) (n cap : Nat) (off q k Q KK R : Int) (BV : Bool) (c : Nat → LA2) (w : World) (hn : n ≤ 300) (hw0 : woB 4 p n c off = true) (hla : laB ⟨q, k⟩ = true) (hr : LAr w (some a) n c) (hQ : qS c n = Q) (hK : kS c n = KK) (hRR : q * p = R) (hBV : woB 4 p 1 (fun _ => ⟨Q + q, KK + R⟩) (off + (k - R)) = BV) :
    Calls Try.prog 30 #[.agg #[.int .i64 4, .int .i64 p, .slice (some a) n cap, .int .i64 off], .int .i64 q, .int .i64 k] w fun e w' => ∃ ad cap, e = .returned (.tuple #[.agg #[.int .i64 (zI BV 4), .int .i64 (zI BV p), .slice ad (zN BV 1) cap, .int .i64 (zI BV (off + (k - R)))], .bool BV]) ∧ OwnLA2 w' w.heap.size ad (zN BV 1) (fun _ => ⟨Q + q, KK + R⟩) ∧ Below w.heap.size w w' := by
  have HR : Hid (LAr w (some a) n c) := hr
  obtain ⟨i4, hi4, hz40, hz41, hz42⟩ := infoLA2
  have hnI : (n : Int) ≤ 1048576 := by omega
  have tkW : True := trivial
  have tkA : True := trivial
  have tkB : True := trivial
  have hwp := woB_p hw0
  have hbd := hwp.bd
  rw [hQ, hK] at hbd
  obtain ⟨_, d1, d2, d3⟩ := hbd
  have d0 : 0 ≤ Q := by rw [← hQ]; have := (sums_bd n hwp.lay).1; omega
  obtain ⟨⟨q1, q2⟩, k1, k2⟩ := laB_p hla
  simp only at q1 q2 k1 k2
  have HPL : Hid (∀ j, j < n + 1 → laB (putL c n ⟨q, k⟩ j) = true) := hid (putL_la hwp.lay hla)
  have HSQ : Hid (qS (putL c n ⟨q, k⟩) (n + 1) = Q + q) := hid (by rw [putL_q, hQ])
  have HSK : Hid (kS (putL c n ⟨q, k⟩) (n + 1) = KK + k) := hid (by rw [putL_k, hK])
  obtain ⟨⟨p0, p1⟩, ⟨o1, o2⟩, hst⟩ := hwp.std rfl
  rw [hQ, hK] at hst
  have r0 : 0 ≤ R := by rw [← hRR]; exact Int.mul_nonneg (by omega) p0
  have r1 : R ≤ 100000000000 := by
    have h1 : q * p ≤ 1000000 * p := Int.mul_le_mul_of_nonneg_right q2 p0
    have h2 : 1000000 * p ≤ 1000000 * 100000 := Int.mul_le_mul_of_nonneg_left p1 (by decide)
    omega
  have hwA : IntKind.i64.wrap ((Q + q) * p) = KK + R := by rw [Int.add_mul, hRR, ← hst]; exact IntWalk.i64_in _ ⟨by omega, by omega⟩
  have hwB : IntKind.i64.wrap (q * p) = R := by rw [hRR]; exact IntWalk.i64_in _ ⟨by omega, by omega⟩
  have hwC : IntKind.i64.wrap (off + k) = off + k := IntWalk.i64_in _ ⟨by omega, by omega⟩
  have hwD : IntKind.i64.wrap (off + k - R) = off + (k - R) := by rw [show off + k - R = off + (k - R) by omega]; exact IntWalk.i64_in _ ⟨by omega, by omega⟩
  clear hst
  have HW0 : Hid (woB 4 p n c off = true) := hw0
  have HQ0 : Hid (inB q 1 1000000 = true) := hid (inB_y q1 q2)
  have HK0 : Hid (inB k 0 100000000000 = true) := hid (inB_y k1 k2)
  have HTB : Hid (woB 4 p 1 (fun _ => ⟨Q + q, KK + R⟩) (off + (k - R)) = BV) := hBV
  clear hr hw0 hla hwp hQ hK hRR hBV
  go_enter Try.func30, Try.ntmps30
  go_wp2_with (first
    | (go_at_call 20; clear tkW; refine (specWorth_eq _ _ _ _ _ _ c _ _ hnI ((HR.out.alloc _).alloc _) HW0.out).mono ?_; rintro e w3 ⟨rfl, b3⟩; have U3 : Hid (VB w 4 p (.slice (some a) n cap) off w3) := hid ((VB.start w 4 p (.slice (some a) n cap) off).below b3); have R3 : Hid (LAr w3 (some a) n c) := hid (((HR.out.alloc _).alloc _).below b3); have x0 : w3.cell? ⟨w.heap.size + 1, 0, none⟩ = some (.int .i64 0) := U3.out.rs.cell 0; have x1 : w3.cell? ⟨w.heap.size + 1, 1, none⟩ = some (.int .i64 0) := U3.out.rs.cell 1; have x2 : w3.cell? ⟨w.heap.size + 1, 2, none⟩ = some (.slice none 0 0) := U3.out.rs.cell 2; have x3 : w3.cell? ⟨w.heap.size + 1, 3, none⟩ = some (.int .i64 0) := U3.out.rs.cell 3; have f0 := U3.out.rs.fr 0; have f1 := U3.out.rs.fr 1; have f2 := U3.out.rs.fr 2; have f3 := U3.out.rs.fr 3; have t0 : w3.cell? ⟨w.heap.size, 0, none⟩ = some (.int .i64 4) := U3.out.bx.cell 0; have t1 : w3.cell? ⟨w.heap.size, 1, none⟩ = some (.int .i64 p) := U3.out.bx.cell 1; have t2 : w3.cell? ⟨w.heap.size, 2, none⟩ = some (.slice (some a) n cap) := U3.out.bx.cell 2; have t3 : w3.cell? ⟨w.heap.size, 3, none⟩ = some (.int .i64 off) := U3.out.bx.cell 3; have hs3 := U3.out.size; clear b3)
    | (go_at_call 60; clear tkA; refine (l1In_eq _ _ _ _ _ HQ0.out).mono ?_; rintro e w1 ⟨rfl, ew⟩; replace ew := ew.symm; subst ew)
    | (go_at_call 60; clear tkB; refine (l1In_eq _ _ _ _ _ HK0.out).mono ?_; rintro e w1 ⟨rfl, ew⟩; replace ew := ew.symm; subst ew)
    | (go_at_call 59; clear x0 x1 x2 x3 f0 f1 f2 f3; refine (l16Copy_any _ _ a n _ _ c _ hnI R3.out).mono ?_; rintro e w5 ⟨ad5, cp5, rfl, o5, b5⟩; have U5 := hid (U3.out.below b5); have O5 := hid (own_lower o5 U3.out.size); clear t0 t1 t2 t3 o5 b5)
    | (at_builtin; go_loud (refine wpList_append_own_at _ rfl _ _ 24 rfl (w.heap.size + 2) 40 i4 (.agg #[.int .i64 0, .int .i64 0]) 2 16 Try.underlying24 hi4 hz40 hz41 hz42 rfl (by decide) (.slice ad5 n cp5) n (rowLA2 c n) rfl (row_bel O5.out (((Below.refl _ _).alloc (Nat.le_refl _) _).alloc (by simp) _)) ⟨_, 0, none⟩ 1 1 [.int .i64 q, .int .i64 k] rfl rfl (ecells (by first | rfl | simp)) (fun u hu => by simp at hu; rcases hu with rfl | rfl <;> rfl) (by unfold maxLen; omega) (by omega) (by have := U5.out.size; simp; omega) ?_; intro v9 w9 hown hgr _ _; have hown2 := hown; rw [← row_put c n ⟨q, k⟩] at hown2; obtain ⟨ad9, cp9, rfl, _, ow9⟩ := ownLA2_of hown2; have U9 := hid (((U5.out.alloc _).alloc _).grown hgr (fun x hx => (O5.out.lt x hx).1)); have N9 : Hid (CB w9 w5.heap.size #[.int .i64 4, .int .i64 p, .slice ad5 n cp5, .int .i64 off] 26) := hid (((CB.new _ _).alloc _).keep (hgr.block _ (by simp; omega) (fun e => by have := (O5.out.lt _ e.symm).2; omega))); have O9 := hid ow9; have HNG : Hid (∀ g, ad9 = some ⟨g, 0, none⟩ → w.heap.size + 2 ≤ g) := hid (fun g hg => (hown.lt g (by rw [hg]; rfl)).1); have hs5 := U5.out.size; have HNN : Hid (∀ g, ad9 = some ⟨g, 0, none⟩ → g ≠ w5.heap.size) := hid (fun g hg e => by have h1 := hown.2; rcases h1 with ⟨h1, _⟩ | ⟨g0, cap0, cur0, e1, hb1, hg1, _⟩; (rw [hg] at h1; cases h1); (rw [hg] at e1; cases e1; have hX := N9.out; unfold CB at hX; rw [← e] at hX; rw [hX] at hg1; cases hg1)); have e0 : w9.cell? ⟨w5.heap.size, 0, none⟩ = some (.int .i64 4) := N9.out.cell 0; have e1 : w9.cell? ⟨w5.heap.size, 1, none⟩ = some (.int .i64 p) := N9.out.cell 1; have e2 : w9.cell? ⟨w5.heap.size, 2, none⟩ = some (.slice ad5 n cp5) := N9.out.cell 2; have e3 : w9.cell? ⟨w5.heap.size, 3, none⟩ = some (.int .i64 off) := N9.out.cell 3; have j2 := N9.out.fr 2; have t0 : w9.cell? ⟨w.heap.size, 0, none⟩ = some (.int .i64 4) := U9.out.bx.cell 0; have t1 : w9.cell? ⟨w.heap.size, 1, none⟩ = some (.int .i64 p) := U9.out.bx.cell 1; have t2 : w9.cell? ⟨w.heap.size, 2, none⟩ = some (.slice (some a) n cap) := U9.out.bx.cell 2; have t3 : w9.cell? ⟨w.heap.size, 3, none⟩ = some (.int .i64 off) := U9.out.bx.cell 3; clear hown hown2 hgr ow9)))
  have UA : Hid (VB w 4 p (.slice (some a) n cap) off (w9.setCell ⟨w5.heap.size, 2, none⟩ (.slice ad9 (n + 1) cp9))) := hid (U9.out.set (b := w5.heap.size) (o := 2) (.slice ad9 (n + 1) cp9) hs5)
  have NA : Hid (CB (w9.setCell ⟨w5.heap.size, 2, none⟩ (.slice ad9 (n + 1) cp9)) w5.heap.size #[.int .i64 4, .int .i64 p, .slice ad9 (n + 1) cp9, .int .i64 off] 26) := hid (by simpa using N9.out.set 2 (.slice ad9 (n + 1) cp9))
  have OA : Hid (OwnLA2 (w9.setCell ⟨w5.heap.size, 2, none⟩ (.slice ad9 (n + 1) cp9)) (w.heap.size + 2) ad9 (n + 1) (putL c n ⟨q, k⟩)) := hid (O9.out.keep (fun g hg => hs_set (HNN.out g hg)))
  clear e0 e1 e2 e3 j2 t0 t1 t2 t3
  obtain ⟨nb, hnb⟩ : ∃ nb, w5.heap.size = nb := ⟨_, rfl⟩
  rw [hnb] at UA NA OA hs5 ⊢
  generalize w9.setCell ⟨nb, 2, none⟩ (.slice ad9 (n + 1) cp9) = wA at UA NA OA ⊢
  clear hnb
  have t0 : wA.cell? ⟨w.heap.size, 0, none⟩ = some (.int .i64 4) := UA.out.bx.cell 0
  have t1 : wA.cell? ⟨w.heap.size, 1, none⟩ = some (.int .i64 p) := UA.out.bx.cell 1
  have t2 : wA.cell? ⟨w.heap.size, 2, none⟩ = some (.slice (some a) n cap) := UA.out.bx.cell 2
  have t3 : wA.cell? ⟨w.heap.size, 3, none⟩ = some (.int .i64 off) := UA.out.bx.cell 3
  have n0 : wA.cell? ⟨nb, 0, none⟩ = some (.int .i64 4) := NA.out.cell 0
  have n1 : wA.cell? ⟨nb, 1, none⟩ = some (.int .i64 p) := NA.out.cell 1
  have n2 : wA.cell? ⟨nb, 2, none⟩ = some (.slice ad9 (n + 1) cp9) := NA.out.cell 2
  have n3 : wA.cell? ⟨nb, 3, none⟩ = some (.int .i64 off) := NA.out.cell 3
  have f2 := NA.out.fr 2
  have f3 := NA.out.fr 3
  have hnlt := NA.out.lt
  refine (specSums_eq ad9 (n + 1) cp9 (putL c n ⟨q, k⟩) (Q + q) (KK + k) _ (by omega) HPL.out OA.out.row HSQ.out HSK.out).mono ?_
  rintro e wC ⟨rfl, ew⟩
  replace ew := ew.symm
  subst ew
  go_wp2_with (go_at_call 20; exact absurd rfl tkNone)
  have UD : Hid (VB w 4 p (.slice (some a) n cap) off (((wA.setCell ⟨nb, 3, none⟩ (.int .i64 (off + (k - R)))).setCell ⟨nb, 2, none⟩ (.slice (some ⟨wA.heap.size, 0, none⟩) 1 1)).alloc (.cells #[.int .i64 (Q + q), .int .i64 (KK + R)] 40 (0, 0)))) := hid (((UA.out.set (b := nb) (o := 3) (.int .i64 (off + (k - R))) hs5).set (b := nb) (o := 2) (.slice (some ⟨wA.heap.size, 0, none⟩) 1 1) hs5).alloc (.cells #[.int .i64 (Q + q), .int .i64 (KK + R)] 40 (0, 0)))
  have ND : Hid (CB (((wA.setCell ⟨nb, 3, none⟩ (.int .i64 (off + (k - R)))).setCell ⟨nb, 2, none⟩ (.slice (some ⟨wA.heap.size, 0, none⟩) 1 1)).alloc (.cells #[.int .i64 (Q + q), .int .i64 (KK + R)] 40 (0, 0))) nb #[.int .i64 4, .int .i64 p, .slice (some ⟨wA.heap.size, 0, none⟩) 1 1, .int .i64 (off + (k - R))] 26) := hid (by simpa using ((NA.out.set 3 (.int .i64 (off + (k - R)))).set 2 (.slice (some ⟨wA.heap.size, 0, none⟩) 1 1)).alloc (.cells #[.int .i64 (Q + q), .int .i64 (KK + R)] 40 (0, 0)))
  have OD : Hid (OwnLA2 (((wA.setCell ⟨nb, 3, none⟩ (.int .i64 (off + (k - R)))).setCell ⟨nb, 2, none⟩ (.slice (some ⟨wA.heap.size, 0, none⟩) 1 1)).alloc (.cells #[.int .i64 (Q + q), .int .i64 (KK + R)] 40 (0, 0))) (w.heap.size + 2) (some ⟨wA.heap.size, 0, none⟩) 1 (fun _ => ⟨Q + q, KK + R⟩)) := hid (ownOne (CB.newAt (by simp) _ _) UA.out.size)
  have hsA := UA.out.size
  clear t0 t1 t2 t3 n0 n1 n2 n3 f2 f3
  obtain ⟨gl, hgl⟩ : ∃ gl, wA.heap.size = gl := ⟨_, rfl⟩
  rw [hgl] at UD ND OD hsA ⊢
  generalize ((wA.setCell ⟨nb, 3, none⟩ (.int .i64 (off + (k - R)))).setCell ⟨nb, 2, none⟩ (.slice (some ⟨gl, 0, none⟩) 1 1)).alloc (.cells #[.int .i64 (Q + q), .int .i64 (KK + R)] 40 (0, 0)) = wD at UD ND OD ⊢
  clear hgl
  cases hw : woB 4 p 1 (fun _ => ⟨Q + q, KK + R⟩) ((off + (k - R)))
  · obtain rfl : BV = false := by rw [← HTB.out, hw]
    refine (specWorth_eq _ _ _ _ _ _ (fun _ => ⟨Q + q, KK + R⟩) false _ (by omega) OD.out.row hw).mono ?_
    rintro e wB ⟨rfl, bB⟩
    have UB9 := hid (UD.out.below bB)
    have NB9 := hid (ND.out.below bB ND.out.lt)
    have OB9 := hid (OD.out.below bB)
    have x0 : wB.cell? ⟨w.heap.size + 1, 0, none⟩ = some (.int .i64 0) := UB9.out.rs.cell 0
    have x1 : wB.cell? ⟨w.heap.size + 1, 1, none⟩ = some (.int .i64 0) := UB9.out.rs.cell 1
    have x2 : wB.cell? ⟨w.heap.size + 1, 2, none⟩ = some (.slice none 0 0) := UB9.out.rs.cell 2
    have x3 : wB.cell? ⟨w.heap.size + 1, 3, none⟩ = some (.int .i64 0) := UB9.out.rs.cell 3
    have f0 := UB9.out.rs.fr 0
    have f1 := UB9.out.rs.fr 1
    have f2 := UB9.out.rs.fr 2
    have f3 := UB9.out.rs.fr 3
    have n0 : wB.cell? ⟨nb, 0, none⟩ = some (.int .i64 4) := NB9.out.cell 0
    have n1 : wB.cell? ⟨nb, 1, none⟩ = some (.int .i64 p) := NB9.out.cell 1
    have n2 : wB.cell? ⟨nb, 2, none⟩ = some (.slice (some ⟨gl, 0, none⟩) 1 1) := NB9.out.cell 2
    have n3 : wB.cell? ⟨nb, 3, none⟩ = some (.int .i64 (off + (k - R))) := NB9.out.cell 3
    clear bB hw
    go_wp2
    have ZC : CB ((((wB.setCell ⟨w.heap.size + 1, 0, none⟩ (.int .i64 0)).setCell ⟨w.heap.size + 1, 1, none⟩ (.int .i64 0)).setCell ⟨w.heap.size + 1, 2, none⟩ (.slice none 0 0)).setCell ⟨w.heap.size + 1, 3, none⟩ (.int .i64 0)) (w.heap.size + 1) #[.int .i64 0, .int .i64 0, .slice none 0 0, .int .i64 0] 26 := set4 UB9.out.rs
    have ZB : Below w.heap.size w ((((wB.setCell ⟨w.heap.size + 1, 0, none⟩ (.int .i64 0)).setCell ⟨w.heap.size + 1, 1, none⟩ (.int .i64 0)).setCell ⟨w.heap.size + 1, 2, none⟩ (.slice none 0 0)).setCell ⟨w.heap.size + 1, 3, none⟩ (.int .i64 0)) := ((((UB9.out.bl.setCell (by simp <;> omega) _).setCell (by simp <;> omega) _).setCell (by simp <;> omega) _).setCell (by simp <;> omega) _)
    have ZO : OwnLA2 ((((wB.setCell ⟨w.heap.size + 1, 0, none⟩ (.int .i64 0)).setCell ⟨w.heap.size + 1, 1, none⟩ (.int .i64 0)).setCell ⟨w.heap.size + 1, 2, none⟩ (.slice none 0 0)).setCell ⟨w.heap.size + 1, 3, none⟩ (.int .i64 0)) w.heap.size none 0 (fun _ => ⟨Q + q, KK + R⟩) := .inl rfl
    generalize ((((wB.setCell ⟨w.heap.size + 1, 0, none⟩ (.int .i64 0)).setCell ⟨w.heap.size + 1, 1, none⟩ (.int .i64 0)).setCell ⟨w.heap.size + 1, 2, none⟩ (.slice none 0 0)).setCell ⟨w.heap.size + 1, 3, none⟩ (.int .i64 0)) = Z at ZC ZB ZO ⊢
    have z0 : Z.cell? ⟨w.heap.size + 1, 0, none⟩ = some (.int .i64 0) := ZC.cell 0
    have z1 : Z.cell? ⟨w.heap.size + 1, 1, none⟩ = some (.int .i64 0) := ZC.cell 1
    have z2 : Z.cell? ⟨w.heap.size + 1, 2, none⟩ = some (.slice none 0 0) := ZC.cell 2
    have z3 : Z.cell? ⟨w.heap.size + 1, 3, none⟩ = some (.int .i64 0) := ZC.cell 3
    refine bodyPost_ret (v := .tuple #[.agg #[.int .i64 0, .int .i64 0, .slice none 0 0, .int .i64 0], .bool false]) (by simp [results, Try.results30, go_sem, z0, z1, z2, z3]; try rfl) rfl ?_
    exact ⟨_, _, rfl, ZO, ZB⟩
  · obtain rfl : BV = true := by rw [← HTB.out, hw]
    refine (specWorth_eq _ _ _ _ _ _ (fun _ => ⟨Q + q, KK + R⟩) true _ (by omega) OD.out.row hw).mono ?_
    rintro e wB ⟨rfl, bB⟩
    have UB9 := hid (UD.out.below bB)
    have NB9 := hid (ND.out.below bB ND.out.lt)
    have OB9 := hid (OD.out.below bB)
    have x0 : wB.cell? ⟨w.heap.size + 1, 0, none⟩ = some (.int .i64 0) := UB9.out.rs.cell 0
    have x1 : wB.cell? ⟨w.heap.size + 1, 1, none⟩ = some (.int .i64 0) := UB9.out.rs.cell 1
    have x2 : wB.cell? ⟨w.heap.size + 1, 2, none⟩ = some (.slice none 0 0) := UB9.out.rs.cell 2
    have x3 : wB.cell? ⟨w.heap.size + 1, 3, none⟩ = some (.int .i64 0) := UB9.out.rs.cell 3
    have f0 := UB9.out.rs.fr 0
    have f1 := UB9.out.rs.fr 1
    have f2 := UB9.out.rs.fr 2
    have f3 := UB9.out.rs.fr 3
    have n0 : wB.cell? ⟨nb, 0, none⟩ = some (.int .i64 4) := NB9.out.cell 0
    have n1 : wB.cell? ⟨nb, 1, none⟩ = some (.int .i64 p) := NB9.out.cell 1
    have n2 : wB.cell? ⟨nb, 2, none⟩ = some (.slice (some ⟨gl, 0, none⟩) 1 1) := NB9.out.cell 2
    have n3 : wB.cell? ⟨nb, 3, none⟩ = some (.int .i64 (off + (k - R))) := NB9.out.cell 3
    clear bB hw
    go_wp2
    have ZC : CB ((((wB.setCell ⟨w.heap.size + 1, 0, none⟩ (.int .i64 4)).setCell ⟨w.heap.size + 1, 1, none⟩ (.int .i64 p)).setCell ⟨w.heap.size + 1, 2, none⟩ (.slice (some ⟨gl, 0, none⟩) 1 1)).setCell ⟨w.heap.size + 1, 3, none⟩ (.int .i64 (off + (k - R)))) (w.heap.size + 1) #[.int .i64 4, .int .i64 p, .slice (some ⟨gl, 0, none⟩) 1 1, .int .i64 (off + (k - R))] 26 := set4 UB9.out.rs
    have ZB : Below w.heap.size w ((((wB.setCell ⟨w.heap.size + 1, 0, none⟩ (.int .i64 4)).setCell ⟨w.heap.size + 1, 1, none⟩ (.int .i64 p)).setCell ⟨w.heap.size + 1, 2, none⟩ (.slice (some ⟨gl, 0, none⟩) 1 1)).setCell ⟨w.heap.size + 1, 3, none⟩ (.int .i64 (off + (k - R)))) := ((((UB9.out.bl.setCell (by simp <;> omega) _).setCell (by simp <;> omega) _).setCell (by simp <;> omega) _).setCell (by simp <;> omega) _)
    have ZO : OwnLA2 ((((wB.setCell ⟨w.heap.size + 1, 0, none⟩ (.int .i64 4)).setCell ⟨w.heap.size + 1, 1, none⟩ (.int .i64 p)).setCell ⟨w.heap.size + 1, 2, none⟩ (.slice (some ⟨gl, 0, none⟩) 1 1)).setCell ⟨w.heap.size + 1, 3, none⟩ (.int .i64 (off + (k - R)))) w.heap.size (some ⟨gl, 0, none⟩) 1 (fun _ => ⟨Q + q, KK + R⟩) := (OB9.out.keep (fun g hg => keep4 (by have := (fun x (hx : some (⟨gl, 0, none⟩ : Addr) = some ⟨x, 0, none⟩) => (by cases hx; exact hsA : w.heap.size + 2 ≤ x)) g hg; omega))).mono (by omega)
    generalize ((((wB.setCell ⟨w.heap.size + 1, 0, none⟩ (.int .i64 4)).setCell ⟨w.heap.size + 1, 1, none⟩ (.int .i64 p)).setCell ⟨w.heap.size + 1, 2, none⟩ (.slice (some ⟨gl, 0, none⟩) 1 1)).setCell ⟨w.heap.size + 1, 3, none⟩ (.int .i64 (off + (k - R)))) = Z at ZC ZB ZO ⊢
    have z0 : Z.cell? ⟨w.heap.size + 1, 0, none⟩ = some (.int .i64 4) := ZC.cell 0
    have z1 : Z.cell? ⟨w.heap.size + 1, 1, none⟩ = some (.int .i64 p) := ZC.cell 1
    have z2 : Z.cell? ⟨w.heap.size + 1, 2, none⟩ = some (.slice (some ⟨gl, 0, none⟩) 1 1) := ZC.cell 2
    have z3 : Z.cell? ⟨w.heap.size + 1, 3, none⟩ = some (.int .i64 (off + (k - R))) := ZC.cell 3
    refine bodyPost_ret (v := .tuple #[.agg #[.int .i64 4, .int .i64 p, .slice (some ⟨gl, 0, none⟩) 1 1, .int .i64 (off + (k - R))], .bool true]) (by simp [results, Try.results30, go_sem, z0, z1, z2, z3]; try rfl) rfl ?_
    exact ⟨_, _, rfl, ZO, ZB⟩

end Go.Proofs.Ytdgccdlaokbnhaa
