/- A quantity moved within a stock by the program. -/
import Derived.Test.YtpmnnfjabppahaaBb
import Derived.Test.YtpmnnfjabppahaaSb
namespace Go.Proofs.Ytpmnnfjabppahaa
open Go Go.ChangeShapes Go.WideShapes Go.ChangeAt Go.RowKit
set_option linter.unusedVariables false
set_option linter.unusedSimpArgs false

def mvX (c : Nat → CE6) (i : Nat) (p : ByteArray) (q : Int) : CE6 := ⟨(c i).item, p, (c i).lot, (c i).exp, q, 0⟩
def mvD (c : Nat → CE6) (i : Nat) (q : Int) : Nat → CE6 := putC c i ⟨(c i).item, (c i).place, (c i).lot, (c i).exp, (c i).qty - q, (c i).hld⟩
noncomputable def mvB (n : Nat) (at_ : Int) (p : ByteArray) (q : Int) : Bool := inB at_ 0 ((n : Int) - 1) && nameB p && inB q 0 1000000
noncomputable def mvT (n : Nat) (c : Nat → CE6) (at_ : Int) (p : ByteArray) (q : Int) : Int :=
  if mvB n at_ p q = true then (if p = (c at_.toNat).place then 2 else if (c at_.toNat).qty - (c at_.toNat).hld < q then 3 else brT n (mvD c at_.toNat q) (mvX c at_.toNat p q)) else 2
noncomputable def mvN (n : Nat) (c : Nat → CE6) (at_ : Int) (p : ByteArray) (q : Int) : Nat := brN n (mvD c at_.toNat q) (mvX c at_.toNat p q)
noncomputable def mvC (n : Nat) (c : Nat → CE6) (at_ : Int) (p : ByteArray) (q : Int) : Nat → CE6 := brC n (mvD c at_.toNat q) (mvX c at_.toNat p q)
theorem mvD_key (c : Nat → CE6) (i : Nat) (q : Int) (j : Nat) : (mvD c i q j).key = (c j).key := by
  unfold mvD putC
  by_cases e : j = i
  · subst e; simp [CE6.key]
  · simp [e]
theorem mvD_ce {n i : Nat} {c : Nat → CE6} {q : Int} (h : CeN n c) (hq : 0 ≤ q) (hf : ¬ (c i).qty - (c i).hld < q) : CeN n (mvD c i q) := fun j hj => by
  unfold mvD putC
  by_cases e : j = i
  · subst e; have := h j hj; simp; omega
  · simp [e]; exact h j hj
theorem key_eq (y0 y1 y2 : ByteArray) (y3 y4 y5 : Int) (w : World) : Calls Try.prog 107 #[.agg #[.string y0, .string y1, .string y2, .int .i64 y3, .int .i64 y4, .int .i64 y5]] w fun e w' => e = .returned (.agg #[.string y0, .string y1, .string y2]) ∧ Below w.heap.size w w' := key_any ⟨y0, y1, y2, y3, y4, y5⟩ w
theorem rowCE6_set4 (c : Nat → CE6) (i : Nat) (v : Int) : ∀ n, i < n → (rowCE6 c n).set (i * 6 + 4) (.int .i64 v) = rowCE6 (putC c i ⟨(c i).item, (c i).place, (c i).lot, (c i).exp, v, (c i).hld⟩) n
  | 0, h => by omega
  | n + 1, h => by
    simp only [rowCE6]
    have hlen := rowCE6_len c n
    by_cases e : i = n
    · subst e
      rw [List.set_append_right _ _ (by omega), hlen, show i * 6 + 4 - i * 6 = 4 by omega, rowCE6_congr (c := putC c i ⟨(c i).item, (c i).place, (c i).lot, (c i).exp, v, (c i).hld⟩) (d := c) (fun j hj => by unfold putC; rw [if_neg (by omega)])]
      simp [putC]
    · rw [List.set_append_left _ _ (by omega), rowCE6_set4 c i v n (by omega)]
      simp [putC, Ne.symm e]
theorem row_set4 {w : World} {lo n cp g i : Nat} {c : Nat → CE6} (h : w.ownsRow lo 28 6 (.slice (some ⟨g, 0, none⟩) n cp) n (rowCE6 c n)) (hi : i < n) (v : Int) : (w.setCell ⟨g, i * 6 + 4, none⟩ (.int .i64 v)).ownsRow lo 28 6 (.slice (some ⟨g, 0, none⟩) n cp) n (rowCE6 (putC c i ⟨(c i).item, (c i).place, (c i).lot, (c i).exp, v, (c i).hld⟩) n) := by
  obtain ⟨hl, h2⟩ := h
  refine ⟨rowCE6_len _ n, .inr ?_⟩
  rcases h2 with ⟨e, _⟩ | ⟨g', cap, cur, e, hb, hg, hn, hcap, hcs, ht⟩
  · cases e
  · cases e
    have hC : CB w g cur 28 := hg
    refine ⟨g, cp, _, rfl, hb, hC.set _ _, hn, hcap, by simpa using hcs, ?_⟩
    rw [← rowCE6_set4 c i v n hi, ← ht]
    simp [List.take_set]
/-- While it is moved: the stores' box, the row, the map, the cell it is moved from and what is brought. -/
structure MR (w : World) (sb mb s cp n lo xb yb : Nat) (ad : Option Addr) (c : Nat → CE6) (y0 y1 y2 : ByteArray) (y3 y4 y5 : Int) (p : ByteArray) (q : Int) (V : World) : Prop where
  bl : Below lo w V
  sr : CB V sb #[.slice ad n cp, .map (some mb)] 134
  ro : V.ownsRow lo 28 6 (.slice ad n cp) n (rowCE6 c n)
  mp : MK V mb s (plF c n)
  xs : CB V xb #[.string y0, .string y1, .string y2, .int .i64 y3, .int .i64 y4, .int .i64 y5] 28
  ys : CB V yb #[.string y0, .string p, .string y2, .int .i64 y3, .int .i64 q, .int .i64 0] 28
  lt : lo ≤ V.heap.size
section
variable {w V V' : World} {sb mb s cp n lo xb yb : Nat} {ad : Option Addr} {c : Nat → CE6} {y0 y1 y2 : ByteArray} {y3 y4 y5 : Int} {p : ByteArray} {q : Int}
theorem MR.below (h : MR w sb mb s cp n lo xb yb ad c y0 y1 y2 y3 y4 y5 p q V) (b : Below V.heap.size V V') : MR w sb mb s cp n lo xb yb ad c y0 y1 y2 y3 y4 y5 p q V' :=
  ⟨h.bl.trans (b.mono h.lt), h.sr.below b h.sr.lt, row_below h.ro b, h.mp.below b h.mp.lt, h.xs.below b h.xs.lt, h.ys.below b h.ys.lt, Nat.le_trans h.lt b.size⟩
theorem MR.drew (h : MR w sb mb s cp n lo xb yb ad c y0 y1 y2 y3 y4 y5 p q V) : MR w sb mb s cp n lo xb yb ad c y0 y1 y2 y3 y4 y5 p q V.drew := h.below (Below.refl _ _).drew
end
set_option maxRecDepth 20000 in
set_option maxHeartbeats 8000000 in
theorem move_any (sb mb s cp n lo : Nat) (ad : Option Addr) (c : Nat → CE6) (at_ : Int) (p : ByteArray) (q : Int) (w : World) (hn : n ≤ 100) (hcp : n ≤ cp) (hdis : DisP n c) (hz : CZ c) (hp : p.size ≤ maxLen) (hce : CeN n c)
    (hS : CB w sb #[.slice ad n cp, .map (some mb)] 134) (hO : w.ownsRow lo 28 6 (.slice ad n cp) n (rowCE6 c n)) (hM : MK w mb s (plF c n)) (hlo : lo ≤ w.heap.size) (hsb : lo ≤ sb) :
    Calls Try.prog 57 #[.pointer (some ⟨sb, 0, none⟩), .int .i64 at_, .string p, .int .i64 q] w fun e w' => e = .returned (.int .i64 (mvT n c at_ p q)) ∧ (mvT n c at_ p q = 0 → ∃ ad2 cp2, CB w' sb #[.slice ad2 (mvN n c at_ p q) cp2, .map (some mb)] 134 ∧ OwnCE6 w' lo ad2 (mvN n c at_ p q) (mvC n c at_ p q)) ∧ Below lo w w' := by
  have HP := hid hp
  have HS := hid hS
  have HO := hid hO
  have HM := hid hM
  have HDI := hid hdis
  have HCE := hid hce
  have HZ := hid hz
  clear hp hS hO hM hdis hce hz
  cases h1 : inB at_ 0 ((n : Int) - 1)
  · have HV : Hid (mvT n c at_ p q = 2) := hid (by unfold mvT mvB; simp [h1])
    have y0 := HS.out.cell 0
    go_enter Try.func57, Try.ntmps57
    go_wp2_with (first
      | (go_at_call 106; refine (isPlace_eq _ _ _ _ h1).mono ?_; rintro e w1 ⟨rfl, ew⟩; replace ew := ew.symm; subst ew))
    go_returns
    exact ⟨by rw [HV.out]; rfl, fun h => by rw [HV.out] at h; omega, Below.refl _ _⟩
  cases h2 : nameB p
  · have HV : Hid (mvT n c at_ p q = 2) := hid (by unfold mvT mvB; simp [h1, h2])
    have y0 := HS.out.cell 0
    go_enter Try.func57, Try.ntmps57
    go_wp2_with (first
      | (go_at_call 106; refine (isPlace_eq _ _ _ _ h1).mono ?_; rintro e w1 ⟨rfl, ew⟩; replace ew := ew.symm; subst ew)
      | (go_at_call 88; refine (implName_eq _ _ _ HP.out h2).mono ?_; rintro e w1 ⟨rfl, ew⟩; replace ew := ew.symm; subst ew))
    go_returns
    exact ⟨by rw [HV.out]; rfl, fun h => by rw [HV.out] at h; omega, Below.refl _ _⟩
  cases h3 : inB q 0 1000000
  · have HV : Hid (mvT n c at_ p q = 2) := hid (by unfold mvT mvB; simp [h1, h2, h3])
    have y0 := HS.out.cell 0
    go_enter Try.func57, Try.ntmps57
    go_wp2_with (first
      | (go_at_call 106; refine (isPlace_eq _ _ _ _ h1).mono ?_; rintro e w1 ⟨rfl, ew⟩; replace ew := ew.symm; subst ew)
      | (go_at_call 88; refine (implName_eq _ _ _ HP.out h2).mono ?_; rintro e w1 ⟨rfl, ew⟩; replace ew := ew.symm; subst ew)
      | (go_at_call 85; refine (isQty_eq _ _ _ h3).mono ?_; rintro e w1 ⟨rfl, ew⟩; replace ew := ew.symm; subst ew))
    go_returns
    exact ⟨by rw [HV.out]; rfl, fun h => by rw [HV.out] at h; omega, Below.refl _ _⟩
  have hat : 0 ≤ at_ ∧ at_ ≤ (n : Int) - 1 := by unfold inB at h1; simpa using h1
  have hq : 0 ≤ q ∧ q ≤ 1000000 := by unfold inB at h3; simpa using h3
  obtain ⟨i, rfl⟩ : ∃ i : Nat, at_ = (i : Int) := ⟨at_.toNat, by omega⟩
  have hin : i < n := by omega
  have hinI : (i : Int) < (n : Int) := by omega
  have hmv : mvT n c (i : Int) p q = if p = (c i).place then 2 else if (c i).qty - (c i).hld < q then 3 else brT n (mvD c i q) (mvX c i p q) := by unfold mvT mvB; rw [h1, h2, h3]; rfl
  obtain ⟨g, rfl, hlg, hRO⟩ := own_ro2 HO.out (by omega)
  obtain ⟨c0, c1, c2, c3, c4, c5⟩ := hRO.el hin
  obtain ⟨y, hy⟩ : ∃ y, c i = y := ⟨_, rfl⟩
  have HZi := hid (HZ.out i)
  have HCi := hid (HCE.out i hin)
  rw [hy] at hmv c0 c1 c2 c3 c4 c5 HZi HCi
  have HYE := hid hy
  clear hy
  obtain ⟨y0, y1, y2, y3, y4, y5⟩ := y
  simp only at hmv c0 c1 c2 c3 c4 c5 HZi HCi
  have HMV := hid hmv
  have HIN := hid hin
  have HHQ := hid hq
  have HRO := hid hRO
  have HGL : Hid (g < w.heap.size ∧ lo ≤ g) := hid ⟨hRO.lt, hlg⟩
  have s0 := HS.out.cell 0
  clear hmv hat hRO hlg
  by_cases he : p = y1
  · subst he
    have hpe : (p.toList == p.toList) = true := lists_t rfl
    have HV : Hid (mvT n c (i : Int) p q = 2) := hid (by rw [HMV.out, if_pos rfl])
    go_enter Try.func57, Try.ntmps57
    go_wp2_with (first
      | (go_at_call 106; refine (isPlace_eq _ _ _ _ h1).mono ?_; rintro e w1 ⟨rfl, ew⟩; replace ew := ew.symm; subst ew)
      | (go_at_call 88; refine (implName_eq _ _ _ HP.out h2).mono ?_; rintro e w1 ⟨rfl, ew⟩; replace ew := ew.symm; subst ew)
      | (go_at_call 85; refine (isQty_eq _ _ _ h3).mono ?_; rintro e w1 ⟨rfl, ew⟩; replace ew := ew.symm; subst ew))
    have T0 : Hid (MR w sb mb s cp n lo w.heap.size (w.heap.size + 1) (some ⟨g, 0, none⟩) c y0 p y2 y3 y4 y5 p q ((w.alloc (.cells #[.string y0, .string p, .string y2, .int .i64 y3, .int .i64 y4, .int .i64 y5] 28)).alloc (.cells #[.string y0, .string p, .string y2, .int .i64 y3, .int .i64 q, .int .i64 0] 28))) := hid (by
      have b1 : Below w.heap.size w (w.alloc (.cells #[.string y0, .string p, .string y2, .int .i64 y3, .int .i64 y4, .int .i64 y5] 28)) := (Below.refl _ _).alloc (Nat.le_refl _) _
      have b2 : Below w.heap.size w ((w.alloc (.cells #[.string y0, .string p, .string y2, .int .i64 y3, .int .i64 y4, .int .i64 y5] 28)).alloc (.cells #[.string y0, .string p, .string y2, .int .i64 y3, .int .i64 q, .int .i64 0] 28)) := b1.alloc (by simp) _
      refine ⟨b2.mono hlo, HS.out.below b2 HS.out.lt, row_below HO.out b2, HM.out.below b2 HM.out.lt, ((CB.new _ _).alloc _), ?_, by simp; omega⟩
      have : CB ((w.alloc (.cells #[.string y0, .string p, .string y2, .int .i64 y3, .int .i64 y4, .int .i64 y5] 28)).alloc (.cells #[.string y0, .string p, .string y2, .int .i64 y3, .int .i64 q, .int .i64 0] 28)) (w.alloc (.cells #[.string y0, .string p, .string y2, .int .i64 y3, .int .i64 y4, .int .i64 y5] 28)).heap.size #[.string y0, .string p, .string y2, .int .i64 y3, .int .i64 q, .int .i64 0] 28 := CB.new _ _
      simpa using this)
    have HXG : Hid (g ≠ w.heap.size ∧ g ≠ w.heap.size + 1) := hid ⟨by have := HGL.out.1; omega, by have := HGL.out.1; omega⟩
    clear c0 c1 c2 c3 c4 c5 s0
    generalize ((w.alloc (.cells #[.string y0, .string p, .string y2, .int .i64 y3, .int .i64 y4, .int .i64 y5] 28)).alloc (.cells #[.string y0, .string p, .string y2, .int .i64 y3, .int .i64 q, .int .i64 0] 28)) = W0 at T0 ⊢
    generalize w.heap.size + 1 = yb at T0 HXG ⊢
    generalize hxb : w.heap.size = xb at T0 HXG ⊢
    have TD := hid T0.out.drew
    refine wp_region_noPanic ?_
    refine wp_region_held_drew (S := fun w' => (w'.cell? ⟨xb, 0, none⟩ = some (.string y0)) ∧ (w'.cell? ⟨xb, 1, none⟩ = some (.string p)) ∧ (w'.cell? ⟨xb, 2, none⟩ = some (.string y2)) ∧ (w'.cell? ⟨xb, 3, none⟩ = some (.int .i64 y3)) ∧ (w'.cell? ⟨xb, 4, none⟩ = some (.int .i64 y4)) ∧ (w'.cell? ⟨xb, 5, none⟩ = some (.int .i64 y5)) ∧ (w'.cell? ⟨yb, 0, none⟩ = some (.string y0)) ∧ (w'.cell? ⟨yb, 1, none⟩ = some (.string p)) ∧ (w'.cell? ⟨yb, 2, none⟩ = some (.string y2)) ∧ (w'.cell? ⟨yb, 3, none⟩ = some (.int .i64 y3)) ∧ (w'.cell? ⟨yb, 4, none⟩ = some (.int .i64 q)) ∧ (w'.cell? ⟨yb, 5, none⟩ = some (.int .i64 0))) (by kernel_rfl) (by exact ⟨TD.out.xs.cell 0, TD.out.xs.cell 1, TD.out.xs.cell 2, TD.out.xs.cell 3, TD.out.xs.cell 4, TD.out.xs.cell 5, TD.out.ys.cell 0, TD.out.ys.cell 1, TD.out.ys.cell 2, TD.out.ys.cell 3, TD.out.ys.cell 4, TD.out.ys.cell 5⟩) (fun hHeld => ?_)
    generalize hVD : W0.drew = VD at TD hHeld ⊢
    clear hVD
    refine wpAnyH_take (i := 0) (oi := { dst := some 45, op := Go.Op.load 28 (Go.Operand.tmp 10), type := 28, pos := "l15_stock.go:211", after := #[], guard := none }) (v := ?_) rfl (by kernel_rfl) (by kernel_rfl) (by kernel_rfl) (fun _ _ _ h => h) (Or.inl ⟨by rfl, ?_⟩) (by assumption) ?_
    rotate_left
    · (intro w hSw; (try dsimp only at hSw); go_simp <;> try with_reducible rfl)
    try simp only [Act.put, List.setIfInBounds_toArray, List.set_cons_zero, List.set_cons_succ]
    refine wpAnyH_take (i := 2) (oi := { dst := some 47, op := Go.Op.load 28 (Go.Operand.tmp 9), type := 28, pos := "l15_stock.go:211", after := #[], guard := none }) (v := ?_) rfl (by kernel_rfl) (by kernel_rfl) (by kernel_rfl) (fun _ _ _ h => h) (Or.inl ⟨by rfl, ?_⟩) (by assumption) ?_
    rotate_left
    · (intro w hSw; (try dsimp only at hSw); go_simp <;> try with_reducible rfl)
    try simp only [Act.put, List.setIfInBounds_toArray, List.set_cons_zero, List.set_cons_succ]
    refine wpAnyH_ready (rs := [1]) (by kernel_rfl) (by simp) ?_
    refine AllReadyH.cons (o := { dst := some 46, op := Go.Op.call { callee := Go.Callee.value (Go.Operand.func 107), args := #[Go.Operand.tmp 45], argTypes := #[28] }, type := 137, pos := "l15_stock.go:211", after := #[{ on := 0, ground := Go.Ground.data }], guard := none }) rfl (fun K hK => ?_) (AllReadyH.nil)
    go_simp
    refine (key_eq y0 p y2 y3 q 0 _).mono ?_
    rintro e w8 ⟨rfl, b8⟩
    have T8 := hid (TD.out.below b8)
    clear b8
    first | refine hK.out _ _ (by exact ⟨T8.out.xs.cell 0, T8.out.xs.cell 1, T8.out.xs.cell 2, T8.out.xs.cell 3, T8.out.xs.cell 4, T8.out.xs.cell 5, T8.out.ys.cell 0, T8.out.ys.cell 1, T8.out.ys.cell 2, T8.out.ys.cell 3, T8.out.ys.cell 4, T8.out.ys.cell 5⟩) (fun hHeld => ?_) | (go_wp2_with fail; refine hK.out _ _ (by exact ⟨T8.out.xs.cell 0, T8.out.xs.cell 1, T8.out.xs.cell 2, T8.out.xs.cell 3, T8.out.xs.cell 4, T8.out.xs.cell 5, T8.out.ys.cell 0, T8.out.ys.cell 1, T8.out.ys.cell 2, T8.out.ys.cell 3, T8.out.ys.cell 4, T8.out.ys.cell 5⟩) (fun hHeld => ?_))
    clear hK K
    try simp only [Act.put, List.setIfInBounds_toArray, List.set_cons_zero, List.set_cons_succ]
    refine wpAnyH_ready (rs := [3]) (by kernel_rfl) (by simp) ?_
    refine AllReadyH.cons (o := { dst := some 48, op := Go.Op.call { callee := Go.Callee.value (Go.Operand.func 107), args := #[Go.Operand.tmp 47], argTypes := #[28] }, type := 137, pos := "l15_stock.go:211", after := #[{ on := 2, ground := Go.Ground.data }, { on := 1, ground := Go.Ground.chain }], guard := none }) rfl (fun K hK => ?_) (AllReadyH.nil)
    go_simp
    refine (key_eq y0 p y2 y3 y4 y5 _).mono ?_
    rintro e w9 ⟨rfl, b9⟩
    have T9 := hid (T8.out.below b9)
    clear b9
    first | refine hK.out _ _ (by exact ⟨T9.out.xs.cell 0, T9.out.xs.cell 1, T9.out.xs.cell 2, T9.out.xs.cell 3, T9.out.xs.cell 4, T9.out.xs.cell 5, T9.out.ys.cell 0, T9.out.ys.cell 1, T9.out.ys.cell 2, T9.out.ys.cell 3, T9.out.ys.cell 4, T9.out.ys.cell 5⟩) (fun hHeld => ?_) | (go_wp2_with fail; refine hK.out _ _ (by exact ⟨T9.out.xs.cell 0, T9.out.xs.cell 1, T9.out.xs.cell 2, T9.out.xs.cell 3, T9.out.xs.cell 4, T9.out.xs.cell 5, T9.out.ys.cell 0, T9.out.ys.cell 1, T9.out.ys.cell 2, T9.out.ys.cell 3, T9.out.ys.cell 4, T9.out.ys.cell 5⟩) (fun hHeld => ?_))
    clear hK K
    try simp only [Act.put, List.setIfInBounds_toArray, List.set_cons_zero, List.set_cons_succ]
    refine wpAnyH_take (i := 4) (oi := { dst := some 49, op := Go.Op.binOp Go.BinOp.eql 137 (Go.Operand.tmp 46) (Go.Operand.tmp 48) 137, type := 4, pos := "l15_stock.go:211", after := #[{ on := 1, ground := Go.Ground.data }, { on := 3, ground := Go.Ground.data }], guard := none }) (v := ?_) rfl (by kernel_rfl) (by kernel_rfl) (by kernel_rfl) (fun _ _ _ h => h) (Or.inl ⟨by rfl, ?_⟩) (by assumption) ?_
    rotate_left
    · (intro w hSw; (try dsimp only at hSw); go_simp <;> try with_reducible rfl)
    try simp only [Act.put, List.setIfInBounds_toArray, List.set_cons_zero, List.set_cons_succ]
    refine wpAnyH_done (by kernel_rfl) ?_ _
    refine NoPanic.normal ?_
    clear hHeld
    go_wp2
    go_returns
    exact ⟨by rw [HV.out]; rfl, fun h => by rw [HV.out] at h; omega, T9.out.bl⟩
  have hpe : (p.toList == y1.toList) = false := lists_f he
  obtain ⟨f, hf⟩ : ∃ f, y4 - y5 = f := ⟨_, rfl⟩
  have HF := hid hf
  have hzz : (y0.toList == y0.toList) = true := lists_t rfl
  by_cases hlt : f < q
  · have HV : Hid (mvT n c (i : Int) p q = 3) := hid (by rw [HMV.out, if_neg he, if_pos (by omega)])
    clear hf he
    go_enter Try.func57, Try.ntmps57
    go_wp2_with (first
      | (go_at_call 106; refine (isPlace_eq _ _ _ _ h1).mono ?_; rintro e w1 ⟨rfl, ew⟩; replace ew := ew.symm; subst ew)
      | (go_at_call 88; refine (implName_eq _ _ _ HP.out h2).mono ?_; rintro e w1 ⟨rfl, ew⟩; replace ew := ew.symm; subst ew)
      | (go_at_call 85; refine (isQty_eq _ _ _ h3).mono ?_; rintro e w1 ⟨rfl, ew⟩; replace ew := ew.symm; subst ew))
    have T0 : Hid (MR w sb mb s cp n lo w.heap.size (w.heap.size + 1) (some ⟨g, 0, none⟩) c y0 y1 y2 y3 y4 y5 p q ((w.alloc (.cells #[.string y0, .string y1, .string y2, .int .i64 y3, .int .i64 y4, .int .i64 y5] 28)).alloc (.cells #[.string y0, .string p, .string y2, .int .i64 y3, .int .i64 q, .int .i64 0] 28))) := hid (by
      have b1 : Below w.heap.size w (w.alloc (.cells #[.string y0, .string y1, .string y2, .int .i64 y3, .int .i64 y4, .int .i64 y5] 28)) := (Below.refl _ _).alloc (Nat.le_refl _) _
      have b2 : Below w.heap.size w ((w.alloc (.cells #[.string y0, .string y1, .string y2, .int .i64 y3, .int .i64 y4, .int .i64 y5] 28)).alloc (.cells #[.string y0, .string p, .string y2, .int .i64 y3, .int .i64 q, .int .i64 0] 28)) := b1.alloc (by simp) _
      refine ⟨b2.mono hlo, HS.out.below b2 HS.out.lt, row_below HO.out b2, HM.out.below b2 HM.out.lt, ((CB.new _ _).alloc _), ?_, by simp; omega⟩
      have : CB ((w.alloc (.cells #[.string y0, .string y1, .string y2, .int .i64 y3, .int .i64 y4, .int .i64 y5] 28)).alloc (.cells #[.string y0, .string p, .string y2, .int .i64 y3, .int .i64 q, .int .i64 0] 28)) (w.alloc (.cells #[.string y0, .string y1, .string y2, .int .i64 y3, .int .i64 y4, .int .i64 y5] 28)).heap.size #[.string y0, .string p, .string y2, .int .i64 y3, .int .i64 q, .int .i64 0] 28 := CB.new _ _
      simpa using this)
    have HXG : Hid (g ≠ w.heap.size ∧ g ≠ w.heap.size + 1) := hid ⟨by have := HGL.out.1; omega, by have := HGL.out.1; omega⟩
    clear c0 c1 c2 c3 c4 c5 s0
    generalize ((w.alloc (.cells #[.string y0, .string y1, .string y2, .int .i64 y3, .int .i64 y4, .int .i64 y5] 28)).alloc (.cells #[.string y0, .string p, .string y2, .int .i64 y3, .int .i64 q, .int .i64 0] 28)) = W0 at T0 ⊢
    generalize w.heap.size + 1 = yb at T0 HXG ⊢
    generalize hxb : w.heap.size = xb at T0 HXG ⊢
    have TD := hid T0.out.drew
    refine wp_region_noPanic ?_
    refine wp_region_held_drew (S := fun w' => (w'.cell? ⟨xb, 0, none⟩ = some (.string y0)) ∧ (w'.cell? ⟨xb, 1, none⟩ = some (.string y1)) ∧ (w'.cell? ⟨xb, 2, none⟩ = some (.string y2)) ∧ (w'.cell? ⟨xb, 3, none⟩ = some (.int .i64 y3)) ∧ (w'.cell? ⟨xb, 4, none⟩ = some (.int .i64 y4)) ∧ (w'.cell? ⟨xb, 5, none⟩ = some (.int .i64 y5)) ∧ (w'.cell? ⟨yb, 0, none⟩ = some (.string y0)) ∧ (w'.cell? ⟨yb, 1, none⟩ = some (.string p)) ∧ (w'.cell? ⟨yb, 2, none⟩ = some (.string y2)) ∧ (w'.cell? ⟨yb, 3, none⟩ = some (.int .i64 y3)) ∧ (w'.cell? ⟨yb, 4, none⟩ = some (.int .i64 q)) ∧ (w'.cell? ⟨yb, 5, none⟩ = some (.int .i64 0))) (by kernel_rfl) (by exact ⟨TD.out.xs.cell 0, TD.out.xs.cell 1, TD.out.xs.cell 2, TD.out.xs.cell 3, TD.out.xs.cell 4, TD.out.xs.cell 5, TD.out.ys.cell 0, TD.out.ys.cell 1, TD.out.ys.cell 2, TD.out.ys.cell 3, TD.out.ys.cell 4, TD.out.ys.cell 5⟩) (fun hHeld => ?_)
    generalize hVD : W0.drew = VD at TD hHeld ⊢
    clear hVD
    refine wpAnyH_take (i := 0) (oi := { dst := some 45, op := Go.Op.load 28 (Go.Operand.tmp 10), type := 28, pos := "l15_stock.go:211", after := #[], guard := none }) (v := ?_) rfl (by kernel_rfl) (by kernel_rfl) (by kernel_rfl) (fun _ _ _ h => h) (Or.inl ⟨by rfl, ?_⟩) (by assumption) ?_
    rotate_left
    · (intro w hSw; (try dsimp only at hSw); go_simp <;> try with_reducible rfl)
    try simp only [Act.put, List.setIfInBounds_toArray, List.set_cons_zero, List.set_cons_succ]
    refine wpAnyH_take (i := 2) (oi := { dst := some 47, op := Go.Op.load 28 (Go.Operand.tmp 9), type := 28, pos := "l15_stock.go:211", after := #[], guard := none }) (v := ?_) rfl (by kernel_rfl) (by kernel_rfl) (by kernel_rfl) (fun _ _ _ h => h) (Or.inl ⟨by rfl, ?_⟩) (by assumption) ?_
    rotate_left
    · (intro w hSw; (try dsimp only at hSw); go_simp <;> try with_reducible rfl)
    try simp only [Act.put, List.setIfInBounds_toArray, List.set_cons_zero, List.set_cons_succ]
    refine wpAnyH_ready (rs := [1]) (by kernel_rfl) (by simp) ?_
    refine AllReadyH.cons (o := { dst := some 46, op := Go.Op.call { callee := Go.Callee.value (Go.Operand.func 107), args := #[Go.Operand.tmp 45], argTypes := #[28] }, type := 137, pos := "l15_stock.go:211", after := #[{ on := 0, ground := Go.Ground.data }], guard := none }) rfl (fun K hK => ?_) (AllReadyH.nil)
    go_simp
    refine (key_eq y0 p y2 y3 q 0 _).mono ?_
    rintro e w8 ⟨rfl, b8⟩
    have T8 := hid (TD.out.below b8)
    clear b8
    first | refine hK.out _ _ (by exact ⟨T8.out.xs.cell 0, T8.out.xs.cell 1, T8.out.xs.cell 2, T8.out.xs.cell 3, T8.out.xs.cell 4, T8.out.xs.cell 5, T8.out.ys.cell 0, T8.out.ys.cell 1, T8.out.ys.cell 2, T8.out.ys.cell 3, T8.out.ys.cell 4, T8.out.ys.cell 5⟩) (fun hHeld => ?_) | (go_wp2_with fail; refine hK.out _ _ (by exact ⟨T8.out.xs.cell 0, T8.out.xs.cell 1, T8.out.xs.cell 2, T8.out.xs.cell 3, T8.out.xs.cell 4, T8.out.xs.cell 5, T8.out.ys.cell 0, T8.out.ys.cell 1, T8.out.ys.cell 2, T8.out.ys.cell 3, T8.out.ys.cell 4, T8.out.ys.cell 5⟩) (fun hHeld => ?_))
    clear hK K
    try simp only [Act.put, List.setIfInBounds_toArray, List.set_cons_zero, List.set_cons_succ]
    refine wpAnyH_ready (rs := [3]) (by kernel_rfl) (by simp) ?_
    refine AllReadyH.cons (o := { dst := some 48, op := Go.Op.call { callee := Go.Callee.value (Go.Operand.func 107), args := #[Go.Operand.tmp 47], argTypes := #[28] }, type := 137, pos := "l15_stock.go:211", after := #[{ on := 2, ground := Go.Ground.data }, { on := 1, ground := Go.Ground.chain }], guard := none }) rfl (fun K hK => ?_) (AllReadyH.nil)
    go_simp
    refine (key_eq y0 y1 y2 y3 y4 y5 _).mono ?_
    rintro e w9 ⟨rfl, b9⟩
    have T9 := hid (T8.out.below b9)
    clear b9
    first | refine hK.out _ _ (by exact ⟨T9.out.xs.cell 0, T9.out.xs.cell 1, T9.out.xs.cell 2, T9.out.xs.cell 3, T9.out.xs.cell 4, T9.out.xs.cell 5, T9.out.ys.cell 0, T9.out.ys.cell 1, T9.out.ys.cell 2, T9.out.ys.cell 3, T9.out.ys.cell 4, T9.out.ys.cell 5⟩) (fun hHeld => ?_) | (go_wp2_with fail; refine hK.out _ _ (by exact ⟨T9.out.xs.cell 0, T9.out.xs.cell 1, T9.out.xs.cell 2, T9.out.xs.cell 3, T9.out.xs.cell 4, T9.out.xs.cell 5, T9.out.ys.cell 0, T9.out.ys.cell 1, T9.out.ys.cell 2, T9.out.ys.cell 3, T9.out.ys.cell 4, T9.out.ys.cell 5⟩) (fun hHeld => ?_))
    clear hK K
    try simp only [Act.put, List.setIfInBounds_toArray, List.set_cons_zero, List.set_cons_succ]
    refine wpAnyH_take (i := 4) (oi := { dst := some 49, op := Go.Op.binOp Go.BinOp.eql 137 (Go.Operand.tmp 46) (Go.Operand.tmp 48) 137, type := 4, pos := "l15_stock.go:211", after := #[{ on := 1, ground := Go.Ground.data }, { on := 3, ground := Go.Ground.data }], guard := none }) (v := ?_) rfl (by kernel_rfl) (by kernel_rfl) (by kernel_rfl) (fun _ _ _ h => h) (Or.inl ⟨by rfl, ?_⟩) (by assumption) ?_
    rotate_left
    · (intro w hSw; (try dsimp only at hSw); go_simp <;> try with_reducible rfl)
    try simp only [Act.put, List.setIfInBounds_toArray, List.set_cons_zero, List.set_cons_succ]
    refine wpAnyH_done (by kernel_rfl) ?_ _
    refine NoPanic.normal ?_
    clear hHeld
    have x0 : w9.cell? ⟨xb, 0, none⟩ = some (.string y0) := T9.out.xs.cell 0; have x1 : w9.cell? ⟨xb, 1, none⟩ = some (.string y1) := T9.out.xs.cell 1; have x2 : w9.cell? ⟨xb, 2, none⟩ = some (.string y2) := T9.out.xs.cell 2; have x3 : w9.cell? ⟨xb, 3, none⟩ = some (.int .i64 y3) := T9.out.xs.cell 3; have x4 : w9.cell? ⟨xb, 4, none⟩ = some (.int .i64 y4) := T9.out.xs.cell 4; have x5 : w9.cell? ⟨xb, 5, none⟩ = some (.int .i64 y5) := T9.out.xs.cell 5
    go_wp2_with (first
      | (go_at_call 75; refine (free_eq ⟨y0, y1, y2, y3, y4, y5⟩ f _ HCi.out HF.out).mono ?_; rintro e w10 ⟨rfl, b10⟩; have T10 := hid (T9.out.below b10); clear b10 x0 x1 x2 x3 x4 x5))
    go_returns
    exact ⟨by rw [HV.out]; rfl, fun h => by rw [HV.out] at h; omega, T10.out.bl⟩
  · have HX : Hid (mvX c i p q = ⟨y0, p, y2, y3, q, 0⟩) := hid (by unfold mvX; rw [HYE.out])
    have HV : Hid (mvT n c (i : Int) p q = brT n (mvD c i q) ⟨y0, p, y2, y3, q, 0⟩ ∧ mvN n c (i : Int) p q = brN n (mvD c i q) ⟨y0, p, y2, y3, q, 0⟩ ∧ mvC n c (i : Int) p q = brC n (mvD c i q) ⟨y0, p, y2, y3, q, 0⟩) := hid (by
      refine ⟨by rw [HMV.out, if_neg he, if_neg (by omega), HX.out], ?_, ?_⟩
      · unfold mvN; rw [Int.toNat_natCast, HX.out]
      · unfold mvC; rw [Int.toNat_natCast, HX.out])
    have HDC : Hid (CeN n (mvD c i q)) := hid (mvD_ce HCE.out HHQ.out.1 (by rw [HYE.out]; simp only; omega))
    have HMD : Hid (putC c i ⟨(c i).item, (c i).place, (c i).lot, (c i).exp, y4 - q, (c i).hld⟩ = mvD c i q) := hid (by unfold mvD; rw [HYE.out])
    have hwr : IntKind.i64.wrap (y4 - q) = y4 - q := IntWalk.i64_in _ ⟨by have := HCi.out; have := HHQ.out; omega, by have := HCi.out; have := HHQ.out; omega⟩
    have HXK : Hid ((⟨y0, p, y2, y3, q, 0⟩ : CE6).key.ok) := hid ⟨HZi.out.1, HP.out, HZi.out.2.2⟩
    have tokF : True := trivial
    clear hf he
    go_enter Try.func57, Try.ntmps57
    go_wp2_with (first
      | (go_at_call 106; refine (isPlace_eq _ _ _ _ h1).mono ?_; rintro e w1 ⟨rfl, ew⟩; replace ew := ew.symm; subst ew)
      | (go_at_call 88; refine (implName_eq _ _ _ HP.out h2).mono ?_; rintro e w1 ⟨rfl, ew⟩; replace ew := ew.symm; subst ew)
      | (go_at_call 85; refine (isQty_eq _ _ _ h3).mono ?_; rintro e w1 ⟨rfl, ew⟩; replace ew := ew.symm; subst ew))
    have T0 : Hid (MR w sb mb s cp n lo w.heap.size (w.heap.size + 1) (some ⟨g, 0, none⟩) c y0 y1 y2 y3 y4 y5 p q ((w.alloc (.cells #[.string y0, .string y1, .string y2, .int .i64 y3, .int .i64 y4, .int .i64 y5] 28)).alloc (.cells #[.string y0, .string p, .string y2, .int .i64 y3, .int .i64 q, .int .i64 0] 28))) := hid (by
      have b1 : Below w.heap.size w (w.alloc (.cells #[.string y0, .string y1, .string y2, .int .i64 y3, .int .i64 y4, .int .i64 y5] 28)) := (Below.refl _ _).alloc (Nat.le_refl _) _
      have b2 : Below w.heap.size w ((w.alloc (.cells #[.string y0, .string y1, .string y2, .int .i64 y3, .int .i64 y4, .int .i64 y5] 28)).alloc (.cells #[.string y0, .string p, .string y2, .int .i64 y3, .int .i64 q, .int .i64 0] 28)) := b1.alloc (by simp) _
      refine ⟨b2.mono hlo, HS.out.below b2 HS.out.lt, row_below HO.out b2, HM.out.below b2 HM.out.lt, ((CB.new _ _).alloc _), ?_, by simp; omega⟩
      have : CB ((w.alloc (.cells #[.string y0, .string y1, .string y2, .int .i64 y3, .int .i64 y4, .int .i64 y5] 28)).alloc (.cells #[.string y0, .string p, .string y2, .int .i64 y3, .int .i64 q, .int .i64 0] 28)) (w.alloc (.cells #[.string y0, .string y1, .string y2, .int .i64 y3, .int .i64 y4, .int .i64 y5] 28)).heap.size #[.string y0, .string p, .string y2, .int .i64 y3, .int .i64 q, .int .i64 0] 28 := CB.new _ _
      simpa using this)
    have HXG : Hid (g ≠ w.heap.size ∧ g ≠ w.heap.size + 1) := hid ⟨by have := HGL.out.1; omega, by have := HGL.out.1; omega⟩
    clear c0 c1 c2 c3 c4 c5 s0
    generalize ((w.alloc (.cells #[.string y0, .string y1, .string y2, .int .i64 y3, .int .i64 y4, .int .i64 y5] 28)).alloc (.cells #[.string y0, .string p, .string y2, .int .i64 y3, .int .i64 q, .int .i64 0] 28)) = W0 at T0 ⊢
    generalize w.heap.size + 1 = yb at T0 HXG ⊢
    generalize hxb : w.heap.size = xb at T0 HXG ⊢
    have TD := hid T0.out.drew
    refine wp_region_noPanic ?_
    refine wp_region_held_drew (S := fun w' => (w'.cell? ⟨xb, 0, none⟩ = some (.string y0)) ∧ (w'.cell? ⟨xb, 1, none⟩ = some (.string y1)) ∧ (w'.cell? ⟨xb, 2, none⟩ = some (.string y2)) ∧ (w'.cell? ⟨xb, 3, none⟩ = some (.int .i64 y3)) ∧ (w'.cell? ⟨xb, 4, none⟩ = some (.int .i64 y4)) ∧ (w'.cell? ⟨xb, 5, none⟩ = some (.int .i64 y5)) ∧ (w'.cell? ⟨yb, 0, none⟩ = some (.string y0)) ∧ (w'.cell? ⟨yb, 1, none⟩ = some (.string p)) ∧ (w'.cell? ⟨yb, 2, none⟩ = some (.string y2)) ∧ (w'.cell? ⟨yb, 3, none⟩ = some (.int .i64 y3)) ∧ (w'.cell? ⟨yb, 4, none⟩ = some (.int .i64 q)) ∧ (w'.cell? ⟨yb, 5, none⟩ = some (.int .i64 0))) (by kernel_rfl) (by exact ⟨TD.out.xs.cell 0, TD.out.xs.cell 1, TD.out.xs.cell 2, TD.out.xs.cell 3, TD.out.xs.cell 4, TD.out.xs.cell 5, TD.out.ys.cell 0, TD.out.ys.cell 1, TD.out.ys.cell 2, TD.out.ys.cell 3, TD.out.ys.cell 4, TD.out.ys.cell 5⟩) (fun hHeld => ?_)
    generalize hVD : W0.drew = VD at TD hHeld ⊢
    clear hVD
    refine wpAnyH_take (i := 0) (oi := { dst := some 45, op := Go.Op.load 28 (Go.Operand.tmp 10), type := 28, pos := "l15_stock.go:211", after := #[], guard := none }) (v := ?_) rfl (by kernel_rfl) (by kernel_rfl) (by kernel_rfl) (fun _ _ _ h => h) (Or.inl ⟨by rfl, ?_⟩) (by assumption) ?_
    rotate_left
    · (intro w hSw; (try dsimp only at hSw); go_simp <;> try with_reducible rfl)
    try simp only [Act.put, List.setIfInBounds_toArray, List.set_cons_zero, List.set_cons_succ]
    refine wpAnyH_take (i := 2) (oi := { dst := some 47, op := Go.Op.load 28 (Go.Operand.tmp 9), type := 28, pos := "l15_stock.go:211", after := #[], guard := none }) (v := ?_) rfl (by kernel_rfl) (by kernel_rfl) (by kernel_rfl) (fun _ _ _ h => h) (Or.inl ⟨by rfl, ?_⟩) (by assumption) ?_
    rotate_left
    · (intro w hSw; (try dsimp only at hSw); go_simp <;> try with_reducible rfl)
    try simp only [Act.put, List.setIfInBounds_toArray, List.set_cons_zero, List.set_cons_succ]
    refine wpAnyH_ready (rs := [1]) (by kernel_rfl) (by simp) ?_
    refine AllReadyH.cons (o := { dst := some 46, op := Go.Op.call { callee := Go.Callee.value (Go.Operand.func 107), args := #[Go.Operand.tmp 45], argTypes := #[28] }, type := 137, pos := "l15_stock.go:211", after := #[{ on := 0, ground := Go.Ground.data }], guard := none }) rfl (fun K hK => ?_) (AllReadyH.nil)
    go_simp
    refine (key_eq y0 p y2 y3 q 0 _).mono ?_
    rintro e w8 ⟨rfl, b8⟩
    have T8 := hid (TD.out.below b8)
    clear b8
    first | refine hK.out _ _ (by exact ⟨T8.out.xs.cell 0, T8.out.xs.cell 1, T8.out.xs.cell 2, T8.out.xs.cell 3, T8.out.xs.cell 4, T8.out.xs.cell 5, T8.out.ys.cell 0, T8.out.ys.cell 1, T8.out.ys.cell 2, T8.out.ys.cell 3, T8.out.ys.cell 4, T8.out.ys.cell 5⟩) (fun hHeld => ?_) | (go_wp2_with fail; refine hK.out _ _ (by exact ⟨T8.out.xs.cell 0, T8.out.xs.cell 1, T8.out.xs.cell 2, T8.out.xs.cell 3, T8.out.xs.cell 4, T8.out.xs.cell 5, T8.out.ys.cell 0, T8.out.ys.cell 1, T8.out.ys.cell 2, T8.out.ys.cell 3, T8.out.ys.cell 4, T8.out.ys.cell 5⟩) (fun hHeld => ?_))
    clear hK K
    try simp only [Act.put, List.setIfInBounds_toArray, List.set_cons_zero, List.set_cons_succ]
    refine wpAnyH_ready (rs := [3]) (by kernel_rfl) (by simp) ?_
    refine AllReadyH.cons (o := { dst := some 48, op := Go.Op.call { callee := Go.Callee.value (Go.Operand.func 107), args := #[Go.Operand.tmp 47], argTypes := #[28] }, type := 137, pos := "l15_stock.go:211", after := #[{ on := 2, ground := Go.Ground.data }, { on := 1, ground := Go.Ground.chain }], guard := none }) rfl (fun K hK => ?_) (AllReadyH.nil)
    go_simp
    refine (key_eq y0 y1 y2 y3 y4 y5 _).mono ?_
    rintro e w9 ⟨rfl, b9⟩
    have T9 := hid (T8.out.below b9)
    clear b9
    first | refine hK.out _ _ (by exact ⟨T9.out.xs.cell 0, T9.out.xs.cell 1, T9.out.xs.cell 2, T9.out.xs.cell 3, T9.out.xs.cell 4, T9.out.xs.cell 5, T9.out.ys.cell 0, T9.out.ys.cell 1, T9.out.ys.cell 2, T9.out.ys.cell 3, T9.out.ys.cell 4, T9.out.ys.cell 5⟩) (fun hHeld => ?_) | (go_wp2_with fail; refine hK.out _ _ (by exact ⟨T9.out.xs.cell 0, T9.out.xs.cell 1, T9.out.xs.cell 2, T9.out.xs.cell 3, T9.out.xs.cell 4, T9.out.xs.cell 5, T9.out.ys.cell 0, T9.out.ys.cell 1, T9.out.ys.cell 2, T9.out.ys.cell 3, T9.out.ys.cell 4, T9.out.ys.cell 5⟩) (fun hHeld => ?_))
    clear hK K
    try simp only [Act.put, List.setIfInBounds_toArray, List.set_cons_zero, List.set_cons_succ]
    refine wpAnyH_take (i := 4) (oi := { dst := some 49, op := Go.Op.binOp Go.BinOp.eql 137 (Go.Operand.tmp 46) (Go.Operand.tmp 48) 137, type := 4, pos := "l15_stock.go:211", after := #[{ on := 1, ground := Go.Ground.data }, { on := 3, ground := Go.Ground.data }], guard := none }) (v := ?_) rfl (by kernel_rfl) (by kernel_rfl) (by kernel_rfl) (fun _ _ _ h => h) (Or.inl ⟨by rfl, ?_⟩) (by assumption) ?_
    rotate_left
    · (intro w hSw; (try dsimp only at hSw); go_simp <;> try with_reducible rfl)
    try simp only [Act.put, List.setIfInBounds_toArray, List.set_cons_zero, List.set_cons_succ]
    refine wpAnyH_done (by kernel_rfl) ?_ _
    refine NoPanic.normal ?_
    clear hHeld
    have x0 : w9.cell? ⟨xb, 0, none⟩ = some (.string y0) := T9.out.xs.cell 0; have x1 : w9.cell? ⟨xb, 1, none⟩ = some (.string y1) := T9.out.xs.cell 1; have x2 : w9.cell? ⟨xb, 2, none⟩ = some (.string y2) := T9.out.xs.cell 2; have x3 : w9.cell? ⟨xb, 3, none⟩ = some (.int .i64 y3) := T9.out.xs.cell 3; have x4 : w9.cell? ⟨xb, 4, none⟩ = some (.int .i64 y4) := T9.out.xs.cell 4; have x5 : w9.cell? ⟨xb, 5, none⟩ = some (.int .i64 y5) := T9.out.xs.cell 5
    go_wp2_with (first
      | (go_at_call 75; refine (free_eq ⟨y0, y1, y2, y3, y4, y5⟩ f _ HCi.out HF.out).mono ?_; rintro e w10 ⟨rfl, b10⟩; have T10 := hid (T9.out.below b10); clear b10 x0 x1 x2 x3 x4 x5; have s1 : w10.cell? ⟨sb, 0, none⟩ = some (.slice (some ⟨g, 0, none⟩) n cp) := T10.out.sr.cell 0; have k4 : w10.cell? ⟨g, i * 6 + 4, none⟩ = some (.int .i64 y4) := (by obtain ⟨_, e0, _, hro⟩ := own_ro2 T10.out.ro (by omega); cases e0; have := (hro.el HIN.out).2.2.2.2.1; rw [HYE.out] at this; exact this); have f4 : w10.frozen? ⟨g, i * 6 + 4, none⟩ = false := (by obtain ⟨_, e0, _, hro⟩ := own_ro2 T10.out.ro (by omega); cases e0; exact hro.fr (i * 6 + 4)); have HNE : Hid (sb ≠ g ∧ xb ≠ g ∧ yb ≠ g ∧ mb ≠ g) := hid (by obtain ⟨_, e0, _, hro⟩ := own_ro2 T10.out.ro (by omega); cases e0; obtain ⟨cs, q1, _⟩ := hro; exact ⟨T10.out.sr.ne_ty q1 (by decide), fun e => HXG.out.1 e.symm, fun e => HXG.out.2 e.symm, fun e => by obtain ⟨es, ck, hm⟩ := T10.out.mp.isMap; unfold CB at q1; rw [← e, hm] at q1; cases q1⟩); have HQQ : Hid (CB (w10.setCell ⟨g, i * 6 + 4, none⟩ (.int .i64 (y4 - q))) sb #[.slice (some ⟨g, 0, none⟩) n cp, .map (some mb)] 134 ∧ (w10.setCell ⟨g, i * 6 + 4, none⟩ (.int .i64 (y4 - q))).ownsRow lo 28 6 (.slice (some ⟨g, 0, none⟩) n cp) n (rowCE6 (mvD c i q) n) ∧ MK (w10.setCell ⟨g, i * 6 + 4, none⟩ (.int .i64 (y4 - q))) mb s (plF c n) ∧ CB (w10.setCell ⟨g, i * 6 + 4, none⟩ (.int .i64 (y4 - q))) yb #[.string y0, .string p, .string y2, .int .i64 y3, .int .i64 q, .int .i64 0] 28 ∧ Below lo w (w10.setCell ⟨g, i * 6 + 4, none⟩ (.int .i64 (y4 - q))) ∧ lo ≤ (w10.setCell ⟨g, i * 6 + 4, none⟩ (.int .i64 (y4 - q))).heap.size) := hid ⟨T10.out.sr.other _ HNE.out.1, (by have := row_set4 T10.out.ro HIN.out (y4 - q); rw [HMD.out] at this; exact this), T10.out.mp.block (hs_set HNE.out.2.2.2), T10.out.ys.other _ HNE.out.2.2.1, T10.out.bl.setCell HGL.out.2 _, by have := T10.out.lt; simp; exact this⟩; have z0 := HQQ.out.2.2.2.1.cell 0; have z1 := HQQ.out.2.2.2.1.cell 1; have z2 := HQQ.out.2.2.2.1.cell 2; have z3 := HQQ.out.2.2.2.1.cell 3; have z4 := HQQ.out.2.2.2.1.cell 4; have z5 := HQQ.out.2.2.2.1.cell 5)
      | (go_at_call 108; refine (bring_any sb mb s cp n lo (some ⟨g, 0, none⟩) c (mvD c i q) ⟨y0, p, y2, y3, q, 0⟩ _ hn hcp HDI.out (fun j _ => mvD_key c i q j) HXK.out HDC.out HHQ.out HQQ.out.1 HQQ.out.2.1 HQQ.out.2.2.1 HQQ.out.2.2.2.2.2 hsb).mono ?_; rintro e w11 ⟨rfl, r2, b2⟩; have HR2 := hid (And.intro r2 (HQQ.out.2.2.2.2.1.trans b2)); clear r2 b2))
    go_returns
    rw [HV.out.1, HV.out.2.1, HV.out.2.2]
    exact ⟨rfl, HR2.out.1, HR2.out.2⟩
end Go.Proofs.Ytpmnnfjabppahaa
