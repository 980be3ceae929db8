/- Move of the model. -/
import Derived.Test.YtpmnnfjabppahaaMb
import Derived.Test.YtpmnnfjabppahaaBe
namespace Go.Proofs.Ytpmnnfjabppahaa
open Go Go.ChangeShapes Go.WideShapes Go.ChangeAt Go.RowKit
set_option linter.unusedVariables false
set_option linter.unusedSimpArgs false

theorem mv_swap {n i : Nat} {c : Nat → CE6} {p : ByteArray} {q : Int} (hi : i < n) (hne : ¬ p = (c i).place) :
    brT n (mvD c i q) (mvX c i p q) = brT n c (mvX c i p q) ∧ brN n (mvD c i q) (mvX c i p q) = brN n c (mvX c i p q) ∧ n ≤ brN n c (mvX c i p q) ∧ brC n c (mvX c i p q) i = c i ∧ (∀ j, putC (brC n c (mvX c i p q)) i ⟨(c i).item, (c i).place, (c i).lot, (c i).exp, (c i).qty - q, (c i).hld⟩ j = brC n (mvD c i q) (mvX c i p q) j) := by
  have hf : fnd n (mvD c i q) (mvX c i p q).key = fnd n c (mvX c i p q).key := fnd_congr (fun j _ => mvD_key c i q j)
  rcases fnd_cases n c (mvX c i p q).key with ⟨h1, _⟩ | ⟨k, h1, hk, h3⟩
  · obtain ⟨a1, a2, a3⟩ := br_no h1
    obtain ⟨d1, d2, d3⟩ := br_no (hf.trans h1)
    refine ⟨d1.trans a1.symm, d2.trans a2.symm, by rw [a2]; omega, ?_, fun j => ?_⟩
    · rw [a3]; unfold putC; rw [if_neg (by omega)]
    · rw [a3, d3]
      unfold mvD putC
      by_cases e : j = i
      · subst e; simp; intro e2; omega
      · simp [e]
  · have hki : k ≠ i := fun e => by subst e; apply hne; have := congrArg K3.pl h3; exact this.symm
    obtain ⟨a1, a2, a3⟩ := br_at h1
    obtain ⟨d1, d2, d3⟩ := br_at (hf.trans h1)
    have hd : mvD c i q k = c k := by unfold mvD putC; rw [if_neg hki]
    refine ⟨by rw [d1, a1, hd], d2.trans a2.symm, by rw [a2]; omega, ?_, fun j => ?_⟩
    · rw [a3]; unfold putC; rw [if_neg (Ne.symm hki)]
    · rw [a3, d3, hd]
      unfold mvD putC
      by_cases e : j = i
      · subst e; simp [Ne.symm hki]
      · simp [e]
set_option maxRecDepth 20000 in
set_option maxHeartbeats 8000000 in
theorem specMove_any (a : Addr) (len cap : Nat) (c : Nat → CE6) (at_ : Int) (p : ByteArray) (q : Int) (w : World) (h : (len : Int) ≤ 1048576) (hr : CEr w (some a) len c) (hz : CZ c) (hp : p.size ≤ maxLen) :
    Calls Try.prog 17 #[.slice (some a) len cap, .int .i64 at_, .string p, .int .i64 q] w fun e w' => ∃ ad cp, e = .returned (.tuple #[.slice ad (mwM len c at_ p q) cp, .int .i64 (mwV len c at_ p q)]) ∧ OwnCE6 w' w.heap.size ad (mwM len c at_ p q) (mwC len c at_ p q) ∧ Below w.heap.size w w' := by
  have HR := hid hr
  have HZ := hid hz
  have HP := hid hp
  clear hr hz hp
  cases hs : stB len c
  · have HM : Hid (mwM len c at_ p q = 0 ∧ mwV len c at_ p q = 1) := hid ⟨by unfold mwM; rw [hs]; rfl, by unfold mwV; rw [hs]; rfl⟩
    have HS := hid hs
    clear hs
    go_enter Try.func17, Try.ntmps17
    go_wp2_with (go_at_call 35; refine (specStock_eq _ len cap c _ _ h HR.out HZ.out HS.out).mono ?_; rintro e w1 ⟨rfl, b1⟩; have HB1 := hid b1; clear b1)
    go_returns
    rw [HM.out.1, HM.out.2]
    first | exact ⟨_, _, rfl, .inl rfl, HB1.out.alloc HB1.out.size _⟩ | exact ⟨_, ⟨_, rfl⟩, .inl rfl, HB1.out.alloc HB1.out.size _⟩
  have hsp := stB_p hs
  have hn100 := hsp.1.1
  have hn100I : (len : Int) ≤ 100 := by omega
  have HCN := hid (ceN_of hsp.1)
  have HMv : Hid (mwV len c at_ p q = mvT len c at_ p q ∧ (mvT len c at_ p q = 0 → mwM len c at_ p q = mvN len c at_ p q ∧ mwC len c at_ p q = mvC len c at_ p q) ∧ (mvT len c at_ p q ≠ 0 → mwM len c at_ p q = len ∧ mwC len c at_ p q = c)) := hid (by
    have e : mwV len c at_ p q = mvT len c at_ p q := by unfold mwV; rw [if_pos hs]
    refine ⟨e, fun h0 => ⟨?_, ?_⟩, fun h0 => ⟨?_, ?_⟩⟩
    · unfold mwM; rw [if_pos hs, if_pos h0]
    · unfold mwC; rw [if_pos (e.trans h0)]
    · unfold mwM; rw [if_pos hs, if_neg h0]
    · unfold mwC; rw [if_neg (by rw [e]; exact h0)])
  have HS := hid hs
  clear hs hsp
  cases h1 : inB at_ 0 ((len : Int) - 1)
  · have HT : Hid (mvT len c at_ p q = 2) := hid (by unfold mvT mvB; simp [h1])
    go_enter Try.func17, Try.ntmps17
    go_wp2_with (first
      | (go_at_call 35; refine (specStock_eq _ len cap c _ _ h HR.out HZ.out HS.out).mono ?_; rintro e w1 ⟨rfl, b1⟩; have HB1 := hid b1; clear b1)
      | (go_at_call 63; refine (l1In_eq _ _ _ _ _ h1).mono ?_; rintro e w2 ⟨rfl, ew⟩; replace ew := ew.symm; subst ew)
      | (go_at_call 68; refine (copyS_any a len cap c _ h (HR.out.below HB1.out)).mono ?_; rintro e w5 ⟨v5, rfl, o5, b5⟩; obtain ⟨ad5, cp5, rfl, hcp5, o5⟩ := ownCE6_of o5; have HO5 := hid (o5.mono (l := w.heap.size) HB1.out.size); have HB5 := hid (bel_on HB1.out b5); clear o5 b5))
    go_returns
    rw [HMv.out.1, HT.out, (HMv.out.2.2 (by rw [HT.out]; omega)).1, (HMv.out.2.2 (by rw [HT.out]; omega)).2]
    first | exact ⟨_, _, rfl, HO5.out, HB5.out⟩ | exact ⟨_, ⟨_, rfl⟩, HO5.out, HB5.out⟩
  cases h2 : nameB p
  · have HT : Hid (mvT len c at_ p q = 2) := hid (by unfold mvT mvB; simp [h1, h2])
    go_enter Try.func17, Try.ntmps17
    go_wp2_with (first
      | (go_at_call 35; refine (specStock_eq _ len cap c _ _ h HR.out HZ.out HS.out).mono ?_; rintro e w1 ⟨rfl, b1⟩; have HB1 := hid b1; clear b1)
      | (go_at_call 63; refine (l1In_eq _ _ _ _ _ h1).mono ?_; rintro e w2 ⟨rfl, ew⟩; replace ew := ew.symm; subst ew)
      | (go_at_call 66; refine (specName_eq _ _ _ HP.out h2).mono ?_; rintro e w2 ⟨rfl, ew⟩; replace ew := ew.symm; subst ew)
      | (go_at_call 68; refine (copyS_any a len cap c _ h (HR.out.below HB1.out)).mono ?_; rintro e w5 ⟨v5, rfl, o5, b5⟩; obtain ⟨ad5, cp5, rfl, hcp5, o5⟩ := ownCE6_of o5; have HO5 := hid (o5.mono (l := w.heap.size) HB1.out.size); have HB5 := hid (bel_on HB1.out b5); clear o5 b5))
    go_returns
    rw [HMv.out.1, HT.out, (HMv.out.2.2 (by rw [HT.out]; omega)).1, (HMv.out.2.2 (by rw [HT.out]; omega)).2]
    first | exact ⟨_, _, rfl, HO5.out, HB5.out⟩ | exact ⟨_, ⟨_, rfl⟩, HO5.out, HB5.out⟩
  have hat : 0 ≤ at_ ∧ at_ ≤ (len : Int) - 1 := by unfold inB at h1; simpa using h1
  obtain ⟨i, rfl⟩ : ∃ i : Nat, at_ = (i : Int) := ⟨at_.toNat, by omega⟩
  have hin : i < len := by omega
  have hinI : (i : Int) < (len : Int) := by omega
  obtain ⟨kb, off, eab, _⟩ := HR.out.addr (by omega)
  cases eab
  obtain ⟨y, hy⟩ : ∃ y, c i = y := ⟨_, rfl⟩
  have HYE := hid hy
  have HCi := hid (HCN.out i hin)
  rw [hy] at HCi
  clear hy
  obtain ⟨y0, y1, y2, y3, y4, y5⟩ := y
  have HYC : Hid (∀ V, Below w.heap.size w V → V.cell? ⟨kb, off + i * 6, none⟩ = some (.string y0) ∧ V.cell? ⟨kb, off + i * 6 + 1, none⟩ = some (.string y1) ∧ V.cell? ⟨kb, off + i * 6 + 2, none⟩ = some (.string y2) ∧ V.cell? ⟨kb, off + i * 6 + 3, none⟩ = some (.int .i64 y3) ∧ V.cell? ⟨kb, off + i * 6 + 4, none⟩ = some (.int .i64 y4) ∧ V.cell? ⟨kb, off + i * 6 + 5, none⟩ = some (.int .i64 y5)) := hid (fun V hV => by have := (HR.out.below hV).cell hin; rw [HYE.out] at this; exact this)
  have HIN := hid hin
  by_cases he : y1 = p
  · subst he
    have hpe : (y1.toList == y1.toList) = true := lists_t rfl
    have HT : Hid (mvT len c (i : Int) y1 q = 2) := hid (by unfold mvT; simp [HYE.out])
    go_enter Try.func17, Try.ntmps17
    go_wp2_with (first
      | (go_at_call 35; refine (specStock_eq _ len cap c _ _ h HR.out HZ.out HS.out).mono ?_; rintro e w1 ⟨rfl, b1⟩; have HB1 := hid b1; clear b1; have y1_ := (HYC.out _ HB1.out).2.1)
      | (go_at_call 63; refine (l1In_eq _ _ _ _ _ h1).mono ?_; rintro e w2 ⟨rfl, ew⟩; replace ew := ew.symm; subst ew)
      | (go_at_call 66; refine (specName_eq _ _ _ HP.out h2).mono ?_; rintro e w2 ⟨rfl, ew⟩; replace ew := ew.symm; subst ew)
      | (go_at_call 68; refine (copyS_any ⟨kb, off, none⟩ len cap c _ h (HR.out.below HB1.out)).mono ?_; rintro e w5 ⟨v5, rfl, o5, b5⟩; obtain ⟨ad5, cp5, rfl, hcp5, o5⟩ := ownCE6_of o5; have HO5 := hid (o5.mono (l := w.heap.size) HB1.out.size); have HB5 := hid (bel_on HB1.out b5); clear o5 b5))
    go_returns
    rw [HMv.out.1, HT.out, (HMv.out.2.2 (by rw [HT.out]; omega)).1, (HMv.out.2.2 (by rw [HT.out]; omega)).2]
    first | exact ⟨_, _, rfl, HO5.out, HB5.out⟩ | exact ⟨_, ⟨_, rfl⟩, HO5.out, HB5.out⟩
  have hpe : (y1.toList == p.toList) = false := lists_f he
  cases h3 : inB q 0 1000000
  · have HT : Hid (mvT len c (i : Int) p q = 2) := hid (by unfold mvT mvB; simp [h1, h2, h3])
    go_enter Try.func17, Try.ntmps17
    go_wp2_with (first
      | (go_at_call 35; refine (specStock_eq _ len cap c _ _ h HR.out HZ.out HS.out).mono ?_; rintro e w1 ⟨rfl, b1⟩; have HB1 := hid b1; clear b1; have y1_ := (HYC.out _ HB1.out).2.1)
      | (go_at_call 63; refine (l1In_eq _ _ _ _ _ h1).mono ?_; rintro e w2 ⟨rfl, ew⟩; replace ew := ew.symm; subst ew)
      | (go_at_call 66; refine (specName_eq _ _ _ HP.out h2).mono ?_; rintro e w2 ⟨rfl, ew⟩; replace ew := ew.symm; subst ew)
      | (go_at_call 67; refine (l12Qty_eq _ _ _ h3).mono ?_; rintro e w2 ⟨rfl, ew⟩; replace ew := ew.symm; subst ew)
      | (go_at_call 68; refine (copyS_any ⟨kb, off, none⟩ len cap c _ h (HR.out.below HB1.out)).mono ?_; rintro e w5 ⟨v5, rfl, o5, b5⟩; obtain ⟨ad5, cp5, rfl, hcp5, o5⟩ := ownCE6_of o5; have HO5 := hid (o5.mono (l := w.heap.size) HB1.out.size); have HB5 := hid (bel_on HB1.out b5); clear o5 b5))
    go_returns
    rw [HMv.out.1, HT.out, (HMv.out.2.2 (by rw [HT.out]; omega)).1, (HMv.out.2.2 (by rw [HT.out]; omega)).2]
    first | exact ⟨_, _, rfl, HO5.out, HB5.out⟩ | exact ⟨_, ⟨_, rfl⟩, HO5.out, HB5.out⟩
  have hq : 0 ≤ q ∧ q ≤ 1000000 := by unfold inB at h3; simpa using h3
  have HHQ := hid hq
  obtain ⟨f, hf⟩ : ∃ f, y4 - y5 = f := ⟨_, rfl⟩
  have hci := HCi.out
  simp only at hci
  have hwf : IntKind.i64.wrap (y4 - y5) = f := by
    have : IntKind.i64.wrap (y4 - y5) = y4 - y5 := IntWalk.i64_in _ ⟨by omega, by omega⟩
    rw [this, hf]
  have hwq : IntKind.i64.wrap (y4 - q) = y4 - q := IntWalk.i64_in _ ⟨by omega, by omega⟩
  clear hci
  have hmv : mvT len c (i : Int) p q = if f < q then 3 else brT len (mvD c i q) (mvX c i p q) := by
    unfold mvT mvB; rw [h1, h2, h3, Int.toNat_natCast, HYE.out]; simp only [Bool.and_self, if_true, hf]; rw [if_neg (fun e => he e.symm)]
  by_cases hlt : f < q
  · have HT : Hid (mvT len c (i : Int) p q = 3) := hid (by rw [hmv, if_pos hlt])
    clear hf hmv hq
    go_enter Try.func17, Try.ntmps17
    go_wp2_with (first
      | (go_at_call 35; refine (specStock_eq _ len cap c _ _ h HR.out HZ.out HS.out).mono ?_; rintro e w1 ⟨rfl, b1⟩; have HB1 := hid b1; clear b1; have y1_ := (HYC.out _ HB1.out).2.1)
      | (go_at_call 63; refine (l1In_eq _ _ _ _ _ h1).mono ?_; rintro e w2 ⟨rfl, ew⟩; replace ew := ew.symm; subst ew)
      | (go_at_call 66; refine (specName_eq _ _ _ HP.out h2).mono ?_; rintro e w2 ⟨rfl, ew⟩; replace ew := ew.symm; subst ew)
      | (go_at_call 67; refine (l12Qty_eq _ _ _ h3).mono ?_; rintro e w2 ⟨rfl, ew⟩; replace ew := ew.symm; subst ew))
    have HB2 : Hid (Below w.heap.size w w1.drew) := hid HB1.out.drew
    refine wp_region_noPanic ?_
    refine wp_region_held_drew (S := fun w' => (w'.cell? ⟨kb, off + i * 6 + 4, none⟩ = some (.int .i64 y4)) ∧ (w'.cell? ⟨kb, off + i * 6 + 5, none⟩ = some (.int .i64 y5))) (by kernel_rfl) (by exact ⟨(HYC.out _ HB2.out).2.2.2.2.1, (HYC.out _ HB2.out).2.2.2.2.2⟩) (fun hHeld => ?_)
    generalize hVD : w1.drew = VD at HB2 hHeld ⊢
    clear hVD
    refine wpAnyH_take (i := 0) (oi := { dst := some 44, op := Go.Op.move (Go.Operand.tmp 0), type := 24, pos := "l15_stock.go:132", after := #[], guard := none }) (v := ?_) rfl (by kernel_rfl) (by kernel_rfl) (by kernel_rfl) (fun _ _ _ h => h) (Or.inl ⟨by rfl, ?_⟩) (by assumption) ?_
    rotate_left
    · (intro w hSw; (try dsimp only at hSw); go_simp <;> try with_reducible rfl)
    try simp only [Act.put, List.setIfInBounds_toArray, List.set_cons_zero, List.set_cons_succ]
    refine wpAnyH_take (i := 1) (oi := { dst := some 45, op := Go.Op.move (Go.Operand.tmp 1), type := 3, pos := "l15_stock.go:132", after := #[], guard := none }) (v := ?_) rfl (by kernel_rfl) (by kernel_rfl) (by kernel_rfl) (fun _ _ _ h => h) (Or.inl ⟨by rfl, ?_⟩) (by assumption) ?_
    rotate_left
    · (intro w hSw; (try dsimp only at hSw); go_simp <;> try with_reducible rfl)
    try simp only [Act.put, List.setIfInBounds_toArray, List.set_cons_zero, List.set_cons_succ]
    refine wpAnyH_take (i := 2) (oi := { dst := some 46, op := Go.Op.indexAddr 24 (Go.Operand.tmp 44) (Go.Operand.tmp 45), type := 0, pos := "l15_stock.go:132", after := #[{ on := 0, ground := Go.Ground.data }, { on := 1, ground := Go.Ground.data }], guard := none }) (v := ?_) rfl (by kernel_rfl) (by kernel_rfl) (by kernel_rfl) (fun _ _ _ h => h) (Or.inl ⟨by rfl, ?_⟩) (by assumption) ?_
    rotate_left
    · (intro w hSw; (try dsimp only at hSw); go_simp <;> try with_reducible rfl)
    try simp only [Act.put, List.setIfInBounds_toArray, List.set_cons_zero, List.set_cons_succ]
    refine wpAnyH_take (i := 3) (oi := { dst := some 47, op := Go.Op.fieldAddr 28 (Go.Operand.tmp 46) 4, type := 0, pos := "l15_stock.go:132", after := #[{ on := 2, ground := Go.Ground.data }], guard := none }) (v := ?_) rfl (by kernel_rfl) (by kernel_rfl) (by kernel_rfl) (fun _ _ _ h => h) (Or.inl ⟨by rfl, ?_⟩) (by assumption) ?_
    rotate_left
    · (intro w hSw; (try dsimp only at hSw); go_simp <;> try with_reducible rfl)
    try simp only [Act.put, List.setIfInBounds_toArray, List.set_cons_zero, List.set_cons_succ]
    refine wpAnyH_take (i := 4) (oi := { dst := some 48, op := Go.Op.load 3 (Go.Operand.tmp 47), type := 3, pos := "l15_stock.go:132", after := #[{ on := 3, ground := Go.Ground.data }], guard := none }) (v := ?_) rfl (by kernel_rfl) (by kernel_rfl) (by kernel_rfl) (fun _ _ _ h => h) (Or.inl ⟨by rfl, ?_⟩) (by assumption) ?_
    rotate_left
    · (intro w hSw; (try dsimp only at hSw); go_simp <;> try with_reducible rfl)
    try simp only [Act.put, List.setIfInBounds_toArray, List.set_cons_zero, List.set_cons_succ]
    refine wpAnyH_take (i := 5) (oi := { dst := some 49, op := Go.Op.move (Go.Operand.tmp 0), type := 24, pos := "l15_stock.go:132", after := #[], guard := none }) (v := ?_) rfl (by kernel_rfl) (by kernel_rfl) (by kernel_rfl) (fun _ _ _ h => h) (Or.inl ⟨by rfl, ?_⟩) (by assumption) ?_
    rotate_left
    · (intro w hSw; (try dsimp only at hSw); go_simp <;> try with_reducible rfl)
    try simp only [Act.put, List.setIfInBounds_toArray, List.set_cons_zero, List.set_cons_succ]
    refine wpAnyH_take (i := 6) (oi := { dst := some 50, op := Go.Op.move (Go.Operand.tmp 1), type := 3, pos := "l15_stock.go:132", after := #[], guard := none }) (v := ?_) rfl (by kernel_rfl) (by kernel_rfl) (by kernel_rfl) (fun _ _ _ h => h) (Or.inl ⟨by rfl, ?_⟩) (by assumption) ?_
    rotate_left
    · (intro w hSw; (try dsimp only at hSw); go_simp <;> try with_reducible rfl)
    try simp only [Act.put, List.setIfInBounds_toArray, List.set_cons_zero, List.set_cons_succ]
    refine wpAnyH_take (i := 7) (oi := { dst := some 51, op := Go.Op.indexAddr 24 (Go.Operand.tmp 49) (Go.Operand.tmp 50), type := 0, pos := "l15_stock.go:132", after := #[{ on := 5, ground := Go.Ground.data }, { on := 6, ground := Go.Ground.data }], guard := none }) (v := ?_) rfl (by kernel_rfl) (by kernel_rfl) (by kernel_rfl) (fun _ _ _ h => h) (Or.inl ⟨by rfl, ?_⟩) (by assumption) ?_
    rotate_left
    · (intro w hSw; (try dsimp only at hSw); go_simp <;> try with_reducible rfl)
    try simp only [Act.put, List.setIfInBounds_toArray, List.set_cons_zero, List.set_cons_succ]
    refine wpAnyH_take (i := 8) (oi := { dst := some 52, op := Go.Op.fieldAddr 28 (Go.Operand.tmp 51) 5, type := 0, pos := "l15_stock.go:132", after := #[{ on := 7, ground := Go.Ground.data }], guard := none }) (v := ?_) rfl (by kernel_rfl) (by kernel_rfl) (by kernel_rfl) (fun _ _ _ h => h) (Or.inl ⟨by rfl, ?_⟩) (by assumption) ?_
    rotate_left
    · (intro w hSw; (try dsimp only at hSw); go_simp <;> try with_reducible rfl)
    try simp only [Act.put, List.setIfInBounds_toArray, List.set_cons_zero, List.set_cons_succ]
    refine wpAnyH_take (i := 9) (oi := { dst := some 53, op := Go.Op.load 3 (Go.Operand.tmp 52), type := 3, pos := "l15_stock.go:132", after := #[{ on := 8, ground := Go.Ground.data }], guard := none }) (v := ?_) rfl (by kernel_rfl) (by kernel_rfl) (by kernel_rfl) (fun _ _ _ h => h) (Or.inl ⟨by rfl, ?_⟩) (by assumption) ?_
    rotate_left
    · (intro w hSw; (try dsimp only at hSw); go_simp <;> try with_reducible rfl)
    try simp only [Act.put, List.setIfInBounds_toArray, List.set_cons_zero, List.set_cons_succ]
    refine wpAnyH_take (i := 10) (oi := { dst := some 54, op := Go.Op.binOp Go.BinOp.sub 3 (Go.Operand.tmp 48) (Go.Operand.tmp 53) 3, type := 3, pos := "l15_stock.go:132", after := #[{ on := 4, ground := Go.Ground.data }, { on := 9, ground := Go.Ground.data }], guard := none }) (v := ?_) rfl (by kernel_rfl) (by kernel_rfl) (by kernel_rfl) (fun _ _ _ h => h) (Or.inl ⟨by rfl, ?_⟩) (by assumption) ?_
    rotate_left
    · (intro w hSw; (try dsimp only at hSw); go_simp <;> try with_reducible rfl)
    try simp only [Act.put, List.setIfInBounds_toArray, List.set_cons_zero, List.set_cons_succ]
    refine wpAnyH_take (i := 11) (oi := { dst := some 55, op := Go.Op.move (Go.Operand.tmp 3), type := 3, pos := "l15_stock.go:132", after := #[], guard := none }) (v := ?_) rfl (by kernel_rfl) (by kernel_rfl) (by kernel_rfl) (fun _ _ _ h => h) (Or.inl ⟨by rfl, ?_⟩) (by assumption) ?_
    rotate_left
    · (intro w hSw; (try dsimp only at hSw); go_simp <;> try with_reducible rfl)
    try simp only [Act.put, List.setIfInBounds_toArray, List.set_cons_zero, List.set_cons_succ]
    refine wpAnyH_take (i := 12) (oi := { dst := some 56, op := Go.Op.binOp Go.BinOp.lss 3 (Go.Operand.tmp 54) (Go.Operand.tmp 55) 3, type := 4, pos := "l15_stock.go:132", after := #[{ on := 10, ground := Go.Ground.data }, { on := 11, ground := Go.Ground.data }], guard := none }) (v := ?_) rfl (by kernel_rfl) (by kernel_rfl) (by kernel_rfl) (fun _ _ _ h => h) (Or.inl ⟨by rfl, ?_⟩) (by assumption) ?_
    rotate_left
    · (intro w hSw; (try dsimp only at hSw); go_simp <;> try with_reducible rfl)
    try simp only [Act.put, List.setIfInBounds_toArray, List.set_cons_zero, List.set_cons_succ]
    refine wpAnyH_done (by kernel_rfl) ?_ _
    refine NoPanic.normal ?_
    clear hHeld
    go_wp2_with (go_at_call 68; refine (copyS_any ⟨kb, off, none⟩ len cap c _ h (HR.out.below HB2.out)).mono ?_; rintro e w5 ⟨v5, rfl, o5, b5⟩; obtain ⟨ad5, cp5, rfl, hcp5, o5⟩ := ownCE6_of o5; have HO5 := hid (o5.mono (l := w.heap.size) HB2.out.size); have HB5 := hid (bel_on HB2.out b5); clear o5 b5)
    go_returns
    rw [HMv.out.1, HT.out, (HMv.out.2.2 (by rw [HT.out]; omega)).1, (HMv.out.2.2 (by rw [HT.out]; omega)).2]
    first | exact ⟨_, _, rfl, HO5.out, HB5.out⟩ | exact ⟨_, ⟨_, rfl⟩, HO5.out, HB5.out⟩
  have hsw := mv_swap (n := len) (i := i) (c := c) (p := p) (q := q) hin (by rw [HYE.out]; exact fun e => he e.symm)
  have hX : mvX c i p q = ⟨y0, p, y2, y3, q, 0⟩ := by unfold mvX; rw [HYE.out]
  rw [hX, HYE.out] at hsw
  obtain ⟨s1, s2, s3, s4, s5⟩ := hsw
  have HS5 : Hid (∀ j, putC (brC len c ⟨y0, p, y2, y3, q, 0⟩) i ⟨y0, y1, y2, y3, y4 - q, y5⟩ j = mvC len c (i : Int) p q j) := hid (by unfold mvC; rw [Int.toNat_natCast, hX]; exact s5)
  have HS2 : Hid (mvN len c (i : Int) p q = brN len c ⟨y0, p, y2, y3, q, 0⟩ ∧ len ≤ brN len c ⟨y0, p, y2, y3, q, 0⟩ ∧ brC len c ⟨y0, p, y2, y3, q, 0⟩ i = ⟨y0, y1, y2, y3, y4, y5⟩) := hid ⟨by unfold mvN; rw [Int.toNat_natCast, hX]; exact s2, s3, s4⟩
  have HT : Hid (mvT len c (i : Int) p q = brT len c ⟨y0, p, y2, y3, q, 0⟩) := hid (by rw [hmv, if_neg hlt, hX]; exact s1)
  clear s1 s2 s3 s4 s5 hX hmv hf hq he
  have hlt' : ¬ f < q := hlt
  by_cases hb0 : brT len c ⟨y0, p, y2, y3, q, 0⟩ = 0
  · have HBT : Hid ((brT len c ⟨y0, p, y2, y3, q, 0⟩ == 0) = true) := hid (by rw [hb0]; rfl)
    have HB0 := hid hb0
    clear hb0
    go_enter Try.func17, Try.ntmps17
    go_wp2_with (first
      | (go_at_call 35; refine (specStock_eq _ len cap c _ _ h HR.out HZ.out HS.out).mono ?_; rintro e w1 ⟨rfl, b1⟩; have HB1 := hid b1; clear b1; have y1_ := (HYC.out _ HB1.out).2.1)
      | (go_at_call 63; refine (l1In_eq _ _ _ _ _ h1).mono ?_; rintro e w2 ⟨rfl, ew⟩; replace ew := ew.symm; subst ew)
      | (go_at_call 66; refine (specName_eq _ _ _ HP.out h2).mono ?_; rintro e w2 ⟨rfl, ew⟩; replace ew := ew.symm; subst ew)
      | (go_at_call 67; refine (l12Qty_eq _ _ _ h3).mono ?_; rintro e w2 ⟨rfl, ew⟩; replace ew := ew.symm; subst ew))
    have HB2 : Hid (Below w.heap.size w w1.drew) := hid HB1.out.drew
    refine wp_region_noPanic ?_
    refine wp_region_held_drew (S := fun w' => (w'.cell? ⟨kb, off + i * 6 + 4, none⟩ = some (.int .i64 y4)) ∧ (w'.cell? ⟨kb, off + i * 6 + 5, none⟩ = some (.int .i64 y5))) (by kernel_rfl) (by exact ⟨(HYC.out _ HB2.out).2.2.2.2.1, (HYC.out _ HB2.out).2.2.2.2.2⟩) (fun hHeld => ?_)
    generalize hVD : w1.drew = VD at HB2 hHeld ⊢
    clear hVD
    refine wpAnyH_take (i := 0) (oi := { dst := some 44, op := Go.Op.move (Go.Operand.tmp 0), type := 24, pos := "l15_stock.go:132", after := #[], guard := none }) (v := ?_) rfl (by kernel_rfl) (by kernel_rfl) (by kernel_rfl) (fun _ _ _ h => h) (Or.inl ⟨by rfl, ?_⟩) (by assumption) ?_
    rotate_left
    · (intro w hSw; (try dsimp only at hSw); go_simp <;> try with_reducible rfl)
    try simp only [Act.put, List.setIfInBounds_toArray, List.set_cons_zero, List.set_cons_succ]
    refine wpAnyH_take (i := 1) (oi := { dst := some 45, op := Go.Op.move (Go.Operand.tmp 1), type := 3, pos := "l15_stock.go:132", after := #[], guard := none }) (v := ?_) rfl (by kernel_rfl) (by kernel_rfl) (by kernel_rfl) (fun _ _ _ h => h) (Or.inl ⟨by rfl, ?_⟩) (by assumption) ?_
    rotate_left
    · (intro w hSw; (try dsimp only at hSw); go_simp <;> try with_reducible rfl)
    try simp only [Act.put, List.setIfInBounds_toArray, List.set_cons_zero, List.set_cons_succ]
    refine wpAnyH_take (i := 2) (oi := { dst := some 46, op := Go.Op.indexAddr 24 (Go.Operand.tmp 44) (Go.Operand.tmp 45), type := 0, pos := "l15_stock.go:132", after := #[{ on := 0, ground := Go.Ground.data }, { on := 1, ground := Go.Ground.data }], guard := none }) (v := ?_) rfl (by kernel_rfl) (by kernel_rfl) (by kernel_rfl) (fun _ _ _ h => h) (Or.inl ⟨by rfl, ?_⟩) (by assumption) ?_
    rotate_left
    · (intro w hSw; (try dsimp only at hSw); go_simp <;> try with_reducible rfl)
    try simp only [Act.put, List.setIfInBounds_toArray, List.set_cons_zero, List.set_cons_succ]
    refine wpAnyH_take (i := 3) (oi := { dst := some 47, op := Go.Op.fieldAddr 28 (Go.Operand.tmp 46) 4, type := 0, pos := "l15_stock.go:132", after := #[{ on := 2, ground := Go.Ground.data }], guard := none }) (v := ?_) rfl (by kernel_rfl) (by kernel_rfl) (by kernel_rfl) (fun _ _ _ h => h) (Or.inl ⟨by rfl, ?_⟩) (by assumption) ?_
    rotate_left
    · (intro w hSw; (try dsimp only at hSw); go_simp <;> try with_reducible rfl)
    try simp only [Act.put, List.setIfInBounds_toArray, List.set_cons_zero, List.set_cons_succ]
    refine wpAnyH_take (i := 4) (oi := { dst := some 48, op := Go.Op.load 3 (Go.Operand.tmp 47), type := 3, pos := "l15_stock.go:132", after := #[{ on := 3, ground := Go.Ground.data }], guard := none }) (v := ?_) rfl (by kernel_rfl) (by kernel_rfl) (by kernel_rfl) (fun _ _ _ h => h) (Or.inl ⟨by rfl, ?_⟩) (by assumption) ?_
    rotate_left
    · (intro w hSw; (try dsimp only at hSw); go_simp <;> try with_reducible rfl)
    try simp only [Act.put, List.setIfInBounds_toArray, List.set_cons_zero, List.set_cons_succ]
    refine wpAnyH_take (i := 5) (oi := { dst := some 49, op := Go.Op.move (Go.Operand.tmp 0), type := 24, pos := "l15_stock.go:132", after := #[], guard := none }) (v := ?_) rfl (by kernel_rfl) (by kernel_rfl) (by kernel_rfl) (fun _ _ _ h => h) (Or.inl ⟨by rfl, ?_⟩) (by assumption) ?_
    rotate_left
    · (intro w hSw; (try dsimp only at hSw); go_simp <;> try with_reducible rfl)
    try simp only [Act.put, List.setIfInBounds_toArray, List.set_cons_zero, List.set_cons_succ]
    refine wpAnyH_take (i := 6) (oi := { dst := some 50, op := Go.Op.move (Go.Operand.tmp 1), type := 3, pos := "l15_stock.go:132", after := #[], guard := none }) (v := ?_) rfl (by kernel_rfl) (by kernel_rfl) (by kernel_rfl) (fun _ _ _ h => h) (Or.inl ⟨by rfl, ?_⟩) (by assumption) ?_
    rotate_left
    · (intro w hSw; (try dsimp only at hSw); go_simp <;> try with_reducible rfl)
    try simp only [Act.put, List.setIfInBounds_toArray, List.set_cons_zero, List.set_cons_succ]
    refine wpAnyH_take (i := 7) (oi := { dst := some 51, op := Go.Op.indexAddr 24 (Go.Operand.tmp 49) (Go.Operand.tmp 50), type := 0, pos := "l15_stock.go:132", after := #[{ on := 5, ground := Go.Ground.data }, { on := 6, ground := Go.Ground.data }], guard := none }) (v := ?_) rfl (by kernel_rfl) (by kernel_rfl) (by kernel_rfl) (fun _ _ _ h => h) (Or.inl ⟨by rfl, ?_⟩) (by assumption) ?_
    rotate_left
    · (intro w hSw; (try dsimp only at hSw); go_simp <;> try with_reducible rfl)
    try simp only [Act.put, List.setIfInBounds_toArray, List.set_cons_zero, List.set_cons_succ]
    refine wpAnyH_take (i := 8) (oi := { dst := some 52, op := Go.Op.fieldAddr 28 (Go.Operand.tmp 51) 5, type := 0, pos := "l15_stock.go:132", after := #[{ on := 7, ground := Go.Ground.data }], guard := none }) (v := ?_) rfl (by kernel_rfl) (by kernel_rfl) (by kernel_rfl) (fun _ _ _ h => h) (Or.inl ⟨by rfl, ?_⟩) (by assumption) ?_
    rotate_left
    · (intro w hSw; (try dsimp only at hSw); go_simp <;> try with_reducible rfl)
    try simp only [Act.put, List.setIfInBounds_toArray, List.set_cons_zero, List.set_cons_succ]
    refine wpAnyH_take (i := 9) (oi := { dst := some 53, op := Go.Op.load 3 (Go.Operand.tmp 52), type := 3, pos := "l15_stock.go:132", after := #[{ on := 8, ground := Go.Ground.data }], guard := none }) (v := ?_) rfl (by kernel_rfl) (by kernel_rfl) (by kernel_rfl) (fun _ _ _ h => h) (Or.inl ⟨by rfl, ?_⟩) (by assumption) ?_
    rotate_left
    · (intro w hSw; (try dsimp only at hSw); go_simp <;> try with_reducible rfl)
    try simp only [Act.put, List.setIfInBounds_toArray, List.set_cons_zero, List.set_cons_succ]
    refine wpAnyH_take (i := 10) (oi := { dst := some 54, op := Go.Op.binOp Go.BinOp.sub 3 (Go.Operand.tmp 48) (Go.Operand.tmp 53) 3, type := 3, pos := "l15_stock.go:132", after := #[{ on := 4, ground := Go.Ground.data }, { on := 9, ground := Go.Ground.data }], guard := none }) (v := ?_) rfl (by kernel_rfl) (by kernel_rfl) (by kernel_rfl) (fun _ _ _ h => h) (Or.inl ⟨by rfl, ?_⟩) (by assumption) ?_
    rotate_left
    · (intro w hSw; (try dsimp only at hSw); go_simp <;> try with_reducible rfl)
    try simp only [Act.put, List.setIfInBounds_toArray, List.set_cons_zero, List.set_cons_succ]
    refine wpAnyH_take (i := 11) (oi := { dst := some 55, op := Go.Op.move (Go.Operand.tmp 3), type := 3, pos := "l15_stock.go:132", after := #[], guard := none }) (v := ?_) rfl (by kernel_rfl) (by kernel_rfl) (by kernel_rfl) (fun _ _ _ h => h) (Or.inl ⟨by rfl, ?_⟩) (by assumption) ?_
    rotate_left
    · (intro w hSw; (try dsimp only at hSw); go_simp <;> try with_reducible rfl)
    try simp only [Act.put, List.setIfInBounds_toArray, List.set_cons_zero, List.set_cons_succ]
    refine wpAnyH_take (i := 12) (oi := { dst := some 56, op := Go.Op.binOp Go.BinOp.lss 3 (Go.Operand.tmp 54) (Go.Operand.tmp 55) 3, type := 4, pos := "l15_stock.go:132", after := #[{ on := 10, ground := Go.Ground.data }, { on := 11, ground := Go.Ground.data }], guard := none }) (v := ?_) rfl (by kernel_rfl) (by kernel_rfl) (by kernel_rfl) (fun _ _ _ h => h) (Or.inl ⟨by rfl, ?_⟩) (by assumption) ?_
    rotate_left
    · (intro w hSw; (try dsimp only at hSw); go_simp <;> try with_reducible rfl)
    try simp only [Act.put, List.setIfInBounds_toArray, List.set_cons_zero, List.set_cons_succ]
    refine wpAnyH_done (by kernel_rfl) ?_ _
    refine NoPanic.normal ?_
    clear hHeld
    have z0 := (HYC.out _ HB2.out).1
    have z1 := (HYC.out _ HB2.out).2.1
    have z2 := (HYC.out _ HB2.out).2.2.1
    have z3 := (HYC.out _ HB2.out).2.2.2.1
    have z4 := (HYC.out _ HB2.out).2.2.2.2.1
    have z5 := (HYC.out _ HB2.out).2.2.2.2.2
    go_wp2
    have T0 : Hid (Below w.heap.size w (VD.alloc (.cells #[.string y0, .string p, .string y2, .int .i64 y3, .int .i64 q, .int .i64 0] 28 (0, 0))) ∧ CB (VD.alloc (.cells #[.string y0, .string p, .string y2, .int .i64 y3, .int .i64 q, .int .i64 0] 28 (0, 0))) VD.heap.size #[.string y0, .string p, .string y2, .int .i64 y3, .int .i64 q, .int .i64 0] 28 ∧ w.heap.size ≤ VD.heap.size) := hid ⟨HB2.out.alloc HB2.out.size _, CB.new _ _, HB2.out.size⟩
    clear z0 z1 z2 z3 z4 z5
    generalize VD.alloc (.cells #[.string y0, .string p, .string y2, .int .i64 y3, .int .i64 q, .int .i64 0] 28 (0, 0)) = W0 at T0 ⊢
    generalize VD.heap.size = xb at T0 ⊢
    have TE : Hid (Below w.heap.size w W0.drew ∧ CB W0.drew xb #[.string y0, .string p, .string y2, .int .i64 y3, .int .i64 q, .int .i64 0] 28 ∧ w.heap.size ≤ xb) := hid ⟨T0.out.1.drew, T0.out.2.1, T0.out.2.2⟩
    refine wp_region_noPanic ?_
    refine wp_region_held_drew (S := fun w' => (w'.cell? ⟨xb, 0, none⟩ = some (.string y0)) ∧ (w'.cell? ⟨xb, 1, none⟩ = some (.string p)) ∧ (w'.cell? ⟨xb, 2, none⟩ = some (.string y2)) ∧ (w'.cell? ⟨xb, 3, none⟩ = some (.int .i64 y3)) ∧ (w'.cell? ⟨xb, 4, none⟩ = some (.int .i64 q)) ∧ (w'.cell? ⟨xb, 5, none⟩ = some (.int .i64 0))) (by kernel_rfl) (by exact ⟨TE.out.2.1.cell 0, TE.out.2.1.cell 1, TE.out.2.1.cell 2, TE.out.2.1.cell 3, TE.out.2.1.cell 4, TE.out.2.1.cell 5⟩) (fun hHeld => ?_)
    generalize hVE : W0.drew = VE at TE hHeld ⊢
    clear hVE
    refine wpAnyH_take (i := 0) (oi := { dst := some 69, op := Go.Op.move (Go.Operand.tmp 0), type := 24, pos := "l15_stock.go:139", after := #[], guard := none }) (v := ?_) rfl (by kernel_rfl) (by kernel_rfl) (by kernel_rfl) (fun _ _ _ h => h) (Or.inl ⟨by rfl, ?_⟩) (by assumption) ?_
    rotate_left
    · (intro w hSw; (try dsimp only at hSw); go_simp <;> try with_reducible rfl)
    try simp only [Act.put, List.setIfInBounds_toArray, List.set_cons_zero, List.set_cons_succ]
    refine wpAnyH_take (i := 2) (oi := { dst := some 71, op := Go.Op.load 28 (Go.Operand.tmp 10), type := 28, pos := "l15_stock.go:139", after := #[], guard := none }) (v := ?_) rfl (by kernel_rfl) (by kernel_rfl) (by kernel_rfl) (fun _ _ _ h => h) (Or.inl ⟨by rfl, ?_⟩) (by assumption) ?_
    rotate_left
    · (intro w hSw; (try dsimp only at hSw); go_simp <;> try with_reducible rfl)
    try simp only [Act.put, List.setIfInBounds_toArray, List.set_cons_zero, List.set_cons_succ]
    refine wpAnyH_ready (rs := [1]) (by kernel_rfl) (by simp) ?_
    refine AllReadyH.cons (o := { dst := some 70, op := Go.Op.call { callee := Go.Callee.value (Go.Operand.func 68), args := #[Go.Operand.tmp 69], argTypes := #[24] }, type := 24, pos := "l15_stock.go:139", after := #[{ on := 0, ground := Go.Ground.data }], guard := none }) rfl (fun K hK => ?_) (AllReadyH.nil)
    go_simp
    refine (copyS_any ⟨kb, off, none⟩ len cap c _ h (HR.out.below TE.out.1)).mono ?_
    rintro e w3 ⟨v3, rfl, o3, b3⟩
    obtain ⟨ad3, cp3, rfl, hcp3, _⟩ := ownCE6_of o3
    have T3 : Hid (Below w.heap.size w w3 ∧ CB w3 xb #[.string y0, .string p, .string y2, .int .i64 y3, .int .i64 q, .int .i64 0] 28 ∧ w3.ownsRow (xb + 1) 28 6 (.slice ad3 len cp3) len (rowCE6 c len) ∧ w.heap.size ≤ xb) := hid ⟨bel_on TE.out.1 b3, TE.out.2.1.below b3 TE.out.2.1.lt, row_lower o3 TE.out.2.1.lt, TE.out.2.2⟩
    clear o3 b3
    first | refine hK.out _ _ (by exact ⟨T3.out.2.1.cell 0, T3.out.2.1.cell 1, T3.out.2.1.cell 2, T3.out.2.1.cell 3, T3.out.2.1.cell 4, T3.out.2.1.cell 5⟩) (fun hHeld => ?_) | (go_wp2_with fail; refine hK.out _ _ (by exact ⟨T3.out.2.1.cell 0, T3.out.2.1.cell 1, T3.out.2.1.cell 2, T3.out.2.1.cell 3, T3.out.2.1.cell 4, T3.out.2.1.cell 5⟩) (fun hHeld => ?_))
    clear hK K
    try simp only [Act.put, List.setIfInBounds_toArray, List.set_cons_zero, List.set_cons_succ]
    refine wpAnyH_ready (rs := [3]) (by kernel_rfl) (by simp) ?_
    refine AllReadyH.cons (o := { dst := some 72, op := Go.Op.call { callee := Go.Callee.value (Go.Operand.func 69), args := #[Go.Operand.tmp 70, Go.Operand.tmp 71], argTypes := #[24, 28] }, type := 96, pos := "l15_stock.go:139", after := #[{ on := 1, ground := Go.Ground.data }, { on := 2, ground := Go.Ground.data }, { on := 1, ground := Go.Ground.chain }], guard := none }) rfl (fun K hK => ?_) (AllReadyH.nil)
    go_simp
    refine (add_any len cp3 (xb + 1) ad3 c ⟨y0, p, y2, y3, q, 0⟩ _ hn100 hcp3 HCN.out HHQ.out T3.out.2.2.1 T3.out.2.1.lt).mono ?_
    rintro e w4 ⟨ad4, n4, cp4, rfl, r4, b4⟩
    rw [HBT.out]
    have T4 : Hid (Below w.heap.size w w4 ∧ (brT len c ⟨y0, p, y2, y3, q, 0⟩ = 0 → n4 = brN len c ⟨y0, p, y2, y3, q, 0⟩ ∧ OwnCE6 w4 w.heap.size ad4 n4 (brC len c ⟨y0, p, y2, y3, q, 0⟩))) := hid ⟨T3.out.1.trans (b4.mono (by have := T3.out.2.2.2; omega)), fun h0 => ⟨(r4 h0).1, (r4 h0).2.mono (by have := T3.out.2.2.2; omega)⟩⟩
    have TX : Hid (CB w4 xb #[.string y0, .string p, .string y2, .int .i64 y3, .int .i64 q, .int .i64 0] 28) := hid (T3.out.2.1.below b4 (by omega))
    clear r4 b4
    first | refine hK.out _ _ (by exact ⟨TX.out.cell 0, TX.out.cell 1, TX.out.cell 2, TX.out.cell 3, TX.out.cell 4, TX.out.cell 5⟩) (fun hHeld => ?_) | (go_wp2_with fail; refine hK.out _ _ (by exact ⟨TX.out.cell 0, TX.out.cell 1, TX.out.cell 2, TX.out.cell 3, TX.out.cell 4, TX.out.cell 5⟩) (fun hHeld => ?_))
    clear hK K
    try simp only [Act.put, List.setIfInBounds_toArray, List.set_cons_zero, List.set_cons_succ]
    refine wpAnyH_take (i := 4) (oi := { dst := some 68, op := Go.Op.move (Go.Operand.tmp 72), type := 96, pos := "l15_stock.go:139", after := #[{ on := 3, ground := Go.Ground.data }], guard := none }) (v := ?_) rfl (by kernel_rfl) (by kernel_rfl) (by kernel_rfl) (fun _ _ _ h => h) (Or.inl ⟨by rfl, ?_⟩) (by assumption) ?_
    rotate_left
    · (intro w hSw; (try dsimp only at hSw); go_simp <;> try with_reducible rfl)
    try simp only [Act.put, List.setIfInBounds_toArray, List.set_cons_zero, List.set_cons_succ]
    refine wpAnyH_take (i := 5) (oi := { dst := some 73, op := Go.Op.extract (Go.Operand.tmp 68) 0, type := 24, pos := "l15_stock.go:139", after := #[{ on := 4, ground := Go.Ground.data }], guard := none }) (v := ?_) rfl (by kernel_rfl) (by kernel_rfl) (by kernel_rfl) (fun _ _ _ h => h) (Or.inl ⟨by rfl, ?_⟩) (by assumption) ?_
    rotate_left
    · (intro w hSw; (try dsimp only at hSw); go_simp <;> try with_reducible rfl)
    try simp only [Act.put, List.setIfInBounds_toArray, List.set_cons_zero, List.set_cons_succ]
    refine wpAnyH_take (i := 6) (oi := { dst := some 74, op := Go.Op.extract (Go.Operand.tmp 68) 1, type := 4, pos := "l15_stock.go:139", after := #[{ on := 4, ground := Go.Ground.data }, { on := 7, ground := Go.Ground.gcOnly Go.Departure.lateStores }], guard := none }) (v := ?_) rfl (by kernel_rfl) (by kernel_rfl) (by kernel_rfl) (fun _ _ _ h => h) (Or.inl ⟨by rfl, ?_⟩) (by assumption) ?_
    rotate_left
    · (intro w hSw; (try dsimp only at hSw); go_simp <;> try with_reducible rfl)
    try simp only [Act.put, List.setIfInBounds_toArray, List.set_cons_zero, List.set_cons_succ]
    refine wpAnyH_take (i := 7) (oi := { dst := some 11, op := Go.Op.assign (Go.Operand.tmp 73), type := 24, pos := "l15_stock.go:139", after := #[{ on := 5, ground := Go.Ground.data }, { on := 3, ground := Go.Ground.chain }, { on := 0, ground := Go.Ground.phase }, { on := 1, ground := Go.Ground.phase }, { on := 2, ground := Go.Ground.phase }, { on := 3, ground := Go.Ground.phase }, { on := 4, ground := Go.Ground.phase }, { on := 5, ground := Go.Ground.phase }, { on := 6, ground := Go.Ground.textOnly Go.Departure.lateStores }], guard := none }) (v := ?_) rfl (by kernel_rfl) (by kernel_rfl) (by kernel_rfl) (fun _ _ _ h => h) (Or.inl ⟨by rfl, ?_⟩) (by assumption) ?_
    rotate_left
    · (intro w hSw; (try dsimp only at hSw); go_simp <;> try with_reducible rfl)
    try simp only [Act.put, List.setIfInBounds_toArray, List.set_cons_zero, List.set_cons_succ]
    refine wpAnyH_take (i := 8) (oi := { dst := some 12, op := Go.Op.assign (Go.Operand.tmp 74), type := 4, pos := "l15_stock.go:139", after := #[{ on := 6, ground := Go.Ground.data }, { on := 7, ground := Go.Ground.chain }, { on := 0, ground := Go.Ground.phase }, { on := 1, ground := Go.Ground.phase }, { on := 2, ground := Go.Ground.phase }, { on := 3, ground := Go.Ground.phase }, { on := 4, ground := Go.Ground.phase }, { on := 5, ground := Go.Ground.phase }, { on := 6, ground := Go.Ground.phase }, { on := 7, ground := Go.Ground.phase }], guard := none }) (v := ?_) rfl (by kernel_rfl) (by kernel_rfl) (by kernel_rfl) (fun _ _ _ h => h) (Or.inl ⟨by rfl, ?_⟩) (by assumption) ?_
    rotate_left
    · (intro w hSw; (try dsimp only at hSw); go_simp <;> try with_reducible rfl)
    try simp only [Act.put, List.setIfInBounds_toArray, List.set_cons_zero, List.set_cons_succ]
    refine wpAnyH_done (by kernel_rfl) ?_ _
    refine NoPanic.normal ?_
    clear hHeld
    obtain ⟨hn4, ho4⟩ := T4.out.2 HB0.out
    have hin4 : i < n4 := by have := HS2.out.2.1; have := HIN.out; omega
    have hin4I : (i : Int) < (n4 : Int) := by omega
    obtain ⟨g, rfl, hlg, hro⟩ := own_ro ho4 (by omega)
    have c4 := (hro.el hin4).2.2.2.2.1
    rw [HS2.out.2.2] at c4
    simp only at c4
    have f4 := hro.fr (i * 6 + 4)
    have HRO := hid hro
    have HLG := hid hlg
    have HN4 := hid hn4
    clear hro hlg hn4 ho4
    go_wp2
    go_returns
    have hz := HRO.out.set4 hin4 (y4 - q)
    rw [HS2.out.2.2] at hz
    rw [HMv.out.1, HT.out, (HMv.out.2.1 (HT.out.trans HB0.out)).1, (HMv.out.2.1 (HT.out.trans HB0.out)).2, HB0.out, HS2.out.1, ← HN4.out]
    first | exact ⟨_, _, rfl, (hz.congr (fun j _ => HS5.out j)).own HLG.out, T4.out.1.setCell HLG.out _⟩ | exact ⟨_, ⟨_, rfl⟩, (hz.congr (fun j _ => HS5.out j)).own HLG.out, T4.out.1.setCell HLG.out _⟩
  · have HBT : Hid ((brT len c ⟨y0, p, y2, y3, q, 0⟩ == 0) = false) := hid (by simpa using hb0)
    have h4 : brT len c ⟨y0, p, y2, y3, q, 0⟩ = 4 := by
      revert hb0
      unfold brT
      split <;> split <;> simp
    have HB0 := hid hb0
    have HB4 := hid h4
    clear hb0 h4
    go_enter Try.func17, Try.ntmps17
    go_wp2_with (first
      | (go_at_call 35; refine (specStock_eq _ len cap c _ _ h HR.out HZ.out HS.out).mono ?_; rintro e w1 ⟨rfl, b1⟩; have HB1 := hid b1; clear b1; have y1_ := (HYC.out _ HB1.out).2.1)
      | (go_at_call 63; refine (l1In_eq _ _ _ _ _ h1).mono ?_; rintro e w2 ⟨rfl, ew⟩; replace ew := ew.symm; subst ew)
      | (go_at_call 66; refine (specName_eq _ _ _ HP.out h2).mono ?_; rintro e w2 ⟨rfl, ew⟩; replace ew := ew.symm; subst ew)
      | (go_at_call 67; refine (l12Qty_eq _ _ _ h3).mono ?_; rintro e w2 ⟨rfl, ew⟩; replace ew := ew.symm; subst ew))
    have HB2 : Hid (Below w.heap.size w w1.drew) := hid HB1.out.drew
    refine wp_region_noPanic ?_
    refine wp_region_held_drew (S := fun w' => (w'.cell? ⟨kb, off + i * 6 + 4, none⟩ = some (.int .i64 y4)) ∧ (w'.cell? ⟨kb, off + i * 6 + 5, none⟩ = some (.int .i64 y5))) (by kernel_rfl) (by exact ⟨(HYC.out _ HB2.out).2.2.2.2.1, (HYC.out _ HB2.out).2.2.2.2.2⟩) (fun hHeld => ?_)
    generalize hVD : w1.drew = VD at HB2 hHeld ⊢
    clear hVD
    refine wpAnyH_take (i := 0) (oi := { dst := some 44, op := Go.Op.move (Go.Operand.tmp 0), type := 24, pos := "l15_stock.go:132", after := #[], guard := none }) (v := ?_) rfl (by kernel_rfl) (by kernel_rfl) (by kernel_rfl) (fun _ _ _ h => h) (Or.inl ⟨by rfl, ?_⟩) (by assumption) ?_
    rotate_left
    · (intro w hSw; (try dsimp only at hSw); go_simp <;> try with_reducible rfl)
    try simp only [Act.put, List.setIfInBounds_toArray, List.set_cons_zero, List.set_cons_succ]
    refine wpAnyH_take (i := 1) (oi := { dst := some 45, op := Go.Op.move (Go.Operand.tmp 1), type := 3, pos := "l15_stock.go:132", after := #[], guard := none }) (v := ?_) rfl (by kernel_rfl) (by kernel_rfl) (by kernel_rfl) (fun _ _ _ h => h) (Or.inl ⟨by rfl, ?_⟩) (by assumption) ?_
    rotate_left
    · (intro w hSw; (try dsimp only at hSw); go_simp <;> try with_reducible rfl)
    try simp only [Act.put, List.setIfInBounds_toArray, List.set_cons_zero, List.set_cons_succ]
    refine wpAnyH_take (i := 2) (oi := { dst := some 46, op := Go.Op.indexAddr 24 (Go.Operand.tmp 44) (Go.Operand.tmp 45), type := 0, pos := "l15_stock.go:132", after := #[{ on := 0, ground := Go.Ground.data }, { on := 1, ground := Go.Ground.data }], guard := none }) (v := ?_) rfl (by kernel_rfl) (by kernel_rfl) (by kernel_rfl) (fun _ _ _ h => h) (Or.inl ⟨by rfl, ?_⟩) (by assumption) ?_
    rotate_left
    · (intro w hSw; (try dsimp only at hSw); go_simp <;> try with_reducible rfl)
    try simp only [Act.put, List.setIfInBounds_toArray, List.set_cons_zero, List.set_cons_succ]
    refine wpAnyH_take (i := 3) (oi := { dst := some 47, op := Go.Op.fieldAddr 28 (Go.Operand.tmp 46) 4, type := 0, pos := "l15_stock.go:132", after := #[{ on := 2, ground := Go.Ground.data }], guard := none }) (v := ?_) rfl (by kernel_rfl) (by kernel_rfl) (by kernel_rfl) (fun _ _ _ h => h) (Or.inl ⟨by rfl, ?_⟩) (by assumption) ?_
    rotate_left
    · (intro w hSw; (try dsimp only at hSw); go_simp <;> try with_reducible rfl)
    try simp only [Act.put, List.setIfInBounds_toArray, List.set_cons_zero, List.set_cons_succ]
    refine wpAnyH_take (i := 4) (oi := { dst := some 48, op := Go.Op.load 3 (Go.Operand.tmp 47), type := 3, pos := "l15_stock.go:132", after := #[{ on := 3, ground := Go.Ground.data }], guard := none }) (v := ?_) rfl (by kernel_rfl) (by kernel_rfl) (by kernel_rfl) (fun _ _ _ h => h) (Or.inl ⟨by rfl, ?_⟩) (by assumption) ?_
    rotate_left
    · (intro w hSw; (try dsimp only at hSw); go_simp <;> try with_reducible rfl)
    try simp only [Act.put, List.setIfInBounds_toArray, List.set_cons_zero, List.set_cons_succ]
    refine wpAnyH_take (i := 5) (oi := { dst := some 49, op := Go.Op.move (Go.Operand.tmp 0), type := 24, pos := "l15_stock.go:132", after := #[], guard := none }) (v := ?_) rfl (by kernel_rfl) (by kernel_rfl) (by kernel_rfl) (fun _ _ _ h => h) (Or.inl ⟨by rfl, ?_⟩) (by assumption) ?_
    rotate_left
    · (intro w hSw; (try dsimp only at hSw); go_simp <;> try with_reducible rfl)
    try simp only [Act.put, List.setIfInBounds_toArray, List.set_cons_zero, List.set_cons_succ]
    refine wpAnyH_take (i := 6) (oi := { dst := some 50, op := Go.Op.move (Go.Operand.tmp 1), type := 3, pos := "l15_stock.go:132", after := #[], guard := none }) (v := ?_) rfl (by kernel_rfl) (by kernel_rfl) (by kernel_rfl) (fun _ _ _ h => h) (Or.inl ⟨by rfl, ?_⟩) (by assumption) ?_
    rotate_left
    · (intro w hSw; (try dsimp only at hSw); go_simp <;> try with_reducible rfl)
    try simp only [Act.put, List.setIfInBounds_toArray, List.set_cons_zero, List.set_cons_succ]
    refine wpAnyH_take (i := 7) (oi := { dst := some 51, op := Go.Op.indexAddr 24 (Go.Operand.tmp 49) (Go.Operand.tmp 50), type := 0, pos := "l15_stock.go:132", after := #[{ on := 5, ground := Go.Ground.data }, { on := 6, ground := Go.Ground.data }], guard := none }) (v := ?_) rfl (by kernel_rfl) (by kernel_rfl) (by kernel_rfl) (fun _ _ _ h => h) (Or.inl ⟨by rfl, ?_⟩) (by assumption) ?_
    rotate_left
    · (intro w hSw; (try dsimp only at hSw); go_simp <;> try with_reducible rfl)
    try simp only [Act.put, List.setIfInBounds_toArray, List.set_cons_zero, List.set_cons_succ]
    refine wpAnyH_take (i := 8) (oi := { dst := some 52, op := Go.Op.fieldAddr 28 (Go.Operand.tmp 51) 5, type := 0, pos := "l15_stock.go:132", after := #[{ on := 7, ground := Go.Ground.data }], guard := none }) (v := ?_) rfl (by kernel_rfl) (by kernel_rfl) (by kernel_rfl) (fun _ _ _ h => h) (Or.inl ⟨by rfl, ?_⟩) (by assumption) ?_
    rotate_left
    · (intro w hSw; (try dsimp only at hSw); go_simp <;> try with_reducible rfl)
    try simp only [Act.put, List.setIfInBounds_toArray, List.set_cons_zero, List.set_cons_succ]
    refine wpAnyH_take (i := 9) (oi := { dst := some 53, op := Go.Op.load 3 (Go.Operand.tmp 52), type := 3, pos := "l15_stock.go:132", after := #[{ on := 8, ground := Go.Ground.data }], guard := none }) (v := ?_) rfl (by kernel_rfl) (by kernel_rfl) (by kernel_rfl) (fun _ _ _ h => h) (Or.inl ⟨by rfl, ?_⟩) (by assumption) ?_
    rotate_left
    · (intro w hSw; (try dsimp only at hSw); go_simp <;> try with_reducible rfl)
    try simp only [Act.put, List.setIfInBounds_toArray, List.set_cons_zero, List.set_cons_succ]
    refine wpAnyH_take (i := 10) (oi := { dst := some 54, op := Go.Op.binOp Go.BinOp.sub 3 (Go.Operand.tmp 48) (Go.Operand.tmp 53) 3, type := 3, pos := "l15_stock.go:132", after := #[{ on := 4, ground := Go.Ground.data }, { on := 9, ground := Go.Ground.data }], guard := none }) (v := ?_) rfl (by kernel_rfl) (by kernel_rfl) (by kernel_rfl) (fun _ _ _ h => h) (Or.inl ⟨by rfl, ?_⟩) (by assumption) ?_
    rotate_left
    · (intro w hSw; (try dsimp only at hSw); go_simp <;> try with_reducible rfl)
    try simp only [Act.put, List.setIfInBounds_toArray, List.set_cons_zero, List.set_cons_succ]
    refine wpAnyH_take (i := 11) (oi := { dst := some 55, op := Go.Op.move (Go.Operand.tmp 3), type := 3, pos := "l15_stock.go:132", after := #[], guard := none }) (v := ?_) rfl (by kernel_rfl) (by kernel_rfl) (by kernel_rfl) (fun _ _ _ h => h) (Or.inl ⟨by rfl, ?_⟩) (by assumption) ?_
    rotate_left
    · (intro w hSw; (try dsimp only at hSw); go_simp <;> try with_reducible rfl)
    try simp only [Act.put, List.setIfInBounds_toArray, List.set_cons_zero, List.set_cons_succ]
    refine wpAnyH_take (i := 12) (oi := { dst := some 56, op := Go.Op.binOp Go.BinOp.lss 3 (Go.Operand.tmp 54) (Go.Operand.tmp 55) 3, type := 4, pos := "l15_stock.go:132", after := #[{ on := 10, ground := Go.Ground.data }, { on := 11, ground := Go.Ground.data }], guard := none }) (v := ?_) rfl (by kernel_rfl) (by kernel_rfl) (by kernel_rfl) (fun _ _ _ h => h) (Or.inl ⟨by rfl, ?_⟩) (by assumption) ?_
    rotate_left
    · (intro w hSw; (try dsimp only at hSw); go_simp <;> try with_reducible rfl)
    try simp only [Act.put, List.setIfInBounds_toArray, List.set_cons_zero, List.set_cons_succ]
    refine wpAnyH_done (by kernel_rfl) ?_ _
    refine NoPanic.normal ?_
    clear hHeld
    have z0 := (HYC.out _ HB2.out).1
    have z1 := (HYC.out _ HB2.out).2.1
    have z2 := (HYC.out _ HB2.out).2.2.1
    have z3 := (HYC.out _ HB2.out).2.2.2.1
    have z4 := (HYC.out _ HB2.out).2.2.2.2.1
    have z5 := (HYC.out _ HB2.out).2.2.2.2.2
    go_wp2
    have T0 : Hid (Below w.heap.size w (VD.alloc (.cells #[.string y0, .string p, .string y2, .int .i64 y3, .int .i64 q, .int .i64 0] 28 (0, 0))) ∧ CB (VD.alloc (.cells #[.string y0, .string p, .string y2, .int .i64 y3, .int .i64 q, .int .i64 0] 28 (0, 0))) VD.heap.size #[.string y0, .string p, .string y2, .int .i64 y3, .int .i64 q, .int .i64 0] 28 ∧ w.heap.size ≤ VD.heap.size) := hid ⟨HB2.out.alloc HB2.out.size _, CB.new _ _, HB2.out.size⟩
    clear z0 z1 z2 z3 z4 z5
    generalize VD.alloc (.cells #[.string y0, .string p, .string y2, .int .i64 y3, .int .i64 q, .int .i64 0] 28 (0, 0)) = W0 at T0 ⊢
    generalize VD.heap.size = xb at T0 ⊢
    have TE : Hid (Below w.heap.size w W0.drew ∧ CB W0.drew xb #[.string y0, .string p, .string y2, .int .i64 y3, .int .i64 q, .int .i64 0] 28 ∧ w.heap.size ≤ xb) := hid ⟨T0.out.1.drew, T0.out.2.1, T0.out.2.2⟩
    refine wp_region_noPanic ?_
    refine wp_region_held_drew (S := fun w' => (w'.cell? ⟨xb, 0, none⟩ = some (.string y0)) ∧ (w'.cell? ⟨xb, 1, none⟩ = some (.string p)) ∧ (w'.cell? ⟨xb, 2, none⟩ = some (.string y2)) ∧ (w'.cell? ⟨xb, 3, none⟩ = some (.int .i64 y3)) ∧ (w'.cell? ⟨xb, 4, none⟩ = some (.int .i64 q)) ∧ (w'.cell? ⟨xb, 5, none⟩ = some (.int .i64 0))) (by kernel_rfl) (by exact ⟨TE.out.2.1.cell 0, TE.out.2.1.cell 1, TE.out.2.1.cell 2, TE.out.2.1.cell 3, TE.out.2.1.cell 4, TE.out.2.1.cell 5⟩) (fun hHeld => ?_)
    generalize hVE : W0.drew = VE at TE hHeld ⊢
    clear hVE
    refine wpAnyH_take (i := 0) (oi := { dst := some 69, op := Go.Op.move (Go.Operand.tmp 0), type := 24, pos := "l15_stock.go:139", after := #[], guard := none }) (v := ?_) rfl (by kernel_rfl) (by kernel_rfl) (by kernel_rfl) (fun _ _ _ h => h) (Or.inl ⟨by rfl, ?_⟩) (by assumption) ?_
    rotate_left
    · (intro w hSw; (try dsimp only at hSw); go_simp <;> try with_reducible rfl)
    try simp only [Act.put, List.setIfInBounds_toArray, List.set_cons_zero, List.set_cons_succ]
    refine wpAnyH_take (i := 2) (oi := { dst := some 71, op := Go.Op.load 28 (Go.Operand.tmp 10), type := 28, pos := "l15_stock.go:139", after := #[], guard := none }) (v := ?_) rfl (by kernel_rfl) (by kernel_rfl) (by kernel_rfl) (fun _ _ _ h => h) (Or.inl ⟨by rfl, ?_⟩) (by assumption) ?_
    rotate_left
    · (intro w hSw; (try dsimp only at hSw); go_simp <;> try with_reducible rfl)
    try simp only [Act.put, List.setIfInBounds_toArray, List.set_cons_zero, List.set_cons_succ]
    refine wpAnyH_ready (rs := [1]) (by kernel_rfl) (by simp) ?_
    refine AllReadyH.cons (o := { dst := some 70, op := Go.Op.call { callee := Go.Callee.value (Go.Operand.func 68), args := #[Go.Operand.tmp 69], argTypes := #[24] }, type := 24, pos := "l15_stock.go:139", after := #[{ on := 0, ground := Go.Ground.data }], guard := none }) rfl (fun K hK => ?_) (AllReadyH.nil)
    go_simp
    refine (copyS_any ⟨kb, off, none⟩ len cap c _ h (HR.out.below TE.out.1)).mono ?_
    rintro e w3 ⟨v3, rfl, o3, b3⟩
    obtain ⟨ad3, cp3, rfl, hcp3, _⟩ := ownCE6_of o3
    have T3 : Hid (Below w.heap.size w w3 ∧ CB w3 xb #[.string y0, .string p, .string y2, .int .i64 y3, .int .i64 q, .int .i64 0] 28 ∧ w3.ownsRow (xb + 1) 28 6 (.slice ad3 len cp3) len (rowCE6 c len) ∧ w.heap.size ≤ xb) := hid ⟨bel_on TE.out.1 b3, TE.out.2.1.below b3 TE.out.2.1.lt, row_lower o3 TE.out.2.1.lt, TE.out.2.2⟩
    clear o3 b3
    first | refine hK.out _ _ (by exact ⟨T3.out.2.1.cell 0, T3.out.2.1.cell 1, T3.out.2.1.cell 2, T3.out.2.1.cell 3, T3.out.2.1.cell 4, T3.out.2.1.cell 5⟩) (fun hHeld => ?_) | (go_wp2_with fail; refine hK.out _ _ (by exact ⟨T3.out.2.1.cell 0, T3.out.2.1.cell 1, T3.out.2.1.cell 2, T3.out.2.1.cell 3, T3.out.2.1.cell 4, T3.out.2.1.cell 5⟩) (fun hHeld => ?_))
    clear hK K
    try simp only [Act.put, List.setIfInBounds_toArray, List.set_cons_zero, List.set_cons_succ]
    refine wpAnyH_ready (rs := [3]) (by kernel_rfl) (by simp) ?_
    refine AllReadyH.cons (o := { dst := some 72, op := Go.Op.call { callee := Go.Callee.value (Go.Operand.func 69), args := #[Go.Operand.tmp 70, Go.Operand.tmp 71], argTypes := #[24, 28] }, type := 96, pos := "l15_stock.go:139", after := #[{ on := 1, ground := Go.Ground.data }, { on := 2, ground := Go.Ground.data }, { on := 1, ground := Go.Ground.chain }], guard := none }) rfl (fun K hK => ?_) (AllReadyH.nil)
    go_simp
    refine (add_any len cp3 (xb + 1) ad3 c ⟨y0, p, y2, y3, q, 0⟩ _ hn100 hcp3 HCN.out HHQ.out T3.out.2.2.1 T3.out.2.1.lt).mono ?_
    rintro e w4 ⟨ad4, n4, cp4, rfl, r4, b4⟩
    rw [HBT.out]
    have T4 : Hid (Below w.heap.size w w4 ∧ (brT len c ⟨y0, p, y2, y3, q, 0⟩ = 0 → n4 = brN len c ⟨y0, p, y2, y3, q, 0⟩ ∧ OwnCE6 w4 w.heap.size ad4 n4 (brC len c ⟨y0, p, y2, y3, q, 0⟩))) := hid ⟨T3.out.1.trans (b4.mono (by have := T3.out.2.2.2; omega)), fun h0 => ⟨(r4 h0).1, (r4 h0).2.mono (by have := T3.out.2.2.2; omega)⟩⟩
    have TX : Hid (CB w4 xb #[.string y0, .string p, .string y2, .int .i64 y3, .int .i64 q, .int .i64 0] 28) := hid (T3.out.2.1.below b4 (by omega))
    clear r4 b4
    first | refine hK.out _ _ (by exact ⟨TX.out.cell 0, TX.out.cell 1, TX.out.cell 2, TX.out.cell 3, TX.out.cell 4, TX.out.cell 5⟩) (fun hHeld => ?_) | (go_wp2_with fail; refine hK.out _ _ (by exact ⟨TX.out.cell 0, TX.out.cell 1, TX.out.cell 2, TX.out.cell 3, TX.out.cell 4, TX.out.cell 5⟩) (fun hHeld => ?_))
    clear hK K
    try simp only [Act.put, List.setIfInBounds_toArray, List.set_cons_zero, List.set_cons_succ]
    refine wpAnyH_take (i := 4) (oi := { dst := some 68, op := Go.Op.move (Go.Operand.tmp 72), type := 96, pos := "l15_stock.go:139", after := #[{ on := 3, ground := Go.Ground.data }], guard := none }) (v := ?_) rfl (by kernel_rfl) (by kernel_rfl) (by kernel_rfl) (fun _ _ _ h => h) (Or.inl ⟨by rfl, ?_⟩) (by assumption) ?_
    rotate_left
    · (intro w hSw; (try dsimp only at hSw); go_simp <;> try with_reducible rfl)
    try simp only [Act.put, List.setIfInBounds_toArray, List.set_cons_zero, List.set_cons_succ]
    refine wpAnyH_take (i := 5) (oi := { dst := some 73, op := Go.Op.extract (Go.Operand.tmp 68) 0, type := 24, pos := "l15_stock.go:139", after := #[{ on := 4, ground := Go.Ground.data }], guard := none }) (v := ?_) rfl (by kernel_rfl) (by kernel_rfl) (by kernel_rfl) (fun _ _ _ h => h) (Or.inl ⟨by rfl, ?_⟩) (by assumption) ?_
    rotate_left
    · (intro w hSw; (try dsimp only at hSw); go_simp <;> try with_reducible rfl)
    try simp only [Act.put, List.setIfInBounds_toArray, List.set_cons_zero, List.set_cons_succ]
    refine wpAnyH_take (i := 6) (oi := { dst := some 74, op := Go.Op.extract (Go.Operand.tmp 68) 1, type := 4, pos := "l15_stock.go:139", after := #[{ on := 4, ground := Go.Ground.data }, { on := 7, ground := Go.Ground.gcOnly Go.Departure.lateStores }], guard := none }) (v := ?_) rfl (by kernel_rfl) (by kernel_rfl) (by kernel_rfl) (fun _ _ _ h => h) (Or.inl ⟨by rfl, ?_⟩) (by assumption) ?_
    rotate_left
    · (intro w hSw; (try dsimp only at hSw); go_simp <;> try with_reducible rfl)
    try simp only [Act.put, List.setIfInBounds_toArray, List.set_cons_zero, List.set_cons_succ]
    refine wpAnyH_take (i := 7) (oi := { dst := some 11, op := Go.Op.assign (Go.Operand.tmp 73), type := 24, pos := "l15_stock.go:139", after := #[{ on := 5, ground := Go.Ground.data }, { on := 3, ground := Go.Ground.chain }, { on := 0, ground := Go.Ground.phase }, { on := 1, ground := Go.Ground.phase }, { on := 2, ground := Go.Ground.phase }, { on := 3, ground := Go.Ground.phase }, { on := 4, ground := Go.Ground.phase }, { on := 5, ground := Go.Ground.phase }, { on := 6, ground := Go.Ground.textOnly Go.Departure.lateStores }], guard := none }) (v := ?_) rfl (by kernel_rfl) (by kernel_rfl) (by kernel_rfl) (fun _ _ _ h => h) (Or.inl ⟨by rfl, ?_⟩) (by assumption) ?_
    rotate_left
    · (intro w hSw; (try dsimp only at hSw); go_simp <;> try with_reducible rfl)
    try simp only [Act.put, List.setIfInBounds_toArray, List.set_cons_zero, List.set_cons_succ]
    refine wpAnyH_take (i := 8) (oi := { dst := some 12, op := Go.Op.assign (Go.Operand.tmp 74), type := 4, pos := "l15_stock.go:139", after := #[{ on := 6, ground := Go.Ground.data }, { on := 7, ground := Go.Ground.chain }, { on := 0, ground := Go.Ground.phase }, { on := 1, ground := Go.Ground.phase }, { on := 2, ground := Go.Ground.phase }, { on := 3, ground := Go.Ground.phase }, { on := 4, ground := Go.Ground.phase }, { on := 5, ground := Go.Ground.phase }, { on := 6, ground := Go.Ground.phase }, { on := 7, ground := Go.Ground.phase }], guard := none }) (v := ?_) rfl (by kernel_rfl) (by kernel_rfl) (by kernel_rfl) (fun _ _ _ h => h) (Or.inl ⟨by rfl, ?_⟩) (by assumption) ?_
    rotate_left
    · (intro w hSw; (try dsimp only at hSw); go_simp <;> try with_reducible rfl)
    try simp only [Act.put, List.setIfInBounds_toArray, List.set_cons_zero, List.set_cons_succ]
    refine wpAnyH_done (by kernel_rfl) ?_ _
    refine NoPanic.normal ?_
    clear hHeld
    go_wp2_with (go_at_call 68; refine (copyS_any ⟨kb, off, none⟩ len cap c _ h (HR.out.below T4.out.1)).mono ?_; rintro e w5 ⟨v5, rfl, o5, b5⟩; obtain ⟨ad5, cp5, rfl, hcp5, o5⟩ := ownCE6_of o5; have HO5 := hid (o5.mono (l := w.heap.size) T4.out.1.size); have HB5 := hid (bel_on T4.out.1 b5); clear o5 b5)
    go_returns
    rw [HMv.out.1, HT.out, (HMv.out.2.2 (by rw [HT.out]; exact HB0.out)).1, (HMv.out.2.2 (by rw [HT.out]; exact HB0.out)).2, HB4.out]
    first | exact ⟨_, _, rfl, HO5.out, HB5.out⟩ | exact ⟨_, ⟨_, rfl⟩, HO5.out, HB5.out⟩
end Go.Proofs.Ytpmnnfjabppahaa
