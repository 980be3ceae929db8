/- The program's ShowFlow. -/
import Derived.Test.YtdhpadcihlmhiaaDoorUl
namespace Go.Proofs.YtdhpadcihlmhiaaDoor
open Go.ChangeShapes Go.WideShapes Go.ChangeAt Go.RowKit
set_option linter.unusedVariables false
set_option linter.unusedSimpArgs false

theorem bld_row {w w' : World} {base n s : Nat} {t : TypeId} {v : Value} {xs : List Value} (h : w.ownsRow base t s v n xs) (b : Below w.heap.size w w') : w'.ownsRow base t s v n xs := by
  obtain ⟨hl, h2⟩ := h
  refine ⟨hl, ?_⟩
  rcases h2 with h | ⟨g, cap, cur, e, hb, hg, h3⟩
  · exact .inl h
  · exact .inr ⟨g, cap, cur, e, hb, by rw [b.block g (lt_of_block hg)]; exact hg, h3⟩
theorem BLD.below {w w' : World} {b : Nat} {T : ByteArray} (h : BLD w b T) (k : Below w.heap.size w w') : BLD w' b T := by
  have one : ∀ p, Lib.BuilderAt 94 5 b b p (Lib.byteCells T.data.toList) w → Lib.BuilderAt 94 5 b b p (Lib.byteCells T.data.toList) w' := fun p q => by
    obtain ⟨hB, v, hb, hown, hne⟩ := q
    exact ⟨hB, v, (k.block b (lt_of_block hb)).trans hb, bld_row hown k, hne⟩
  rcases h with h | h
  · exact .inl (one _ h)
  · exact .inr (one _ h)
theorem BLD.new (w : World) : BLD (w.alloc (.cells #[.pointer none, .slice none 0 0] 94 (0, 0))) w.heap.size nilT := .inl ⟨Nat.le_refl _, .slice none 0 0, CB.new _ _, World.ownsRow_nil _ _ _ _, by simp [Value.ownBlock]⟩
theorem fol_flo {n : Nat} {c : Nat → ST} (h : ∀ j, j < n → FolP c j) : FloP n c := by
  refine ⟨?_, fun i hi => (h i hi).1⟩
  rcases n with _ | m
  · omega
  · have := (h m (by omega)).2; omega
theorem bytes_len (T : ByteArray) : (Lib.byteCells T.data.toList).length = T.size := by rw [Lib.byteCells_length]; rfl

set_option maxRecDepth 20000 in
set_option maxHeartbeats 8000000 in
theorem implFlow_any (ad : Option Addr) (len cap : Nat) (c : Nat → ST) (w : World) (h : (len : Int) ≤ 1048576) (hcap : len ≤ cap) (hs : STz c) (hr : STr w ad len c) (hT : TP w) :
    Calls Tryd.prog 24 #[.slice ad len cap] w fun e w' => e = .returned (.string (shoT len c)) ∧ Below w.heap.size w w' := by
  have HR : Hid (STr w ad len c) := hr
  have HS := hid hs
  have HT := hid hT
  have HB0 : Hid (Below w.heap.size w (w.alloc (.cells #[.pointer none, .slice none 0 0] 94 (0, 0)))) := (Below.refl _ _).alloc (Nat.le_refl _) _
  clear hr hs hT
  go_enter Tryd.func24, Tryd.ntmps24
  go_wp2
  go_loopw [8] (fun i wr => ∃ k : Nat, k ≤ len ∧ i = .int .i64 (k : Int) ∧ Hid ((∀ j, j < k → FolP c j) ∧ BLD wr w.heap.size (floT c k) ∧ Below w.heap.size w wr)) (fun i _ => len - (intOf i).toNat)
  case atStart => exact ⟨0, Nat.zero_le _, rfl, fun j hj => by omega, BLD.new w, HB0.out⟩
  case round =>
    obtain ⟨k, hk, rfl, HH⟩ := hrel
    obtain ⟨wo, rfl⟩ : ∃ x, x = wr := ⟨wr, rfl⟩
    have hfz := floT_size (n := k) (c := c) (fun j hj => (HH.out.1 j hj).1.1) k (Nat.le_refl _)
    have hws : w.heap.size ≤ wo.heap.size := HH.out.2.2.size
    by_cases hlt : k < len
    · have hlt2 : (k : Int) < (len : Int) := by omega
      have hck : (k : Int) ≤ (cap : Int) := by omega
      obtain ⟨kb, off, ea, hkb⟩ := HR.out.addr (by omega)
      subst ea
      obtain ⟨ra, rc, hrc, c0, c1, r5⟩ := (HR.out.below HH.out.2.2).cell hlt
      have HSZ := hid (HS.out k)
      have HJ : Hid (floT c (k + 1) = floT c k ++ stepT (c k)) := rfl
      obtain ⟨r, hr⟩ : ∃ r, c k = r := ⟨_, rfl⟩
      have HX : Hid (c k = r) := hr
      have HSR : Hid (STR wo ra r.rn r.rz) := by rw [hr] at r5; exact r5
      replace HSZ : Hid (r.rn ≤ maxLen ∧ ∀ i, (r.rz i).size ≤ maxLen) := by have := HSZ.out; rw [hr] at this; exact this
      rw [hr] at c0 c1 hrc HJ
      obtain ⟨over, rn, rz⟩ := r
      simp only at c0 c1 hrc
      clear hr r5
      go_wp2
      have bo : Below wo.heap.size wo (wo.alloc (.cells #[.int .i64 over, .slice ra rn rc] 46 (0, 0))) := (Below.refl _ _).alloc (Nat.le_refl _) _
      have XP : CB (wo.alloc (.cells #[.int .i64 over, .slice ra rn rc] 46 (0, 0))) wo.heap.size #[.int .i64 over, .slice ra rn rc] 46 := CB.new _ _
      have HBp := hid (bel_on HH.out.2.2 bo)
      have HLp := hid (HH.out.2.1.below bo)
      have HSp := hid (HSR.out.below bo)
      clear bo c0 c1
      generalize (wo.alloc (.cells #[.int .i64 over, .slice ra rn rc] 46 (0, 0))) = wp at XP HBp HLp HSp ⊢
      have x0 := (XP.cell 0).trans rfl
      have x1 := (XP.cell 1).trans rfl
      have HFO0 : Hid (∀ w' : World, Below wp.heap.size wp w' → Calls Tryd.prog 65 #[.agg #[.int .i64 over, .slice ra rn rc], .slice (some ⟨kb, off, none⟩) k cap] w' fun e w'' => e = .returned (.bool (folB c k)) ∧ Below w'.heap.size w' w'') := fun w' b => follow_any (some ⟨kb, off, none⟩) k cap c over ra rn rc rz w' (by omega) HX.out hrc HSZ.out.1 HSZ.out.2 (HSp.out.below b) ((HR.out.below (bel_on HBp.out b)).mono (by omega))
      have hB1 : Below wp.heap.size wp wp := Below.refl _ _
      have hB2 : Below wp.heap.size wp wp.drew := (Below.refl _ _).drew
      clear XP
      by_cases hfo : FolP c k
      rotate_left
      · have HFO := HFO0
        rw [folB_f hfo] at HFO
        have HV : Hid (shoT len c = nilT) := shoT_f fun q => hfo ⟨q.1.2 k hlt, by have := q.1.1; omega⟩
        clear hfo HFO0
        refine wp_region_noPanic ?_
        refine wp_region_held_drew (S := fun w' => w'.cell? ⟨wo.heap.size, 0, none⟩ = some (.int .i64 over) ∧ w'.cell? ⟨wo.heap.size, 1, none⟩ = some (.slice ra rn rc) ∧ Below wp.heap.size wp w') (by kernel_rfl) ?_ (fun hHeld => ?_)
        · (try dsimp only); refine ⟨?_, ?_, ?_⟩ <;> first | assumption | (simp [*, World.cell?_alloc_some]; done)
        refine wpAnyH_take (i := 0) (oi := { dst := some 13, op := Go.Op.load 46 (Go.Operand.tmp 5), type := 46, pos := "l11_papers.go:287", after := #[], guard := none }) (v := ?_) rfl (by kernel_rfl) (by kernel_rfl) (by kernel_rfl) (fun _ _ _ h => h) (Or.inl ⟨by rfl, ?_⟩) (by assumption) ?_
        rotate_left
        · (intro w hSw; (try dsimp only at hSw); go_simp <;> try with_reducible rfl)
        try simp only [Act.put, List.setIfInBounds_toArray, List.set_cons_zero, List.set_cons_succ]
        refine wpAnyH_take (i := 1) (oi := { dst := some 14, op := Go.Op.move (Go.Operand.tmp 0), type := 39, pos := "l11_papers.go:287", after := #[], guard := none }) (v := ?_) rfl (by kernel_rfl) (by kernel_rfl) (by kernel_rfl) (fun _ _ _ h => h) (Or.inl ⟨by rfl, ?_⟩) (by assumption) ?_
        rotate_left
        · (intro w hSw; (try dsimp only at hSw); go_simp <;> try with_reducible rfl)
        try simp only [Act.put, List.setIfInBounds_toArray, List.set_cons_zero, List.set_cons_succ]
        refine wpAnyH_take (i := 2) (oi := { dst := some 15, op := Go.Op.move (Go.Operand.tmp 4), type := 3, pos := "l11_papers.go:287", after := #[], guard := none }) (v := ?_) rfl (by kernel_rfl) (by kernel_rfl) (by kernel_rfl) (fun _ _ _ h => h) (Or.inl ⟨by rfl, ?_⟩) (by assumption) ?_
        rotate_left
        · (intro w hSw; (try dsimp only at hSw); go_simp <;> try with_reducible rfl)
        try simp only [Act.put, List.setIfInBounds_toArray, List.set_cons_zero, List.set_cons_succ]
        refine wpAnyH_take (i := 3) (oi := { dst := some 16, op := Go.Op.slice 39 (Go.Operand.tmp 14) none (some (Go.Operand.tmp 15)) none, type := 39, pos := "l11_papers.go:287", after := #[{ on := 1, ground := Go.Ground.data }, { on := 2, ground := Go.Ground.data }], guard := none }) (v := ?_) rfl (by kernel_rfl) (by kernel_rfl) (by kernel_rfl) (fun _ _ _ h => h) (Or.inl ⟨by rfl, ?_⟩) (by assumption) ?_
        rotate_left
        · (intro w hSw; (try dsimp only at hSw); go_simp <;> try with_reducible rfl)
        try simp only [Act.put, List.setIfInBounds_toArray, List.set_cons_zero, List.set_cons_succ]
        refine wpAnyH_ready (rs := [4]) (by kernel_rfl) (by simp) ?_
        refine AllReadyH.cons (o := { dst := some 17, op := Go.Op.call { callee := Go.Callee.value (Go.Operand.func 65), args := #[Go.Operand.tmp 13, Go.Operand.tmp 16], argTypes := #[46, 39] }, type := 4, pos := "l11_papers.go:287", after := #[{ on := 0, ground := Go.Ground.data }, { on := 3, ground := Go.Ground.data }], guard := none }) rfl (fun K hK => ?_) AllReadyH.nil
        go_simp
        (go_at_call 65; refine (HFO.out _ (by assumption)).mono ?_; rintro e w2 ⟨rfl, b2⟩; have q1_0 : w2.cell? ⟨wo.heap.size, 0, none⟩ = some (.int .i64 over) := keep_cell b2 (by simp [*]); have q1_1 : w2.cell? ⟨wo.heap.size, 1, none⟩ = some (.slice ra rn rc) := keep_cell b2 (by simp [*]); have p2 : Below wp.heap.size wp w2 := bel_on (by assumption) b2; clear b2)
        first | refine hK.out _ _ ?_ (fun hHeld => ?_) | (go_wp2_with fail; refine hK.out _ _ ?_ (fun hHeld => ?_))
        · (try dsimp only); refine ⟨?_, ?_, ?_⟩ <;> first | assumption | (simp [*, World.cell?_alloc_some]; done)
        clear hK K
        try simp only [Act.put, List.setIfInBounds_toArray, List.set_cons_zero, List.set_cons_succ]
        refine wpAnyH_take (i := 5) (oi := { dst := some 18, op := Go.Op.unOp Go.UnOp.not 4 (Go.Operand.tmp 17), type := 4, pos := "l11_papers.go:287", after := #[{ on := 4, ground := Go.Ground.data }], guard := none }) (v := ?_) rfl (by kernel_rfl) (by kernel_rfl) (by kernel_rfl) (fun _ _ _ h => h) (Or.inl ⟨by rfl, ?_⟩) (by assumption) ?_
        rotate_left
        · (intro w hSw; (try dsimp only at hSw); go_simp <;> try with_reducible rfl)
        try simp only [Act.put, List.setIfInBounds_toArray, List.set_cons_zero, List.set_cons_succ]
        refine wpAnyH_done (by kernel_rfl) ?_ _
        refine NoPanic.normal ?_
        go_wp2
        go_returns
        exact ⟨ret_t HV.out.symm, bel_on HBp.out p2⟩
      have HFO := HFO0
      rw [folB_t hfo] at HFO
      have HSP : Hid (StpP ⟨over, rn, rz⟩) := by have := hfo.1.1; rw [HX.out] at this; exact this
      have HFA : Hid (∀ j, j < k + 1 → FolP c j) := up_step HH.out.1 hfo
      have hk20 : k < 20 := hfo.2
      clear hfo HFO0
      refine wp_region_noPanic ?_
      refine wp_region_held_drew (S := fun w' => w'.cell? ⟨wo.heap.size, 0, none⟩ = some (.int .i64 over) ∧ w'.cell? ⟨wo.heap.size, 1, none⟩ = some (.slice ra rn rc) ∧ Below wp.heap.size wp w') (by kernel_rfl) ?_ (fun hHeld => ?_)
      · (try dsimp only); refine ⟨?_, ?_, ?_⟩ <;> first | assumption | (simp [*, World.cell?_alloc_some]; done)
      refine wpAnyH_take (i := 0) (oi := { dst := some 13, op := Go.Op.load 46 (Go.Operand.tmp 5), type := 46, pos := "l11_papers.go:287", after := #[], guard := none }) (v := ?_) rfl (by kernel_rfl) (by kernel_rfl) (by kernel_rfl) (fun _ _ _ h => h) (Or.inl ⟨by rfl, ?_⟩) (by assumption) ?_
      rotate_left
      · (intro w hSw; (try dsimp only at hSw); go_simp <;> try with_reducible rfl)
      try simp only [Act.put, List.setIfInBounds_toArray, List.set_cons_zero, List.set_cons_succ]
      refine wpAnyH_take (i := 1) (oi := { dst := some 14, op := Go.Op.move (Go.Operand.tmp 0), type := 39, pos := "l11_papers.go:287", after := #[], guard := none }) (v := ?_) rfl (by kernel_rfl) (by kernel_rfl) (by kernel_rfl) (fun _ _ _ h => h) (Or.inl ⟨by rfl, ?_⟩) (by assumption) ?_
      rotate_left
      · (intro w hSw; (try dsimp only at hSw); go_simp <;> try with_reducible rfl)
      try simp only [Act.put, List.setIfInBounds_toArray, List.set_cons_zero, List.set_cons_succ]
      refine wpAnyH_take (i := 2) (oi := { dst := some 15, op := Go.Op.move (Go.Operand.tmp 4), type := 3, pos := "l11_papers.go:287", after := #[], guard := none }) (v := ?_) rfl (by kernel_rfl) (by kernel_rfl) (by kernel_rfl) (fun _ _ _ h => h) (Or.inl ⟨by rfl, ?_⟩) (by assumption) ?_
      rotate_left
      · (intro w hSw; (try dsimp only at hSw); go_simp <;> try with_reducible rfl)
      try simp only [Act.put, List.setIfInBounds_toArray, List.set_cons_zero, List.set_cons_succ]
      refine wpAnyH_take (i := 3) (oi := { dst := some 16, op := Go.Op.slice 39 (Go.Operand.tmp 14) none (some (Go.Operand.tmp 15)) none, type := 39, pos := "l11_papers.go:287", after := #[{ on := 1, ground := Go.Ground.data }, { on := 2, ground := Go.Ground.data }], guard := none }) (v := ?_) rfl (by kernel_rfl) (by kernel_rfl) (by kernel_rfl) (fun _ _ _ h => h) (Or.inl ⟨by rfl, ?_⟩) (by assumption) ?_
      rotate_left
      · (intro w hSw; (try dsimp only at hSw); go_simp <;> try with_reducible rfl)
      try simp only [Act.put, List.setIfInBounds_toArray, List.set_cons_zero, List.set_cons_succ]
      refine wpAnyH_ready (rs := [4]) (by kernel_rfl) (by simp) ?_
      refine AllReadyH.cons (o := { dst := some 17, op := Go.Op.call { callee := Go.Callee.value (Go.Operand.func 65), args := #[Go.Operand.tmp 13, Go.Operand.tmp 16], argTypes := #[46, 39] }, type := 4, pos := "l11_papers.go:287", after := #[{ on := 0, ground := Go.Ground.data }, { on := 3, ground := Go.Ground.data }], guard := none }) rfl (fun K hK => ?_) AllReadyH.nil
      go_simp
      (go_at_call 65; refine (HFO.out _ (by assumption)).mono ?_; rintro e w2 ⟨rfl, b2⟩; have q1_0 : w2.cell? ⟨wo.heap.size, 0, none⟩ = some (.int .i64 over) := keep_cell b2 (by simp [*]); have q1_1 : w2.cell? ⟨wo.heap.size, 1, none⟩ = some (.slice ra rn rc) := keep_cell b2 (by simp [*]); have p2 : Below wp.heap.size wp w2 := bel_on (by assumption) b2; clear b2)
      first | refine hK.out _ _ ?_ (fun hHeld => ?_) | (go_wp2_with fail; refine hK.out _ _ ?_ (fun hHeld => ?_))
      · (try dsimp only); refine ⟨?_, ?_, ?_⟩ <;> first | assumption | (simp [*, World.cell?_alloc_some]; done)
      clear hK K
      try simp only [Act.put, List.setIfInBounds_toArray, List.set_cons_zero, List.set_cons_succ]
      refine wpAnyH_take (i := 5) (oi := { dst := some 18, op := Go.Op.unOp Go.UnOp.not 4 (Go.Operand.tmp 17), type := 4, pos := "l11_papers.go:287", after := #[{ on := 4, ground := Go.Ground.data }], guard := none }) (v := ?_) rfl (by kernel_rfl) (by kernel_rfl) (by kernel_rfl) (fun _ _ _ h => h) (Or.inl ⟨by rfl, ?_⟩) (by assumption) ?_
      rotate_left
      · (intro w hSw; (try dsimp only at hSw); go_simp <;> try with_reducible rfl)
      try simp only [Act.put, List.setIfInBounds_toArray, List.set_cons_zero, List.set_cons_succ]
      refine wpAnyH_done (by kernel_rfl) ?_ _
      refine NoPanic.normal ?_
      have HL2 := hid (HLp.out.below p2)
      have HB2 := hid (bel_on HBp.out p2)
      have HS2 := hid (HSp.out.below p2)
      have hw2 : w.heap.size ≤ w2.heap.size := HB2.out.size
      have ssz := stepT_size HSP.out
      go_wp2_with (first
        | (go_at_call 67; go_loud (refine (line_any over ra rn rc rz _ HSP.out hrc HS2.out (HT.out.below HB2.out)).mono ?_; rintro e w3 ⟨rfl, b3⟩; have HB3 : Hid (Below w.heap.size w w3) := bel_on HB2.out b3; have HL3 := hid (HL2.out.below b3); clear b3))
        | (go_at_call 66; go_loud (refine (Tryd.Builder_WriteString w.heap.size w.heap.size _ _ _ HL3.out (by rw [bytes_len]; omega) HB3.out.size).mono ?_; rintro e w4 ⟨rfl, g4, b4⟩; rw [cells_add, ← HJ.out] at g4; have HB4 : Hid (Below w.heap.size w w4) := HB3.out.trans b4; have HL4 : Hid (BLD w4 w.heap.size (floT c (k + 1))) := .inr g4; clear b4 g4)))
      go_roundw
      case rel => exact ⟨k + 1, by omega, by go_num, HFA.out, HL4.out, HB4.out⟩
      case measure => simp [intOf]; omega
    · obtain rfl : k = len := by omega
      have lkk : ¬ (k : Int) < (k : Int) := by omega
      have HFP : Hid (FloP k c) := fol_flo HH.out.1
      have HLN := hid (Tryd.Builder_Len w.heap.size w.heap.size _ wo HH.out.2.1)
      have HST := hid (Tryd.Builder_String_any w.heap.size w.heap.size _ wo HH.out.2.1 hws)
      rw [bytes_len] at HLN
      have HVt : Hid ((floT c k).size ≤ 2000 → floT c k = shoT k c) := fun g => (shoT_t HFP.out g).symm
      have HVf : Hid (¬ (floT c k).size ≤ 2000 → shoT k c = nilT) := fun g => shoT_f fun q => g q.2
      have hde : (⟨(floT c k).data.toList.toArray⟩ : ByteArray) = floT c k := rfl
      rw [hde] at HST
      obtain ⟨T, hT0⟩ : ∃ x, floT c k = x := ⟨_, rfl⟩
      rw [hT0] at HLN HVt HVf HST
      clear hT0 hde hfz
      by_cases hbig : (2000 : Int) < (T.size : Int)
      · have HV := hid (HVf.out (by omega))
        go_wp2_with (go_at_call 68; refine HLN.out.mono ?_; rintro e w1 ⟨rfl, ew⟩; replace ew := ew.symm; subst ew)
        go_returns
        exact ⟨ret_t HV.out.symm, HH.out.2.2⟩
      · have HV := hid (HVt.out (by omega))
        go_wp2_with (first
          | (go_at_call 68; refine HLN.out.mono ?_; rintro e w1 ⟨rfl, ew⟩; replace ew := ew.symm; subst ew)
          | (go_at_call 69; go_loud (refine HST.out.mono ?_; rintro e w6 ⟨rfl, b6⟩; have HB6 : Hid (Below w.heap.size w w6) := HH.out.2.2.trans b6; clear b6)))
        go_returns
        exact ⟨ret_t HV.out, HB6.out⟩
end Go.Proofs.YtdhpadcihlmhiaaDoor
