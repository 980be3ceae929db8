/- FnExactReverse: at every argument that the law takes Reverse answers as the model, field by field, writes into no argument and keeps nothing of one, and its answer owns its memory, behind another call too. Conditions: the three listed tables of the library and the seven listed refusals read as the text lays them, as the card says. -/
import Derived.Test.YtgnhpjlfdkpaiaaDoorFrX
import Derived.Deep.Cut
import Derived.Deep.RegionHeld3
import Derived.Test.YtgnhpjlfdkpaiaaDoorFl
import Derived.Test.YtgnhpjlfdkpaiaaDoorFm
import Derived.Test.YtgnhpjlfdkpaiaaDoorLl
import Derived.Test.YtgnhpjlfdkpaiaaDoorRV2
import Derived.Test.YtgnhpjlfdkpaiaaDoorTie
import Derived.Test.YtgnhpjlfdkpaiaaDoorCards
import Derived.SevenTiedAt
import Derived.OpenVars
import Derived.ChangeVars
import Derived.Carry
import Derived.Lib.SmallJoins
namespace Go.Proofs.YtgnhpjlfdkpaiaaDoor.fnExactReverse
open Go.ChangeShapes Go.WideShapes Go.ChangeAt Go.WideMaps Go.WideElems Go.RowKit
set_option linter.unusedVariables false
set_option linter.unusedSimpArgs false

set_option maxRecDepth 20000 in
set_option maxHeartbeats 4000000 in
theorem walk (fa : Option Addr) (flen fcap : Nat) (fc : Nat → C3) (fd fu : Int) (ad : Option Addr) (len cap : Nat) (es : Nat → E4) (hd : Int) (a2 : Int) (a3 : Int) (w : World) (hfl : flen ≤ maxLen) (hfc : ∀ j, (fc j).code.size ≤ maxLen) (hfr : CR w fa flen fc) (hl : len ≤ maxLen) (hm : ∀ j, (es j).text.size ≤ maxLen ∧ (es j).n ≤ maxLen) (hr : ER w ad len es) (hE0 : EL w ∧ TP w) :
    Calls Tryd.prog 10 #[.agg #[.slice fa flen fcap, .int .i64 fd, .int .i64 fu], .agg #[.slice ad len cap, .int .i64 hd], .int .i64 a2, .int .i64 a3] w fun e w' => e = .returned (.bool true) ∧ Below w.heap.size w w' := by
  obtain ⟨hE, hTP⟩ := hE0
  have HR : Hid (CR w fa flen fc) := hfr
  have HLd : Hid (ER w ad len es) := hr
  have hl2 := size_small hfl
  have hll := size_small hl
  have hc2 : Hid (∀ j, ((fc j).code.size : Int) ≤ 9223372036854775807) := fun j => size_small (hfc j)
  have hm2 : Hid (∀ j, ((es j).text.size : Int) ≤ 9223372036854775807 ∧ ((es j).n : Int) ≤ 9223372036854775807) := fun j => ⟨size_small (hm j).1, size_small (hm j).2⟩
  have HC : Hid (∀ j, (fc j).code.size ≤ maxLen) := hfc
  have HE : Hid (EL w) := hE
  have HTP : Hid (TP w) := hTP
  have h9 := hE.nine
  have HT0 : Hid (TC w fa flen fcap fc fd fu ad len cap es hd ((w.alloc (.cells #[.slice fa flen fcap, .int .i64 fd, .int .i64 fu] 59 (0, 0))).alloc (.cells #[.slice ad len cap, .int .i64 hd] 74 (0, 0)))) := ⟨(CB.new _ _).alloc _, CB.newAt (by simp) _ _, (hfr.alloc _).alloc _, hr.below (((Below.refl _ _).alloc (Nat.le_refl _) _).alloc (by simp) _), ((Below.refl _ _).alloc (Nat.le_refl _) _).alloc (by simp) _⟩
  clear hfr hfc hE hr hm hTP
  go_enter Tryd.func10, Tryd.ntmps10
  go_wp2_with (first
    | (go_at_call 29; refine (szFrame_any _ _ _ fc _ _ _ hl2 hc2.out HT0.out.cr).mono ?_; rintro e w1 ⟨v, rfl, hv, b1⟩; have HT1 : Hid (TC w fa flen fcap fc fd fu ad len cap es hd w1) := HT0.out.below b1; have af0 : w1.cell? ⟨w.heap.size, 0, none⟩ = some (.slice fa flen fcap) := (HT1.out.xf.cell 0).trans rfl; have af1 : w1.cell? ⟨w.heap.size, 1, none⟩ = some (.int .i64 fd) := (HT1.out.xf.cell 1).trans rfl; have af2 : w1.cell? ⟨w.heap.size, 2, none⟩ = some (.int .i64 fu) := (HT1.out.xf.cell 2).trans rfl; have al0 : w1.cell? ⟨w.heap.size + 1, 0, none⟩ = some (.slice ad len cap) := (HT1.out.xl.cell 0).trans rfl; have al1 : w1.cell? ⟨w.heap.size + 1, 1, none⟩ = some (.int .i64 hd) := (HT1.out.xl.cell 1).trans rfl; clear b1; rcases hv with rfl | ⟨hv, hv2, hb⟩)
    | (go_at_call 38; refine (szLedger_any _ _ _ es _ _ _ hv hv2 hll hm2.out HT1.out.er).mono ?_; rintro e w2 ⟨v2, rfl, hw, b2⟩; have HT2 : Hid (TC w fa flen fcap fc fd fu ad len cap es hd w2) := HT1.out.below b2; clear af0 af1 af2 al0 al1; clear b2; rcases hw with rfl | ⟨hw, hw2, hnn, hnj⟩))
  · go_returns
    exact ⟨rfl, HT1.out.bl⟩
  · go_returns
    exact ⟨rfl, HT2.out.bl⟩
  have HNJ : Hid (∀ j, j < len → ((es j).n : Int) ≤ 1048576) := hnj
  obtain ⟨R, hR⟩ : ∃ R, rvE flen fc fd fu len es hd a2 a3 = R := ⟨_, rfl⟩
  obtain ⟨RB, hRB⟩ : ∃ RB, rvB flen fc fd fu len es hd a2 a3 = RB := ⟨_, rfl⟩
  have hRn : (R.n : Int) ≤ 60 := by
    rw [← hR]
    by_cases h : RvOk flen fc fd fu len es hd a2 a3
    · rw [rvE_t h]
      have hk : a2.toNat < len := by have := h.2.1; omega
      have := (lsB_out (enB_out ((leB_out h.1).2.2.1 a2.toNat hk)).2.2.2.2).2.1
      show (((es a2.toNat).n : Nat) : Int) ≤ 60
      omega
    · rw [rvE_f h]; show ((0 : Nat) : Int) ≤ 60; omega
  have HSP : Hid (∀ (fa' : Option Addr) (cp : Nat) (la : Option Addr) (lc : Nat) (w' : World), CR w' fa' flen fc → ER w' la len es → Calls Tryd.prog 24 #[.agg #[.slice fa' flen cp, .int .i64 fd, .int .i64 fu], .agg #[.slice la len lc, .int .i64 hd], .int .i64 a2, .int .i64 a3] w' (RvS R RB w')) := fun fa' cp la lc w' h1 h2 => hR ▸ hRB ▸ specReverse_any fa' flen cp fc fd fu la len lc es hd a2 a3 w' hb HC.out h1 h2 (fun j => (hm2.out j).1) HNJ.out hnn
  have HIM : Hid (∀ (fa' : Option Addr) (cp : Nat) (la : Option Addr) (lc : Nat) (w' : World), CR w' fa' flen fc → EL w' → TP w' → ER w' la len es → Calls Tryd.prog 23 #[.agg #[.slice fa' flen cp, .int .i64 fd, .int .i64 fu], .agg #[.slice la len lc, .int .i64 hd], .int .i64 a2, .int .i64 a3] w' (RvI R RB w')) := fun fa' cp la lc w' h1 h2 h4 h3 => hR ▸ hRB ▸ implReverse_any fa' flen cp fc fd fu la len lc es hd a2 a3 w' hb HC.out h1 h2 h3 h4 hnn
  have hRn2 : (R.n : Int) ≤ 1048576 := by omega
  clear hnj hR hRB
  have T2 : Hid (TC w fa flen fcap fc fd fu ad len cap es hd w2.drew) := HT2.out.drew
  go_cut [10, 11] from 21 (fun s10 s11 wx => ∃ P oa oc, s10 = .pointer (some ⟨P, 0, none⟩) ∧ s11 = .bool RB ∧ CB wx P #[.int .i64 R.day, .int .i64 R.ref, .string R.text, .slice oa R.n oc] 32 ∧ OldR wx.heap.size wx oa R.n R.ls ∧ TC w fa flen fcap fc fd fu ad len cap es hd wx ∧ w.heap.size + 2 ≤ P)
  case first =>
    refine wp_region_held_drew (S := fun w' => w'.cell? ⟨w.heap.size, 0, none⟩ = some (.slice fa flen fcap) ∧ w'.cell? ⟨w.heap.size, 1, none⟩ = some (.int .i64 fd) ∧ w'.cell? ⟨w.heap.size, 2, none⟩ = some (.int .i64 fu) ∧ w'.cell? ⟨w.heap.size + 1, 0, none⟩ = some (.slice ad len cap) ∧ w'.cell? ⟨w.heap.size + 1, 1, none⟩ = some (.int .i64 hd)) (by kernel_rfl) (by exact T2.out.cells) (fun hHeld => ?_)
    refine wpAnyH_take (i := 0) (oi := { dst := some 32, op := Go.Op.load 59 (Go.Operand.tmp 4), type := 59, pos := "exact.go:7336", after := #[], guard := none }) (v := ?_) rfl (by kernel_rfl) (by kernel_rfl) (by kernel_rfl) (fun _ _ _ h => h) (Or.inl ⟨by rfl, ?_⟩) (by assumption) ?_
    rotate_left
    · (intro w hSw; (try dsimp only at hSw); go_simp <;> try with_reducible rfl)
    try simp only [Act.put, List.setIfInBounds_toArray, List.set_cons_zero, List.set_cons_succ]
    refine wpAnyH_take (i := 2) (oi := { dst := some 34, op := Go.Op.load 74 (Go.Operand.tmp 5), type := 74, pos := "exact.go:7336", after := #[], guard := none }) (v := ?_) rfl (by kernel_rfl) (by kernel_rfl) (by kernel_rfl) (fun _ _ _ h => h) (Or.inl ⟨by rfl, ?_⟩) (by assumption) ?_
    rotate_left
    · (intro w hSw; (try dsimp only at hSw); go_simp <;> try with_reducible rfl)
    try simp only [Act.put, List.setIfInBounds_toArray, List.set_cons_zero, List.set_cons_succ]
    refine wpAnyH_take (i := 4) (oi := { dst := some 36, op := Go.Op.move (Go.Operand.tmp 2), type := 3, pos := "exact.go:7336", after := #[], guard := none }) (v := ?_) rfl (by kernel_rfl) (by kernel_rfl) (by kernel_rfl) (fun _ _ _ h => h) (Or.inl ⟨by rfl, ?_⟩) (by assumption) ?_
    rotate_left
    · (intro w hSw; (try dsimp only at hSw); go_simp <;> try with_reducible rfl)
    try simp only [Act.put, List.setIfInBounds_toArray, List.set_cons_zero, List.set_cons_succ]
    refine wpAnyH_take (i := 5) (oi := { dst := some 37, op := Go.Op.move (Go.Operand.tmp 3), type := 3, pos := "exact.go:7336", after := #[], guard := none }) (v := ?_) rfl (by kernel_rfl) (by kernel_rfl) (by kernel_rfl) (fun _ _ _ h => h) (Or.inl ⟨by rfl, ?_⟩) (by assumption) ?_
    rotate_left
    · (intro w hSw; (try dsimp only at hSw); go_simp <;> try with_reducible rfl)
    try simp only [Act.put, List.setIfInBounds_toArray, List.set_cons_zero, List.set_cons_succ]
    refine wpAnyH_ready (rs := [1, 10]) (by kernel_rfl) (by simp) ?_
    refine AllReadyH.cons (o := { dst := some 33, op := Go.Op.call { callee := Go.Callee.value (Go.Operand.func 31), args := #[Go.Operand.tmp 32], argTypes := #[59] }, type := 26, pos := "exact.go:7336", after := #[{ on := 0, ground := Go.Ground.data }], guard := none }) rfl (fun K hK => ?_) (AllReadyH.cons (o := { dst := some 10, op := Go.Op.alloc 32, type := 0, pos := "exact.go:7336", after := #[], guard := none }) rfl (fun K hK => ?_) (AllReadyH.nil))
    · go_simp
      refine (toFrame_any _ _ _ fc _ _ _ hb T2.out.cr).mono ?_
      rintro e w31 ⟨ba31, rfl, _, i31, b31⟩
      have s31 : w2.heap.size ≤ w31.heap.size := by have := b31.size; first | exact this | (simp at this; omega)
      have T31 : Hid (TC w fa flen fcap fc fd fu ad len cap es hd w31) := T2.out.below b31
      have I31 : Hid (CR w31 (some ⟨ba31, 0, none⟩) flen fc) := i31
      clear i31 b31
      first | refine hK.out _ _ (by exact T31.out.cells) (fun hHeld => ?_) | (go_wp2_with fail; refine hK.out _ _ (by exact T31.out.cells) (fun hHeld => ?_))
      clear hK K
      try simp only [Act.put, List.setIfInBounds_toArray, List.set_cons_zero, List.set_cons_succ]
      refine wpAnyH_ready (rs := [3, 10]) (by kernel_rfl) (by simp) ?_
      refine AllReadyH.cons (o := { dst := some 35, op := Go.Op.call { callee := Go.Callee.value (Go.Operand.func 40), args := #[Go.Operand.tmp 34], argTypes := #[74] }, type := 29, pos := "exact.go:7336", after := #[{ on := 2, ground := Go.Ground.data }, { on := 1, ground := Go.Ground.chain }], guard := none }) rfl (fun K hK => ?_) (AllReadyH.cons (o := { dst := some 10, op := Go.Op.alloc 32, type := 0, pos := "exact.go:7336", after := #[], guard := none }) rfl (fun K hK => ?_) (AllReadyH.nil))
      · go_simp
        refine (toLedger_any _ _ _ es _ _ hnn HNJ.out T31.out.er).mono ?_
        rintro e w32 ⟨be32, bl32, rfl, _, _, i32, b32⟩
        have s32 : w31.heap.size ≤ w32.heap.size := by have := b32.size; first | exact this | (simp at this; omega)
        have I32 : Hid (CR w32 (some ⟨ba31, 0, none⟩) flen fc) := I31.out.below b32
        have T32 : Hid (TC w fa flen fcap fc fd fu ad len cap es hd w32) := T31.out.below b32
        have E32 : Hid (ER w32 (some ⟨be32, 0, none⟩) len es) := i32.row
        clear i32 b32
        first | refine hK.out _ _ (by exact T32.out.cells) (fun hHeld => ?_) | (go_wp2_with fail; refine hK.out _ _ (by exact T32.out.cells) (fun hHeld => ?_))
        clear hK K
        try simp only [Act.put, List.setIfInBounds_toArray, List.set_cons_zero, List.set_cons_succ]
        refine wpAnyH_ready (rs := [6, 10]) (by kernel_rfl) (by simp) ?_
        refine AllReadyH.cons (o := { dst := some 38, op := Go.Op.call { callee := Go.Callee.value (Go.Operand.func 24), args := #[Go.Operand.tmp 33, Go.Operand.tmp 35, Go.Operand.tmp 36, Go.Operand.tmp 37], argTypes := #[26, 29, 3, 3] }, type := 46, pos := "exact.go:7336", after := #[{ on := 1, ground := Go.Ground.data }, { on := 3, ground := Go.Ground.data }, { on := 4, ground := Go.Ground.data }, { on := 5, ground := Go.Ground.data }, { on := 3, ground := Go.Ground.chain }], guard := none }) rfl (fun K hK => ?_) (AllReadyH.cons (o := { dst := some 10, op := Go.Op.alloc 32, type := 0, pos := "exact.go:7336", after := #[], guard := none }) rfl (fun K hK => ?_) (AllReadyH.nil))
        · go_simp
          refine (HSP.out _ _ _ _ _ I32.out E32.out).mono ?_
          rintro e w33 ⟨oa, oc, rfl, i33, b33⟩
          have s33 : w32.heap.size ≤ w33.heap.size := by have := b33.size; first | exact this | (simp at this; omega)
          have I33 : Hid (CR w33 (some ⟨ba31, 0, none⟩) flen fc) := I32.out.below b33
          have E33 : Hid (ER w33 (some ⟨be32, 0, none⟩) len es) := E32.out.below b33
          have T33 : Hid (TC w fa flen fcap fc fd fu ad len cap es hd w33) := T32.out.below b33
          have O33 : Hid (NewR w32.heap.size w33 oa R.n R.ls) := i33
          clear i33 b33
          first | refine hK.out _ _ (by exact T33.out.cells) (fun hHeld => ?_) | (go_wp2_with fail; refine hK.out _ _ (by exact T33.out.cells) (fun hHeld => ?_))
          clear hK K
          try simp only [Act.put, List.setIfInBounds_toArray, List.set_cons_zero, List.set_cons_succ]
          refine wpAnyH_take (i := 7) (oi := { dst := some 31, op := Go.Op.move (Go.Operand.tmp 38), type := 46, pos := "exact.go:7336", after := #[{ on := 6, ground := Go.Ground.data }], guard := none }) (v := ?_) rfl (by kernel_rfl) (by kernel_rfl) (by kernel_rfl) (fun _ _ _ h => h) (Or.inl ⟨by rfl, ?_⟩) (by assumption) ?_
          rotate_left
          · (intro w hSw; (try dsimp only at hSw); go_simp <;> try with_reducible rfl)
          try simp only [Act.put, List.setIfInBounds_toArray, List.set_cons_zero, List.set_cons_succ]
          refine wpAnyH_take (i := 8) (oi := { dst := some 39, op := Go.Op.extract (Go.Operand.tmp 31) 0, type := 32, pos := "exact.go:7336", after := #[{ on := 7, ground := Go.Ground.data }], guard := none }) (v := ?_) rfl (by kernel_rfl) (by kernel_rfl) (by kernel_rfl) (fun _ _ _ h => h) (Or.inl ⟨by rfl, ?_⟩) (by assumption) ?_
          rotate_left
          · (intro w hSw; (try dsimp only at hSw); go_simp <;> try with_reducible rfl)
          try simp only [Act.put, List.setIfInBounds_toArray, List.set_cons_zero, List.set_cons_succ]
          refine wpAnyH_take (i := 9) (oi := { dst := some 40, op := Go.Op.extract (Go.Operand.tmp 31) 1, type := 4, pos := "exact.go:7336", after := #[{ on := 7, ground := Go.Ground.data }, { on := 11, ground := Go.Ground.gcOnly Go.Departure.lateStores }], guard := none }) (v := ?_) rfl (by kernel_rfl) (by kernel_rfl) (by kernel_rfl) (fun _ _ _ h => h) (Or.inl ⟨by rfl, ?_⟩) (by assumption) ?_
          rotate_left
          · (intro w hSw; (try dsimp only at hSw); go_simp <;> try with_reducible rfl)
          try simp only [Act.put, List.setIfInBounds_toArray, List.set_cons_zero, List.set_cons_succ]
          refine wpAnyH_ready (rs := [10]) (by kernel_rfl) (by simp) ?_
          refine AllReadyH.cons (o := { dst := some 10, op := Go.Op.alloc 32, type := 0, pos := "exact.go:7336", after := #[], guard := none }) rfl (fun K hK => ?_) (AllReadyH.nil)
          go_simp
          have bb34 : Below w33.heap.size w33 (w33.alloc (.cells #[.int .i64 0, .int .i64 0, .string ⟨#[]⟩, .slice none 0 0] 32 (0, 0))) := (Below.refl _ _).alloc (Nat.le_refl _) _
          have I34 : Hid (CR (w33.alloc (.cells #[.int .i64 0, .int .i64 0, .string ⟨#[]⟩, .slice none 0 0] 32 (0, 0))) (some ⟨ba31, 0, none⟩) flen fc) := I33.out.below bb34
          have E34 : Hid (ER (w33.alloc (.cells #[.int .i64 0, .int .i64 0, .string ⟨#[]⟩, .slice none 0 0] 32 (0, 0))) (some ⟨be32, 0, none⟩) len es) := E33.out.below bb34
          have O34 : Hid (NewR w32.heap.size (w33.alloc (.cells #[.int .i64 0, .int .i64 0, .string ⟨#[]⟩, .slice none 0 0] 32 (0, 0))) oa R.n R.ls) := O33.out.below bb34
          have T34 : Hid (TC w fa flen fcap fc fd fu ad len cap es hd (w33.alloc (.cells #[.int .i64 0, .int .i64 0, .string ⟨#[]⟩, .slice none 0 0] 32 (0, 0)))) := T33.out.below bb34
          have Z34 : Hid (CB (w33.alloc (.cells #[.int .i64 0, .int .i64 0, .string ⟨#[]⟩, .slice none 0 0] 32 (0, 0))) w33.heap.size #[.int .i64 0, .int .i64 0, .string ⟨#[]⟩, .slice none 0 0] 32) := CB.newAt (by rfl) _ _
          clear bb34
          first | refine hK.out _ _ (by exact T34.out.cells) (fun hHeld => ?_) | (go_wp2_with fail; refine hK.out _ _ (by exact T34.out.cells) (fun hHeld => ?_))
          clear hK K
          try simp only [Act.put, List.setIfInBounds_toArray, List.set_cons_zero, List.set_cons_succ]
          have zl35 : w.heap.size + 2 ≤ w33.heap.size := by have : w.heap.size + 2 ≤ w2.heap.size := T2.out.lt; omega
          refine wpAnyH_ready (rs := [11]) (by kernel_rfl) (by simp) ?_
          refine AllReadyH.cons (o := { dst := none, op := Go.Op.store 32 (Go.Operand.tmp 10) (Go.Operand.tmp 39), type := 0, pos := "exact.go:7336", after := #[{ on := 10, ground := Go.Ground.data }, { on := 8, ground := Go.Ground.data }, { on := 6, ground := Go.Ground.chain }, { on := 0, ground := Go.Ground.phase }, { on := 1, ground := Go.Ground.phase }, { on := 2, ground := Go.Ground.phase }, { on := 3, ground := Go.Ground.phase }, { on := 4, ground := Go.Ground.phase }, { on := 5, ground := Go.Ground.phase }, { on := 6, ground := Go.Ground.phase }, { on := 7, ground := Go.Ground.phase }, { on := 8, ground := Go.Ground.phase }, { on := 9, ground := Go.Ground.textOnly Go.Departure.lateStores }, { on := 10, ground := Go.Ground.phase }], guard := none }) rfl (fun K hK => ?_) (AllReadyH.nil)
          go_simp
          have T35 : Hid (TC w fa flen fcap fc fd fu ad len cap es hd (w33.alloc (.cells #[.int .i64 R.day, .int .i64 R.ref, .string R.text, .slice oa R.n oc] 32 (0, 0)))) := T33.out.alloc _
          have Z35 : Hid (CB (w33.alloc (.cells #[.int .i64 R.day, .int .i64 R.ref, .string R.text, .slice oa R.n oc] 32 (0, 0))) w33.heap.size #[.int .i64 R.day, .int .i64 R.ref, .string R.text, .slice oa R.n oc] 32) := CB.newAt (by rfl) _ _
          have O35 : Hid (NewR w32.heap.size (w33.alloc (.cells #[.int .i64 R.day, .int .i64 R.ref, .string R.text, .slice oa R.n oc] 32 (0, 0))) oa R.n R.ls) := O33.out.below ((Below.refl _ _).alloc (Nat.le_refl _) _)
          first | refine hK.out _ _ (by exact T35.out.cells) (fun hHeld => ?_) | (go_wp2_with fail; refine hK.out _ _ (by exact T35.out.cells) (fun hHeld => ?_))
          clear hK K
          try simp only [Act.put, List.setIfInBounds_toArray, List.set_cons_zero, List.set_cons_succ]
          refine wpAnyH_ready (rs := [12]) (by kernel_rfl) (by simp) ?_
          refine AllReadyH.cons (o := { dst := some 11, op := Go.Op.assign (Go.Operand.tmp 40), type := 4, pos := "exact.go:7336", after := #[{ on := 9, ground := Go.Ground.data }, { on := 11, ground := Go.Ground.chain }, { on := 0, ground := Go.Ground.phase }, { on := 1, ground := Go.Ground.phase }, { on := 2, ground := Go.Ground.phase }, { on := 3, ground := Go.Ground.phase }, { on := 4, ground := Go.Ground.phase }, { on := 5, ground := Go.Ground.phase }, { on := 6, ground := Go.Ground.phase }, { on := 7, ground := Go.Ground.phase }, { on := 8, ground := Go.Ground.phase }, { on := 9, ground := Go.Ground.phase }, { on := 10, ground := Go.Ground.phase }, { on := 11, ground := Go.Ground.phase }], guard := none }) rfl (fun K hK => ?_) (AllReadyH.nil)
          go_simp
          first | refine hK.out _ _ (by exact T35.out.cells) (fun hHeld => ?_) | (go_wp2_with fail; refine hK.out _ _ (by exact T35.out.cells) (fun hHeld => ?_))
          clear hK K
          try simp only [Act.put, List.setIfInBounds_toArray, List.set_cons_zero, List.set_cons_succ]
          refine wpAnyH_done (by kernel_rfl) ?_ _
          clear hHeld
          go_wp2_with fail
          go_meet
          exact ⟨_, oa, oc, rfl, rfl, Z35.out, O35.out.old, T35.out, zl35⟩
        · go_simp
          have bb36 : Below w32.heap.size w32 (w32.alloc (.cells #[.int .i64 0, .int .i64 0, .string ⟨#[]⟩, .slice none 0 0] 32 (0, 0))) := (Below.refl _ _).alloc (Nat.le_refl _) _
          have I36 : Hid (CR (w32.alloc (.cells #[.int .i64 0, .int .i64 0, .string ⟨#[]⟩, .slice none 0 0] 32 (0, 0))) (some ⟨ba31, 0, none⟩) flen fc) := I32.out.below bb36
          have E36 : Hid (ER (w32.alloc (.cells #[.int .i64 0, .int .i64 0, .string ⟨#[]⟩, .slice none 0 0] 32 (0, 0))) (some ⟨be32, 0, none⟩) len es) := E32.out.below bb36
          have T36 : Hid (TC w fa flen fcap fc fd fu ad len cap es hd (w32.alloc (.cells #[.int .i64 0, .int .i64 0, .string ⟨#[]⟩, .slice none 0 0] 32 (0, 0)))) := T32.out.below bb36
          have Z36 : Hid (CB (w32.alloc (.cells #[.int .i64 0, .int .i64 0, .string ⟨#[]⟩, .slice none 0 0] 32 (0, 0))) w32.heap.size #[.int .i64 0, .int .i64 0, .string ⟨#[]⟩, .slice none 0 0] 32) := CB.newAt (by rfl) _ _
          clear bb36
          first | refine hK.out _ _ (by exact T36.out.cells) (fun hHeld => ?_) | (go_wp2_with fail; refine hK.out _ _ (by exact T36.out.cells) (fun hHeld => ?_))
          clear hK K
          try simp only [Act.put, List.setIfInBounds_toArray, List.set_cons_zero, List.set_cons_succ]
          refine wpAnyH_ready (rs := [6]) (by kernel_rfl) (by simp) ?_
          refine AllReadyH.cons (o := { dst := some 38, op := Go.Op.call { callee := Go.Callee.value (Go.Operand.func 24), args := #[Go.Operand.tmp 33, Go.Operand.tmp 35, Go.Operand.tmp 36, Go.Operand.tmp 37], argTypes := #[26, 29, 3, 3] }, type := 46, pos := "exact.go:7336", after := #[{ on := 1, ground := Go.Ground.data }, { on := 3, ground := Go.Ground.data }, { on := 4, ground := Go.Ground.data }, { on := 5, ground := Go.Ground.data }, { on := 3, ground := Go.Ground.chain }], guard := none }) rfl (fun K hK => ?_) (AllReadyH.nil)
          go_simp
          refine (HSP.out _ _ _ _ _ I36.out E36.out).mono ?_
          rintro e w37 ⟨oa, oc, rfl, i37, b37⟩
          have s37 : w32.heap.size ≤ w37.heap.size := by have := b37.size; first | exact this | (simp at this; omega)
          have ol37 : w32.heap.size < (w32.alloc (.cells #[.int .i64 0, .int .i64 0, .string ⟨#[]⟩, .slice none 0 0] 32 (0, 0))).heap.size := Z36.out.lt
          have Z37 : Hid (CB w37 w32.heap.size #[.int .i64 0, .int .i64 0, .string ⟨#[]⟩, .slice none 0 0] 32) := Z36.out.below b37 Z36.out.lt
          have I37 : Hid (CR w37 (some ⟨ba31, 0, none⟩) flen fc) := I36.out.below b37
          have E37 : Hid (ER w37 (some ⟨be32, 0, none⟩) len es) := E36.out.below b37
          have T37 : Hid (TC w fa flen fcap fc fd fu ad len cap es hd w37) := T36.out.below b37
          have O37 : Hid (NewR (w32.alloc (.cells #[.int .i64 0, .int .i64 0, .string ⟨#[]⟩, .slice none 0 0] 32 (0, 0))).heap.size w37 oa R.n R.ls) := i37
          clear i37 b37
          first | refine hK.out _ _ (by exact T37.out.cells) (fun hHeld => ?_) | (go_wp2_with fail; refine hK.out _ _ (by exact T37.out.cells) (fun hHeld => ?_))
          clear hK K
          try simp only [Act.put, List.setIfInBounds_toArray, List.set_cons_zero, List.set_cons_succ]
          refine wpAnyH_take (i := 7) (oi := { dst := some 31, op := Go.Op.move (Go.Operand.tmp 38), type := 46, pos := "exact.go:7336", after := #[{ on := 6, ground := Go.Ground.data }], guard := none }) (v := ?_) rfl (by kernel_rfl) (by kernel_rfl) (by kernel_rfl) (fun _ _ _ h => h) (Or.inl ⟨by rfl, ?_⟩) (by assumption) ?_
          rotate_left
          · (intro w hSw; (try dsimp only at hSw); go_simp <;> try with_reducible rfl)
          try simp only [Act.put, List.setIfInBounds_toArray, List.set_cons_zero, List.set_cons_succ]
          refine wpAnyH_take (i := 8) (oi := { dst := some 39, op := Go.Op.extract (Go.Operand.tmp 31) 0, type := 32, pos := "exact.go:7336", after := #[{ on := 7, ground := Go.Ground.data }], guard := none }) (v := ?_) rfl (by kernel_rfl) (by kernel_rfl) (by kernel_rfl) (fun _ _ _ h => h) (Or.inl ⟨by rfl, ?_⟩) (by assumption) ?_
          rotate_left
          · (intro w hSw; (try dsimp only at hSw); go_simp <;> try with_reducible rfl)
          try simp only [Act.put, List.setIfInBounds_toArray, List.set_cons_zero, List.set_cons_succ]
          refine wpAnyH_take (i := 9) (oi := { dst := some 40, op := Go.Op.extract (Go.Operand.tmp 31) 1, type := 4, pos := "exact.go:7336", after := #[{ on := 7, ground := Go.Ground.data }, { on := 11, ground := Go.Ground.gcOnly Go.Departure.lateStores }], guard := none }) (v := ?_) rfl (by kernel_rfl) (by kernel_rfl) (by kernel_rfl) (fun _ _ _ h => h) (Or.inl ⟨by rfl, ?_⟩) (by assumption) ?_
          rotate_left
          · (intro w hSw; (try dsimp only at hSw); go_simp <;> try with_reducible rfl)
          try simp only [Act.put, List.setIfInBounds_toArray, List.set_cons_zero, List.set_cons_succ]
          have zl38 : w.heap.size + 2 ≤ w32.heap.size := by have : w.heap.size + 2 ≤ w2.heap.size := T2.out.lt; omega
          have c38_0 := (Z37.out.cell 0).trans rfl
          have c38_1 := (Z37.out.cell 1).trans rfl
          have c38_2 := (Z37.out.cell 2).trans rfl
          have c38_3 := (Z37.out.cell 3).trans rfl
          have f38_0 := Z37.out.fr 0
          have f38_1 := Z37.out.fr 1
          have f38_2 := Z37.out.fr 2
          have f38_3 := Z37.out.fr 3
          have T38 : Hid (TC w fa flen fcap fc fd fu ad len cap es hd ((((w37.setCell ⟨w32.heap.size, 0, none⟩ (.int .i64 R.day)).setCell ⟨w32.heap.size, 1, none⟩ (.int .i64 R.ref)).setCell ⟨w32.heap.size, 2, none⟩ (.string R.text)).setCell ⟨w32.heap.size, 3, none⟩ (.slice oa R.n oc))) := ((((T37.out.set (b := w32.heap.size) (o := 0) (.int .i64 R.day) zl38 HR.out HLd.out).set (b := w32.heap.size) (o := 1) (.int .i64 R.ref) zl38 HR.out HLd.out).set (b := w32.heap.size) (o := 2) (.string R.text) zl38 HR.out HLd.out).set (b := w32.heap.size) (o := 3) (.slice oa R.n oc) zl38 HR.out HLd.out)
          have Zq38 : CB ((((w37.setCell ⟨w32.heap.size, 0, none⟩ (.int .i64 R.day)).setCell ⟨w32.heap.size, 1, none⟩ (.int .i64 R.ref)).setCell ⟨w32.heap.size, 2, none⟩ (.string R.text)).setCell ⟨w32.heap.size, 3, none⟩ (.slice oa R.n oc)) w32.heap.size #[.int .i64 R.day, .int .i64 R.ref, .string R.text, .slice oa R.n oc] 32 := by have := ((((Z37.out.set 0 (.int .i64 R.day)).set 1 (.int .i64 R.ref)).set 2 (.string R.text)).set 3 (.slice oa R.n oc)); simpa using this
          have Z38 : Hid (CB ((((w37.setCell ⟨w32.heap.size, 0, none⟩ (.int .i64 R.day)).setCell ⟨w32.heap.size, 1, none⟩ (.int .i64 R.ref)).setCell ⟨w32.heap.size, 2, none⟩ (.string R.text)).setCell ⟨w32.heap.size, 3, none⟩ (.slice oa R.n oc)) w32.heap.size #[.int .i64 R.day, .int .i64 R.ref, .string R.text, .slice oa R.n oc] 32) := Zq38
          have O38 : Hid (NewR (w32.alloc (.cells #[.int .i64 0, .int .i64 0, .string ⟨#[]⟩, .slice none 0 0] 32 (0, 0))).heap.size ((((w37.setCell ⟨w32.heap.size, 0, none⟩ (.int .i64 R.day)).setCell ⟨w32.heap.size, 1, none⟩ (.int .i64 R.ref)).setCell ⟨w32.heap.size, 2, none⟩ (.string R.text)).setCell ⟨w32.heap.size, 3, none⟩ (.slice oa R.n oc)) oa R.n R.ls) := ((((O37.out.set (c := w32.heap.size) (o := 0) (.int .i64 R.day) ol37).set (c := w32.heap.size) (o := 1) (.int .i64 R.ref) ol37).set (c := w32.heap.size) (o := 2) (.string R.text) ol37).set (c := w32.heap.size) (o := 3) (.slice oa R.n oc) ol37)
          refine wpAnyH_ready (rs := [11]) (by kernel_rfl) (by simp) ?_
          refine AllReadyH.cons (o := { dst := none, op := Go.Op.store 32 (Go.Operand.tmp 10) (Go.Operand.tmp 39), type := 0, pos := "exact.go:7336", after := #[{ on := 10, ground := Go.Ground.data }, { on := 8, ground := Go.Ground.data }, { on := 6, ground := Go.Ground.chain }, { on := 0, ground := Go.Ground.phase }, { on := 1, ground := Go.Ground.phase }, { on := 2, ground := Go.Ground.phase }, { on := 3, ground := Go.Ground.phase }, { on := 4, ground := Go.Ground.phase }, { on := 5, ground := Go.Ground.phase }, { on := 6, ground := Go.Ground.phase }, { on := 7, ground := Go.Ground.phase }, { on := 8, ground := Go.Ground.phase }, { on := 9, ground := Go.Ground.textOnly Go.Departure.lateStores }, { on := 10, ground := Go.Ground.phase }], guard := none }) rfl (fun K hK => ?_) (AllReadyH.nil)
          go_simp
          first | refine hK.out _ _ (by exact T38.out.cells) (fun hHeld => ?_) | (go_wp2_with fail; refine hK.out _ _ (by exact T38.out.cells) (fun hHeld => ?_))
          clear hK K
          try simp only [Act.put, List.setIfInBounds_toArray, List.set_cons_zero, List.set_cons_succ]
          refine wpAnyH_ready (rs := [12]) (by kernel_rfl) (by simp) ?_
          refine AllReadyH.cons (o := { dst := some 11, op := Go.Op.assign (Go.Operand.tmp 40), type := 4, pos := "exact.go:7336", after := #[{ on := 9, ground := Go.Ground.data }, { on := 11, ground := Go.Ground.chain }, { on := 0, ground := Go.Ground.phase }, { on := 1, ground := Go.Ground.phase }, { on := 2, ground := Go.Ground.phase }, { on := 3, ground := Go.Ground.phase }, { on := 4, ground := Go.Ground.phase }, { on := 5, ground := Go.Ground.phase }, { on := 6, ground := Go.Ground.phase }, { on := 7, ground := Go.Ground.phase }, { on := 8, ground := Go.Ground.phase }, { on := 9, ground := Go.Ground.phase }, { on := 10, ground := Go.Ground.phase }, { on := 11, ground := Go.Ground.phase }], guard := none }) rfl (fun K hK => ?_) (AllReadyH.nil)
          go_simp
          first | refine hK.out _ _ (by exact T38.out.cells) (fun hHeld => ?_) | (go_wp2_with fail; refine hK.out _ _ (by exact T38.out.cells) (fun hHeld => ?_))
          clear hK K
          try simp only [Act.put, List.setIfInBounds_toArray, List.set_cons_zero, List.set_cons_succ]
          refine wpAnyH_done (by kernel_rfl) ?_ _
          clear hHeld
          go_wp2_with fail
          go_meet
          exact ⟨_, oa, oc, rfl, rfl, Z38.out, O38.out.old, T38.out, zl38⟩
      · go_simp
        have bb39 : Below w31.heap.size w31 (w31.alloc (.cells #[.int .i64 0, .int .i64 0, .string ⟨#[]⟩, .slice none 0 0] 32 (0, 0))) := (Below.refl _ _).alloc (Nat.le_refl _) _
        have I39 : Hid (CR (w31.alloc (.cells #[.int .i64 0, .int .i64 0, .string ⟨#[]⟩, .slice none 0 0] 32 (0, 0))) (some ⟨ba31, 0, none⟩) flen fc) := I31.out.below bb39
        have T39 : Hid (TC w fa flen fcap fc fd fu ad len cap es hd (w31.alloc (.cells #[.int .i64 0, .int .i64 0, .string ⟨#[]⟩, .slice none 0 0] 32 (0, 0)))) := T31.out.below bb39
        have Z39 : Hid (CB (w31.alloc (.cells #[.int .i64 0, .int .i64 0, .string ⟨#[]⟩, .slice none 0 0] 32 (0, 0))) w31.heap.size #[.int .i64 0, .int .i64 0, .string ⟨#[]⟩, .slice none 0 0] 32) := CB.newAt (by rfl) _ _
        clear bb39
        first | refine hK.out _ _ (by exact T39.out.cells) (fun hHeld => ?_) | (go_wp2_with fail; refine hK.out _ _ (by exact T39.out.cells) (fun hHeld => ?_))
        clear hK K
        try simp only [Act.put, List.setIfInBounds_toArray, List.set_cons_zero, List.set_cons_succ]
        refine wpAnyH_ready (rs := [3]) (by kernel_rfl) (by simp) ?_
        refine AllReadyH.cons (o := { dst := some 35, op := Go.Op.call { callee := Go.Callee.value (Go.Operand.func 40), args := #[Go.Operand.tmp 34], argTypes := #[74] }, type := 29, pos := "exact.go:7336", after := #[{ on := 2, ground := Go.Ground.data }, { on := 1, ground := Go.Ground.chain }], guard := none }) rfl (fun K hK => ?_) (AllReadyH.nil)
        go_simp
        refine (toLedger_any _ _ _ es _ _ hnn HNJ.out T39.out.er).mono ?_
        rintro e w40 ⟨be40, bl40, rfl, _, _, i40, b40⟩
        have s40 : w31.heap.size ≤ w40.heap.size := by have := b40.size; first | exact this | (simp at this; omega)
        have Z40 : Hid (CB w40 w31.heap.size #[.int .i64 0, .int .i64 0, .string ⟨#[]⟩, .slice none 0 0] 32) := Z39.out.below b40 Z39.out.lt
        have I40 : Hid (CR w40 (some ⟨ba31, 0, none⟩) flen fc) := I39.out.below b40
        have T40 : Hid (TC w fa flen fcap fc fd fu ad len cap es hd w40) := T39.out.below b40
        have E40 : Hid (ER w40 (some ⟨be40, 0, none⟩) len es) := i40.row
        clear i40 b40
        first | refine hK.out _ _ (by exact T40.out.cells) (fun hHeld => ?_) | (go_wp2_with fail; refine hK.out _ _ (by exact T40.out.cells) (fun hHeld => ?_))
        clear hK K
        try simp only [Act.put, List.setIfInBounds_toArray, List.set_cons_zero, List.set_cons_succ]
        refine wpAnyH_ready (rs := [6]) (by kernel_rfl) (by simp) ?_
        refine AllReadyH.cons (o := { dst := some 38, op := Go.Op.call { callee := Go.Callee.value (Go.Operand.func 24), args := #[Go.Operand.tmp 33, Go.Operand.tmp 35, Go.Operand.tmp 36, Go.Operand.tmp 37], argTypes := #[26, 29, 3, 3] }, type := 46, pos := "exact.go:7336", after := #[{ on := 1, ground := Go.Ground.data }, { on := 3, ground := Go.Ground.data }, { on := 4, ground := Go.Ground.data }, { on := 5, ground := Go.Ground.data }, { on := 3, ground := Go.Ground.chain }], guard := none }) rfl (fun K hK => ?_) (AllReadyH.nil)
        go_simp
        refine (HSP.out _ _ _ _ _ I40.out E40.out).mono ?_
        rintro e w41 ⟨oa, oc, rfl, i41, b41⟩
        have s41 : w40.heap.size ≤ w41.heap.size := by have := b41.size; first | exact this | (simp at this; omega)
        have ol41 : w31.heap.size < w40.heap.size := Z40.out.lt
        have Z41 : Hid (CB w41 w31.heap.size #[.int .i64 0, .int .i64 0, .string ⟨#[]⟩, .slice none 0 0] 32) := Z40.out.below b41 Z40.out.lt
        have I41 : Hid (CR w41 (some ⟨ba31, 0, none⟩) flen fc) := I40.out.below b41
        have E41 : Hid (ER w41 (some ⟨be40, 0, none⟩) len es) := E40.out.below b41
        have T41 : Hid (TC w fa flen fcap fc fd fu ad len cap es hd w41) := T40.out.below b41
        have O41 : Hid (NewR w40.heap.size w41 oa R.n R.ls) := i41
        clear i41 b41
        first | refine hK.out _ _ (by exact T41.out.cells) (fun hHeld => ?_) | (go_wp2_with fail; refine hK.out _ _ (by exact T41.out.cells) (fun hHeld => ?_))
        clear hK K
        try simp only [Act.put, List.setIfInBounds_toArray, List.set_cons_zero, List.set_cons_succ]
        refine wpAnyH_take (i := 7) (oi := { dst := some 31, op := Go.Op.move (Go.Operand.tmp 38), type := 46, pos := "exact.go:7336", after := #[{ on := 6, ground := Go.Ground.data }], guard := none }) (v := ?_) rfl (by kernel_rfl) (by kernel_rfl) (by kernel_rfl) (fun _ _ _ h => h) (Or.inl ⟨by rfl, ?_⟩) (by assumption) ?_
        rotate_left
        · (intro w hSw; (try dsimp only at hSw); go_simp <;> try with_reducible rfl)
        try simp only [Act.put, List.setIfInBounds_toArray, List.set_cons_zero, List.set_cons_succ]
        refine wpAnyH_take (i := 8) (oi := { dst := some 39, op := Go.Op.extract (Go.Operand.tmp 31) 0, type := 32, pos := "exact.go:7336", after := #[{ on := 7, ground := Go.Ground.data }], guard := none }) (v := ?_) rfl (by kernel_rfl) (by kernel_rfl) (by kernel_rfl) (fun _ _ _ h => h) (Or.inl ⟨by rfl, ?_⟩) (by assumption) ?_
        rotate_left
        · (intro w hSw; (try dsimp only at hSw); go_simp <;> try with_reducible rfl)
        try simp only [Act.put, List.setIfInBounds_toArray, List.set_cons_zero, List.set_cons_succ]
        refine wpAnyH_take (i := 9) (oi := { dst := some 40, op := Go.Op.extract (Go.Operand.tmp 31) 1, type := 4, pos := "exact.go:7336", after := #[{ on := 7, ground := Go.Ground.data }, { on := 11, ground := Go.Ground.gcOnly Go.Departure.lateStores }], guard := none }) (v := ?_) rfl (by kernel_rfl) (by kernel_rfl) (by kernel_rfl) (fun _ _ _ h => h) (Or.inl ⟨by rfl, ?_⟩) (by assumption) ?_
        rotate_left
        · (intro w hSw; (try dsimp only at hSw); go_simp <;> try with_reducible rfl)
        try simp only [Act.put, List.setIfInBounds_toArray, List.set_cons_zero, List.set_cons_succ]
        have zl42 : w.heap.size + 2 ≤ w31.heap.size := by have : w.heap.size + 2 ≤ w2.heap.size := T2.out.lt; omega
        have c42_0 := (Z41.out.cell 0).trans rfl
        have c42_1 := (Z41.out.cell 1).trans rfl
        have c42_2 := (Z41.out.cell 2).trans rfl
        have c42_3 := (Z41.out.cell 3).trans rfl
        have f42_0 := Z41.out.fr 0
        have f42_1 := Z41.out.fr 1
        have f42_2 := Z41.out.fr 2
        have f42_3 := Z41.out.fr 3
        have T42 : Hid (TC w fa flen fcap fc fd fu ad len cap es hd ((((w41.setCell ⟨w31.heap.size, 0, none⟩ (.int .i64 R.day)).setCell ⟨w31.heap.size, 1, none⟩ (.int .i64 R.ref)).setCell ⟨w31.heap.size, 2, none⟩ (.string R.text)).setCell ⟨w31.heap.size, 3, none⟩ (.slice oa R.n oc))) := ((((T41.out.set (b := w31.heap.size) (o := 0) (.int .i64 R.day) zl42 HR.out HLd.out).set (b := w31.heap.size) (o := 1) (.int .i64 R.ref) zl42 HR.out HLd.out).set (b := w31.heap.size) (o := 2) (.string R.text) zl42 HR.out HLd.out).set (b := w31.heap.size) (o := 3) (.slice oa R.n oc) zl42 HR.out HLd.out)
        have Zq42 : CB ((((w41.setCell ⟨w31.heap.size, 0, none⟩ (.int .i64 R.day)).setCell ⟨w31.heap.size, 1, none⟩ (.int .i64 R.ref)).setCell ⟨w31.heap.size, 2, none⟩ (.string R.text)).setCell ⟨w31.heap.size, 3, none⟩ (.slice oa R.n oc)) w31.heap.size #[.int .i64 R.day, .int .i64 R.ref, .string R.text, .slice oa R.n oc] 32 := by have := ((((Z41.out.set 0 (.int .i64 R.day)).set 1 (.int .i64 R.ref)).set 2 (.string R.text)).set 3 (.slice oa R.n oc)); simpa using this
        have Z42 : Hid (CB ((((w41.setCell ⟨w31.heap.size, 0, none⟩ (.int .i64 R.day)).setCell ⟨w31.heap.size, 1, none⟩ (.int .i64 R.ref)).setCell ⟨w31.heap.size, 2, none⟩ (.string R.text)).setCell ⟨w31.heap.size, 3, none⟩ (.slice oa R.n oc)) w31.heap.size #[.int .i64 R.day, .int .i64 R.ref, .string R.text, .slice oa R.n oc] 32) := Zq42
        have O42 : Hid (NewR w40.heap.size ((((w41.setCell ⟨w31.heap.size, 0, none⟩ (.int .i64 R.day)).setCell ⟨w31.heap.size, 1, none⟩ (.int .i64 R.ref)).setCell ⟨w31.heap.size, 2, none⟩ (.string R.text)).setCell ⟨w31.heap.size, 3, none⟩ (.slice oa R.n oc)) oa R.n R.ls) := ((((O41.out.set (c := w31.heap.size) (o := 0) (.int .i64 R.day) ol41).set (c := w31.heap.size) (o := 1) (.int .i64 R.ref) ol41).set (c := w31.heap.size) (o := 2) (.string R.text) ol41).set (c := w31.heap.size) (o := 3) (.slice oa R.n oc) ol41)
        refine wpAnyH_ready (rs := [11]) (by kernel_rfl) (by simp) ?_
        refine AllReadyH.cons (o := { dst := none, op := Go.Op.store 32 (Go.Operand.tmp 10) (Go.Operand.tmp 39), type := 0, pos := "exact.go:7336", after := #[{ on := 10, ground := Go.Ground.data }, { on := 8, ground := Go.Ground.data }, { on := 6, ground := Go.Ground.chain }, { on := 0, ground := Go.Ground.phase }, { on := 1, ground := Go.Ground.phase }, { on := 2, ground := Go.Ground.phase }, { on := 3, ground := Go.Ground.phase }, { on := 4, ground := Go.Ground.phase }, { on := 5, ground := Go.Ground.phase }, { on := 6, ground := Go.Ground.phase }, { on := 7, ground := Go.Ground.phase }, { on := 8, ground := Go.Ground.phase }, { on := 9, ground := Go.Ground.textOnly Go.Departure.lateStores }, { on := 10, ground := Go.Ground.phase }], guard := none }) rfl (fun K hK => ?_) (AllReadyH.nil)
        go_simp
        first | refine hK.out _ _ (by exact T42.out.cells) (fun hHeld => ?_) | (go_wp2_with fail; refine hK.out _ _ (by exact T42.out.cells) (fun hHeld => ?_))
        clear hK K
        try simp only [Act.put, List.setIfInBounds_toArray, List.set_cons_zero, List.set_cons_succ]
        refine wpAnyH_ready (rs := [12]) (by kernel_rfl) (by simp) ?_
        refine AllReadyH.cons (o := { dst := some 11, op := Go.Op.assign (Go.Operand.tmp 40), type := 4, pos := "exact.go:7336", after := #[{ on := 9, ground := Go.Ground.data }, { on := 11, ground := Go.Ground.chain }, { on := 0, ground := Go.Ground.phase }, { on := 1, ground := Go.Ground.phase }, { on := 2, ground := Go.Ground.phase }, { on := 3, ground := Go.Ground.phase }, { on := 4, ground := Go.Ground.phase }, { on := 5, ground := Go.Ground.phase }, { on := 6, ground := Go.Ground.phase }, { on := 7, ground := Go.Ground.phase }, { on := 8, ground := Go.Ground.phase }, { on := 9, ground := Go.Ground.phase }, { on := 10, ground := Go.Ground.phase }, { on := 11, ground := Go.Ground.phase }], guard := none }) rfl (fun K hK => ?_) (AllReadyH.nil)
        go_simp
        first | refine hK.out _ _ (by exact T42.out.cells) (fun hHeld => ?_) | (go_wp2_with fail; refine hK.out _ _ (by exact T42.out.cells) (fun hHeld => ?_))
        clear hK K
        try simp only [Act.put, List.setIfInBounds_toArray, List.set_cons_zero, List.set_cons_succ]
        refine wpAnyH_done (by kernel_rfl) ?_ _
        clear hHeld
        go_wp2_with fail
        go_meet
        exact ⟨_, oa, oc, rfl, rfl, Z42.out, O42.out.old, T42.out, zl42⟩
    · go_simp
      have bb43 : Below w2.drew.heap.size w2.drew (w2.drew.alloc (.cells #[.int .i64 0, .int .i64 0, .string ⟨#[]⟩, .slice none 0 0] 32 (0, 0))) := (Below.refl _ _).alloc (Nat.le_refl _) _
      have T43 : Hid (TC w fa flen fcap fc fd fu ad len cap es hd (w2.drew.alloc (.cells #[.int .i64 0, .int .i64 0, .string ⟨#[]⟩, .slice none 0 0] 32 (0, 0)))) := T2.out.below bb43
      have Z43 : Hid (CB (w2.drew.alloc (.cells #[.int .i64 0, .int .i64 0, .string ⟨#[]⟩, .slice none 0 0] 32 (0, 0))) w2.heap.size #[.int .i64 0, .int .i64 0, .string ⟨#[]⟩, .slice none 0 0] 32) := CB.newAt (by rfl) _ _
      clear bb43
      first | refine hK.out _ _ (by exact T43.out.cells) (fun hHeld => ?_) | (go_wp2_with fail; refine hK.out _ _ (by exact T43.out.cells) (fun hHeld => ?_))
      clear hK K
      try simp only [Act.put, List.setIfInBounds_toArray, List.set_cons_zero, List.set_cons_succ]
      refine wpAnyH_ready (rs := [1]) (by kernel_rfl) (by simp) ?_
      refine AllReadyH.cons (o := { dst := some 33, op := Go.Op.call { callee := Go.Callee.value (Go.Operand.func 31), args := #[Go.Operand.tmp 32], argTypes := #[59] }, type := 26, pos := "exact.go:7336", after := #[{ on := 0, ground := Go.Ground.data }], guard := none }) rfl (fun K hK => ?_) (AllReadyH.nil)
      go_simp
      refine (toFrame_any _ _ _ fc _ _ _ hb T43.out.cr).mono ?_
      rintro e w44 ⟨ba44, rfl, _, i44, b44⟩
      have s44 : w2.heap.size ≤ w44.heap.size := by have := b44.size; first | exact this | (simp at this; omega)
      have Z44 : Hid (CB w44 w2.heap.size #[.int .i64 0, .int .i64 0, .string ⟨#[]⟩, .slice none 0 0] 32) := Z43.out.below b44 Z43.out.lt
      have T44 : Hid (TC w fa flen fcap fc fd fu ad len cap es hd w44) := T43.out.below b44
      have I44 : Hid (CR w44 (some ⟨ba44, 0, none⟩) flen fc) := i44
      clear i44 b44
      first | refine hK.out _ _ (by exact T44.out.cells) (fun hHeld => ?_) | (go_wp2_with fail; refine hK.out _ _ (by exact T44.out.cells) (fun hHeld => ?_))
      clear hK K
      try simp only [Act.put, List.setIfInBounds_toArray, List.set_cons_zero, List.set_cons_succ]
      refine wpAnyH_ready (rs := [3]) (by kernel_rfl) (by simp) ?_
      refine AllReadyH.cons (o := { dst := some 35, op := Go.Op.call { callee := Go.Callee.value (Go.Operand.func 40), args := #[Go.Operand.tmp 34], argTypes := #[74] }, type := 29, pos := "exact.go:7336", after := #[{ on := 2, ground := Go.Ground.data }, { on := 1, ground := Go.Ground.chain }], guard := none }) rfl (fun K hK => ?_) (AllReadyH.nil)
      go_simp
      refine (toLedger_any _ _ _ es _ _ hnn HNJ.out T44.out.er).mono ?_
      rintro e w45 ⟨be45, bl45, rfl, _, _, i45, b45⟩
      have s45 : w44.heap.size ≤ w45.heap.size := by have := b45.size; first | exact this | (simp at this; omega)
      have Z45 : Hid (CB w45 w2.heap.size #[.int .i64 0, .int .i64 0, .string ⟨#[]⟩, .slice none 0 0] 32) := Z44.out.below b45 Z44.out.lt
      have I45 : Hid (CR w45 (some ⟨ba44, 0, none⟩) flen fc) := I44.out.below b45
      have T45 : Hid (TC w fa flen fcap fc fd fu ad len cap es hd w45) := T44.out.below b45
      have E45 : Hid (ER w45 (some ⟨be45, 0, none⟩) len es) := i45.row
      clear i45 b45
      first | refine hK.out _ _ (by exact T45.out.cells) (fun hHeld => ?_) | (go_wp2_with fail; refine hK.out _ _ (by exact T45.out.cells) (fun hHeld => ?_))
      clear hK K
      try simp only [Act.put, List.setIfInBounds_toArray, List.set_cons_zero, List.set_cons_succ]
      refine wpAnyH_ready (rs := [6]) (by kernel_rfl) (by simp) ?_
      refine AllReadyH.cons (o := { dst := some 38, op := Go.Op.call { callee := Go.Callee.value (Go.Operand.func 24), args := #[Go.Operand.tmp 33, Go.Operand.tmp 35, Go.Operand.tmp 36, Go.Operand.tmp 37], argTypes := #[26, 29, 3, 3] }, type := 46, pos := "exact.go:7336", after := #[{ on := 1, ground := Go.Ground.data }, { on := 3, ground := Go.Ground.data }, { on := 4, ground := Go.Ground.data }, { on := 5, ground := Go.Ground.data }, { on := 3, ground := Go.Ground.chain }], guard := none }) rfl (fun K hK => ?_) (AllReadyH.nil)
      go_simp
      refine (HSP.out _ _ _ _ _ I45.out E45.out).mono ?_
      rintro e w46 ⟨oa, oc, rfl, i46, b46⟩
      have s46 : w45.heap.size ≤ w46.heap.size := by have := b46.size; first | exact this | (simp at this; omega)
      have ol46 : w2.heap.size < w45.heap.size := Z45.out.lt
      have Z46 : Hid (CB w46 w2.heap.size #[.int .i64 0, .int .i64 0, .string ⟨#[]⟩, .slice none 0 0] 32) := Z45.out.below b46 Z45.out.lt
      have I46 : Hid (CR w46 (some ⟨ba44, 0, none⟩) flen fc) := I45.out.below b46
      have E46 : Hid (ER w46 (some ⟨be45, 0, none⟩) len es) := E45.out.below b46
      have T46 : Hid (TC w fa flen fcap fc fd fu ad len cap es hd w46) := T45.out.below b46
      have O46 : Hid (NewR w45.heap.size w46 oa R.n R.ls) := i46
      clear i46 b46
      first | refine hK.out _ _ (by exact T46.out.cells) (fun hHeld => ?_) | (go_wp2_with fail; refine hK.out _ _ (by exact T46.out.cells) (fun hHeld => ?_))
      clear hK K
      try simp only [Act.put, List.setIfInBounds_toArray, List.set_cons_zero, List.set_cons_succ]
      refine wpAnyH_take (i := 7) (oi := { dst := some 31, op := Go.Op.move (Go.Operand.tmp 38), type := 46, pos := "exact.go:7336", after := #[{ on := 6, ground := Go.Ground.data }], guard := none }) (v := ?_) rfl (by kernel_rfl) (by kernel_rfl) (by kernel_rfl) (fun _ _ _ h => h) (Or.inl ⟨by rfl, ?_⟩) (by assumption) ?_
      rotate_left
      · (intro w hSw; (try dsimp only at hSw); go_simp <;> try with_reducible rfl)
      try simp only [Act.put, List.setIfInBounds_toArray, List.set_cons_zero, List.set_cons_succ]
      refine wpAnyH_take (i := 8) (oi := { dst := some 39, op := Go.Op.extract (Go.Operand.tmp 31) 0, type := 32, pos := "exact.go:7336", after := #[{ on := 7, ground := Go.Ground.data }], guard := none }) (v := ?_) rfl (by kernel_rfl) (by kernel_rfl) (by kernel_rfl) (fun _ _ _ h => h) (Or.inl ⟨by rfl, ?_⟩) (by assumption) ?_
      rotate_left
      · (intro w hSw; (try dsimp only at hSw); go_simp <;> try with_reducible rfl)
      try simp only [Act.put, List.setIfInBounds_toArray, List.set_cons_zero, List.set_cons_succ]
      refine wpAnyH_take (i := 9) (oi := { dst := some 40, op := Go.Op.extract (Go.Operand.tmp 31) 1, type := 4, pos := "exact.go:7336", after := #[{ on := 7, ground := Go.Ground.data }, { on := 11, ground := Go.Ground.gcOnly Go.Departure.lateStores }], guard := none }) (v := ?_) rfl (by kernel_rfl) (by kernel_rfl) (by kernel_rfl) (fun _ _ _ h => h) (Or.inl ⟨by rfl, ?_⟩) (by assumption) ?_
      rotate_left
      · (intro w hSw; (try dsimp only at hSw); go_simp <;> try with_reducible rfl)
      try simp only [Act.put, List.setIfInBounds_toArray, List.set_cons_zero, List.set_cons_succ]
      have zl47 : w.heap.size + 2 ≤ w2.heap.size := by have : w.heap.size + 2 ≤ w2.heap.size := T2.out.lt; omega
      have c47_0 := (Z46.out.cell 0).trans rfl
      have c47_1 := (Z46.out.cell 1).trans rfl
      have c47_2 := (Z46.out.cell 2).trans rfl
      have c47_3 := (Z46.out.cell 3).trans rfl
      have f47_0 := Z46.out.fr 0
      have f47_1 := Z46.out.fr 1
      have f47_2 := Z46.out.fr 2
      have f47_3 := Z46.out.fr 3
      have T47 : Hid (TC w fa flen fcap fc fd fu ad len cap es hd ((((w46.setCell ⟨w2.heap.size, 0, none⟩ (.int .i64 R.day)).setCell ⟨w2.heap.size, 1, none⟩ (.int .i64 R.ref)).setCell ⟨w2.heap.size, 2, none⟩ (.string R.text)).setCell ⟨w2.heap.size, 3, none⟩ (.slice oa R.n oc))) := ((((T46.out.set (b := w2.heap.size) (o := 0) (.int .i64 R.day) zl47 HR.out HLd.out).set (b := w2.heap.size) (o := 1) (.int .i64 R.ref) zl47 HR.out HLd.out).set (b := w2.heap.size) (o := 2) (.string R.text) zl47 HR.out HLd.out).set (b := w2.heap.size) (o := 3) (.slice oa R.n oc) zl47 HR.out HLd.out)
      have Zq47 : CB ((((w46.setCell ⟨w2.heap.size, 0, none⟩ (.int .i64 R.day)).setCell ⟨w2.heap.size, 1, none⟩ (.int .i64 R.ref)).setCell ⟨w2.heap.size, 2, none⟩ (.string R.text)).setCell ⟨w2.heap.size, 3, none⟩ (.slice oa R.n oc)) w2.heap.size #[.int .i64 R.day, .int .i64 R.ref, .string R.text, .slice oa R.n oc] 32 := by have := ((((Z46.out.set 0 (.int .i64 R.day)).set 1 (.int .i64 R.ref)).set 2 (.string R.text)).set 3 (.slice oa R.n oc)); simpa using this
      have Z47 : Hid (CB ((((w46.setCell ⟨w2.heap.size, 0, none⟩ (.int .i64 R.day)).setCell ⟨w2.heap.size, 1, none⟩ (.int .i64 R.ref)).setCell ⟨w2.heap.size, 2, none⟩ (.string R.text)).setCell ⟨w2.heap.size, 3, none⟩ (.slice oa R.n oc)) w2.heap.size #[.int .i64 R.day, .int .i64 R.ref, .string R.text, .slice oa R.n oc] 32) := Zq47
      have O47 : Hid (NewR w45.heap.size ((((w46.setCell ⟨w2.heap.size, 0, none⟩ (.int .i64 R.day)).setCell ⟨w2.heap.size, 1, none⟩ (.int .i64 R.ref)).setCell ⟨w2.heap.size, 2, none⟩ (.string R.text)).setCell ⟨w2.heap.size, 3, none⟩ (.slice oa R.n oc)) oa R.n R.ls) := ((((O46.out.set (c := w2.heap.size) (o := 0) (.int .i64 R.day) ol46).set (c := w2.heap.size) (o := 1) (.int .i64 R.ref) ol46).set (c := w2.heap.size) (o := 2) (.string R.text) ol46).set (c := w2.heap.size) (o := 3) (.slice oa R.n oc) ol46)
      refine wpAnyH_ready (rs := [11]) (by kernel_rfl) (by simp) ?_
      refine AllReadyH.cons (o := { dst := none, op := Go.Op.store 32 (Go.Operand.tmp 10) (Go.Operand.tmp 39), type := 0, pos := "exact.go:7336", after := #[{ on := 10, ground := Go.Ground.data }, { on := 8, ground := Go.Ground.data }, { on := 6, ground := Go.Ground.chain }, { on := 0, ground := Go.Ground.phase }, { on := 1, ground := Go.Ground.phase }, { on := 2, ground := Go.Ground.phase }, { on := 3, ground := Go.Ground.phase }, { on := 4, ground := Go.Ground.phase }, { on := 5, ground := Go.Ground.phase }, { on := 6, ground := Go.Ground.phase }, { on := 7, ground := Go.Ground.phase }, { on := 8, ground := Go.Ground.phase }, { on := 9, ground := Go.Ground.textOnly Go.Departure.lateStores }, { on := 10, ground := Go.Ground.phase }], guard := none }) rfl (fun K hK => ?_) (AllReadyH.nil)
      go_simp
      first | refine hK.out _ _ (by exact T47.out.cells) (fun hHeld => ?_) | (go_wp2_with fail; refine hK.out _ _ (by exact T47.out.cells) (fun hHeld => ?_))
      clear hK K
      try simp only [Act.put, List.setIfInBounds_toArray, List.set_cons_zero, List.set_cons_succ]
      refine wpAnyH_ready (rs := [12]) (by kernel_rfl) (by simp) ?_
      refine AllReadyH.cons (o := { dst := some 11, op := Go.Op.assign (Go.Operand.tmp 40), type := 4, pos := "exact.go:7336", after := #[{ on := 9, ground := Go.Ground.data }, { on := 11, ground := Go.Ground.chain }, { on := 0, ground := Go.Ground.phase }, { on := 1, ground := Go.Ground.phase }, { on := 2, ground := Go.Ground.phase }, { on := 3, ground := Go.Ground.phase }, { on := 4, ground := Go.Ground.phase }, { on := 5, ground := Go.Ground.phase }, { on := 6, ground := Go.Ground.phase }, { on := 7, ground := Go.Ground.phase }, { on := 8, ground := Go.Ground.phase }, { on := 9, ground := Go.Ground.phase }, { on := 10, ground := Go.Ground.phase }, { on := 11, ground := Go.Ground.phase }], guard := none }) rfl (fun K hK => ?_) (AllReadyH.nil)
      go_simp
      first | refine hK.out _ _ (by exact T47.out.cells) (fun hHeld => ?_) | (go_wp2_with fail; refine hK.out _ _ (by exact T47.out.cells) (fun hHeld => ?_))
      clear hK K
      try simp only [Act.put, List.setIfInBounds_toArray, List.set_cons_zero, List.set_cons_succ]
      refine wpAnyH_done (by kernel_rfl) ?_ _
      clear hHeld
      go_wp2_with fail
      go_meet
      exact ⟨_, oa, oc, rfl, rfl, Z47.out, O47.out.old, T47.out, zl47⟩
  case rest =>
    obtain ⟨w5, hw5⟩ : ∃ w5, w5 = wc := ⟨_, rfl⟩
    subst hw5
    obtain ⟨P, oa, oc, rfl, rfl, hP, hO, hT, hP2⟩ := hcut
    have HT5 : Hid (TC w fa flen fcap fc fd fu ad len cap es hd w5) := hT
    have HP5 : Hid (CB w5 P #[.int .i64 R.day, .int .i64 R.ref, .string R.text, .slice oa R.n oc] 32) := hP
    have HO5 : Hid (OldR w5.heap.size w5 oa R.n R.ls) := hO
    have hPl := hP.lt
    have hw5 := hT.lt
    have af0 : w5.cell? ⟨w.heap.size, 0, none⟩ = some (.slice fa flen fcap) := (HT5.out.xf.cell 0).trans rfl
    have af1 : w5.cell? ⟨w.heap.size, 1, none⟩ = some (.int .i64 fd) := (HT5.out.xf.cell 1).trans rfl
    have af2 : w5.cell? ⟨w.heap.size, 2, none⟩ = some (.int .i64 fu) := (HT5.out.xf.cell 2).trans rfl
    have al0 : w5.cell? ⟨w.heap.size + 1, 0, none⟩ = some (.slice ad len cap) := (HT5.out.xl.cell 0).trans rfl
    have al1 : w5.cell? ⟨w.heap.size + 1, 1, none⟩ = some (.int .i64 hd) := (HT5.out.xl.cell 1).trans rfl
    clear hP hO hT T2
    go_wp2_with (first
      | (go_at_call 31; refine (toFrame_cells _ _ _ fc _ _ _ hb HT5.out.cr).mono ?_; rintro e w6 ⟨b9, rfl, hb9, i6, ⟨cs9, C9, s9⟩, b6⟩; have HT6 : Hid (TC w fa flen fcap fc fd fu ad len cap es hd w6) := HT5.out.below b6; have HP6 : Hid (CB w6 P #[.int .i64 R.day, .int .i64 R.ref, .string R.text, .slice oa R.n oc] 32) := HP5.out.below b6 hPl; have HO6 : Hid (OldR w5.heap.size w6 oa R.n R.ls) := HO5.out.below b6; have HI6 : Hid (CR w6 (some ⟨b9, 0, none⟩) flen fc) := i6; have HK6 : Hid (CB w6 b9 cs9 182) := C9; have HS9 : Hid (cs9.size = flen * 3) := s9; have hs6 := b6.size; have hs9 := C9.lt; clear af0 af1 af2 al0 al1; have gf0 : (w6.alloc (.cells #[.slice (some ⟨b9, 0, none⟩) flen flen, .int .i64 fd, .int .i64 fu] 26 (0, 0))).cell? ⟨w.heap.size, 0, none⟩ = some (.slice fa flen fcap) := ((HT6.out.alloc _).xf.cell 0).trans rfl; have gf1 : (w6.alloc (.cells #[.slice (some ⟨b9, 0, none⟩) flen flen, .int .i64 fd, .int .i64 fu] 26 (0, 0))).cell? ⟨w.heap.size, 1, none⟩ = some (.int .i64 fd) := ((HT6.out.alloc _).xf.cell 1).trans rfl; have gf2 : (w6.alloc (.cells #[.slice (some ⟨b9, 0, none⟩) flen flen, .int .i64 fd, .int .i64 fu] 26 (0, 0))).cell? ⟨w.heap.size, 2, none⟩ = some (.int .i64 fu) := ((HT6.out.alloc _).xf.cell 2).trans rfl; have gl0 : (w6.alloc (.cells #[.slice (some ⟨b9, 0, none⟩) flen flen, .int .i64 fd, .int .i64 fu] 26 (0, 0))).cell? ⟨w.heap.size + 1, 0, none⟩ = some (.slice ad len cap) := ((HT6.out.alloc _).xl.cell 0).trans rfl; have gl1 : (w6.alloc (.cells #[.slice (some ⟨b9, 0, none⟩) flen flen, .int .i64 fd, .int .i64 fu] 26 (0, 0))).cell? ⟨w.heap.size + 1, 1, none⟩ = some (.int .i64 hd) := ((HT6.out.alloc _).xl.cell 1).trans rfl; clear i6 C9 s9 b6)
      | (go_at_call 40; refine (toLedger_any _ _ _ es _ _ hnn HNJ.out (HT6.out.alloc _).er).mono ?_; rintro e w7 ⟨b10, bl10, rfl, hb10, hbl, o7, b7⟩; have HT7 : Hid (TC w fa flen fcap fc fd fu ad len cap es hd w7) := (HT6.out.alloc _).below b7; have HP7 : Hid (CB w7 P #[.int .i64 R.day, .int .i64 R.ref, .string R.text, .slice oa R.n oc] 32) := (HP6.out.alloc _).below b7 (HP6.out.alloc _).lt; have HO7 : Hid (OldR w5.heap.size w7 oa R.n R.ls) := (HO6.out.below ((Below.refl _ _).alloc (Nat.le_refl _) _)).below b7; have HI7 : Hid (CR w7 (some ⟨b9, 0, none⟩) flen fc) := (HI6.out.alloc _).below b7; have HK7 : Hid (CB w7 b9 cs9 182) := (HK6.out.alloc _).below b7 (HK6.out.alloc _).lt; have HX7 : Hid (CB w7 w6.heap.size #[.slice (some ⟨b9, 0, none⟩) flen flen, .int .i64 fd, .int .i64 fu] 26) := (CB.new _ _).below b7 (by simp); have hs7 : w6.heap.size + 1 ≤ w7.heap.size := (by have := b7.size; simpa using this); have HN7 : Hid (NewE (w6.heap.size + 1) w7.heap.size w7 (some ⟨b10, 0, none⟩) len es 32 56) := o7.new (Nat.le_refl _) (by simpa using hb10) (fun j hj => by have h5 := hbl j hj; have h6 : w6.heap.size + 1 ≤ b10 := (by simpa using hb10); omega); clear gf0 gf1 gf2 gl0 gl1; have m0 : (w7.alloc (.cells #[.slice (some ⟨b10, 0, none⟩) len len, .int .i64 hd] 29 (0, 0))).cell? ⟨w6.heap.size, 0, none⟩ = some (.slice (some ⟨b9, 0, none⟩) flen flen) := ((HX7.out.alloc _).cell 0).trans rfl; have m1 : (w7.alloc (.cells #[.slice (some ⟨b10, 0, none⟩) len len, .int .i64 hd] 29 (0, 0))).cell? ⟨w6.heap.size, 1, none⟩ = some (.int .i64 fd) := ((HX7.out.alloc _).cell 1).trans rfl; have m2 : (w7.alloc (.cells #[.slice (some ⟨b10, 0, none⟩) len len, .int .i64 hd] 29 (0, 0))).cell? ⟨w6.heap.size, 2, none⟩ = some (.int .i64 fu) := ((HX7.out.alloc _).cell 2).trans rfl; clear o7 b7 hbl hb10)
      | (go_at_call 23; refine (HIM.out _ _ _ _ _ (HI7.out.alloc _) ((HE.out.below HT7.out.bl h9).alloc' _) ((HTP.out.below HT7.out.bl).below ((Below.refl _ _).alloc (Nat.le_refl _) _)) (HN7.out.row.alloc _)).mono ?_; rintro e w8 ⟨ga, gc, rfl, o8, b8⟩; have HT8 : Hid (TC w fa flen fcap fc fd fu ad len cap es hd (w8.alloc (.cells #[.int .i64 R.day, .int .i64 R.ref, .string R.text, .slice ga R.n gc] 32 (0, 0)))) := ((HT7.out.alloc _).below b8).alloc _; have hs8 : w7.heap.size + 1 ≤ w8.heap.size := (by have := b8.size; simpa using this); have HU8 : Hid (UC fc flen fd fu es len hd w6.heap.size b9 w7.heap.size b10 (w6.heap.size + 1) w7.heap.size cs9 R P w5.heap.size oa oc w8.heap.size (w7.heap.size + 1) w8.heap.size ga gc (w8.alloc (.cells #[.int .i64 R.day, .int .i64 R.ref, .string R.text, .slice ga R.n gc] 32 (0, 0)))) := ⟨((HX7.out.alloc _).below b8 (HX7.out.alloc _).lt).alloc _, ((CB.new _ _).below b8 (by simp)).alloc _, ((HI7.out.alloc _).below b8).alloc _, ((HK7.out.alloc _).below b8 (HK7.out.alloc _).lt).alloc _, ((HN7.out.below ((Below.refl _ _).alloc (Nat.le_refl _) _)).below b8).below ((Below.refl _ _).alloc (Nat.le_refl _) _), ((HP7.out.alloc _).below b8 (HP7.out.alloc _).lt).alloc _, ((HO7.out.below ((Below.refl _ _).alloc (Nat.le_refl _) _)).below b8).below ((Below.refl _ _).alloc (Nat.le_refl _) _), CB.new _ _, (by have := o8.below ((Below.refl _ _).alloc (Nat.le_refl _) (.cells #[.int .i64 R.day, .int .i64 R.ref, .string R.text, .slice ga R.n gc] 32 (0, 0))); simpa using this)⟩; have eo0 : (w8.alloc (.cells #[.int .i64 R.day, .int .i64 R.ref, .string R.text, .slice ga R.n gc] 32 (0, 0))).cell? ⟨P, 0, none⟩ = some (.int .i64 R.day) := (HU8.out.x0.cell 0).trans rfl; have eo1 : (w8.alloc (.cells #[.int .i64 R.day, .int .i64 R.ref, .string R.text, .slice ga R.n gc] 32 (0, 0))).cell? ⟨P, 1, none⟩ = some (.int .i64 R.ref) := (HU8.out.x0.cell 1).trans rfl; have eo2 : (w8.alloc (.cells #[.int .i64 R.day, .int .i64 R.ref, .string R.text, .slice ga R.n gc] 32 (0, 0))).cell? ⟨P, 2, none⟩ = some (.string R.text) := (HU8.out.x0.cell 2).trans rfl; have eo3 : (w8.alloc (.cells #[.int .i64 R.day, .int .i64 R.ref, .string R.text, .slice ga R.n gc] 32 (0, 0))).cell? ⟨P, 3, none⟩ = some (.slice oa R.n oc) := (HU8.out.x0.cell 3).trans rfl; clear m0 m1 m2 o8 b8)
      | (go_at_call 37; refine (eqEntry_same _ _ _ _ _ _ _ _ R.ls _ hRn2 HU8.out.g.row HU8.out.o.row).mono ?_; rintro e w9 ⟨rfl, b9'⟩; have HT9 : Hid (TC w fa flen fcap fc fd fu ad len cap es hd w9) := HT8.out.below b9'; have HU9 : Hid (UC fc flen fd fu es len hd w6.heap.size b9 w7.heap.size b10 (w6.heap.size + 1) w7.heap.size cs9 R P w5.heap.size oa oc w8.heap.size (w7.heap.size + 1) w8.heap.size ga gc w9) := HU8.out.below b9'; clear b9' eo0 eo1 eo2 eo3))
    have HPO : Hid (P < w5.heap.size ∧ w.heap.size + 2 ≤ P ∧ w5.heap.size ≤ b9 ∧ b9 < w6.heap.size ∧ w6.heap.size + 1 ≤ w7.heap.size ∧ w7.heap.size + 1 ≤ w8.heap.size) := ⟨hPl, hP2, hb9, hs9, hs7, hs8⟩
    obtain ⟨p9, hp9⟩ : ∃ p9, w6.heap.size = p9 := ⟨_, rfl⟩
    obtain ⟨p10, hp10⟩ : ∃ p10, w7.heap.size = p10 := ⟨_, rfl⟩
    obtain ⟨p14, hp14⟩ : ∃ p14, w8.heap.size = p14 := ⟨_, rfl⟩
    obtain ⟨q, hq⟩ : ∃ q, w5.heap.size = q := ⟨_, rfl⟩
    obtain ⟨lo, hlo⟩ : ∃ lo, p9 + 1 = lo := ⟨_, rfl⟩
    obtain ⟨glo, hglo⟩ : ∃ glo, p10 + 1 = glo := ⟨_, rfl⟩
    obtain ⟨hi, hhi⟩ : ∃ hi, p10 = hi := ⟨_, rfl⟩
    obtain ⟨ghi, hghi⟩ : ∃ ghi, p14 = ghi := ⟨_, rfl⟩
    rw [hp9, hp10, hp14, hq] at HPO
    have HU9' : Hid (UC fc flen fd fu es len hd p9 b9 p10 b10 lo hi cs9 R P q oa oc p14 glo ghi ga gc w9) := by have := HU9.out; rw [hp9, hp10, hp14, hq, hlo, hglo] at this; rw [← hhi, ← hghi]; exact this
    have HPR : Hid (p9 + 1 = lo ∧ p10 + 1 = glo ∧ p10 = hi ∧ p14 = ghi) := ⟨hlo, hglo, hhi, hghi⟩
    rw [hp9, hp10, hp14]
    clear HU9 HU8 HT8 HT7 HT6 HO6 HO7 HI6 HI7 HK6 HK7 HX7 HN7 HP6 HP7 HP5 HO5 hlo hglo hhi hghi hp9 hp10 hp14 hq hPl hP2 hb9 hs9 hs7 hs8 hs6 hw5
    have t9 : TC w fa flen fcap fc fd fu ad len cap es hd w9.drew := HT9.out.drew
    have u9 : UC fc flen fd fu es len hd p9 b9 p10 b10 lo hi cs9 R P q oa oc p14 glo ghi ga gc w9.drew := HU9'.out.drew
    have hf0 : w9.cell? ⟨w.heap.size, 0, none⟩ = some (.slice fa flen fcap) := (HT9.out.xf.cell 0).trans rfl
    have hf1 : w9.cell? ⟨w.heap.size, 1, none⟩ = some (.int .i64 fd) := (HT9.out.xf.cell 1).trans rfl
    have hf2 : w9.cell? ⟨w.heap.size, 2, none⟩ = some (.int .i64 fu) := (HT9.out.xf.cell 2).trans rfl
    have hl0 : w9.cell? ⟨w.heap.size + 1, 0, none⟩ = some (.slice ad len cap) := (HT9.out.xl.cell 0).trans rfl
    have hl1 : w9.cell? ⟨w.heap.size + 1, 1, none⟩ = some (.int .i64 hd) := (HT9.out.xl.cell 1).trans rfl
    have hp0 : w9.cell? ⟨p9, 0, none⟩ = some (.slice (some ⟨b9, 0, none⟩) flen flen) := (HU9'.out.x9.cell 0).trans rfl
    have hp1 : w9.cell? ⟨p9, 1, none⟩ = some (.int .i64 fd) := (HU9'.out.x9.cell 1).trans rfl
    have hp2 : w9.cell? ⟨p9, 2, none⟩ = some (.int .i64 fu) := (HU9'.out.x9.cell 2).trans rfl
    have hq0 : w9.cell? ⟨p10, 0, none⟩ = some (.slice (some ⟨b10, 0, none⟩) len len) := (HU9'.out.x10.cell 0).trans rfl
    have hq1 : w9.cell? ⟨p10, 1, none⟩ = some (.int .i64 hd) := (HU9'.out.x10.cell 1).trans rfl
    go_region_held3 (fun w' => w'.cell? ⟨w.heap.size, 0, none⟩ = some (.slice fa flen fcap) ∧ w'.cell? ⟨w.heap.size, 1, none⟩ = some (.int .i64 fd) ∧ w'.cell? ⟨w.heap.size, 2, none⟩ = some (.int .i64 fu) ∧ w'.cell? ⟨w.heap.size + 1, 0, none⟩ = some (.slice ad len cap) ∧ w'.cell? ⟨w.heap.size + 1, 1, none⟩ = some (.int .i64 hd) ∧ w'.cell? ⟨p9, 0, none⟩ = some (.slice (some ⟨b9, 0, none⟩) flen flen) ∧ w'.cell? ⟨p9, 1, none⟩ = some (.int .i64 fd) ∧ w'.cell? ⟨p9, 2, none⟩ = some (.int .i64 fu) ∧ w'.cell? ⟨p10, 0, none⟩ = some (.slice (some ⟨b10, 0, none⟩) len len) ∧ w'.cell? ⟨p10, 1, none⟩ = some (.int .i64 hd) ∧ TC w fa flen fcap fc fd fu ad len cap es hd w' ∧ UC fc flen fd fu es len hd p9 b9 p10 b10 lo hi cs9 R P q oa oc p14 glo ghi ga gc w')
      (refine ⟨?_, ?_, ?_, ?_, ?_, ?_, ?_, ?_, ?_, ?_, ?_, ?_⟩ <;> first | assumption | (simp [*]; done))
      (first
        | (go_at_call 31; refine (toFrame_any _ _ _ fc _ _ _ hb (TC.cr (w := w) (fcap := fcap) (fd := fd) (fu := fu) (ad := ad) (len := len) (cap := cap) (es := es) (hd := hd) (by assumption))).mono ?_; rintro e w10 ⟨bc, rfl, _, i10, b10'⟩; have t10 : TC w fa flen fcap fc fd fu ad len cap es hd w10 := TC.below (by assumption) b10'; have u10 : UC fc flen fd fu es len hd p9 b9 p10 b10 lo hi cs9 R P q oa oc p14 glo ghi ga gc w10 := UC.below (by assumption) b10'; have if0 : w10.cell? ⟨w.heap.size, 0, none⟩ = some (.slice fa flen fcap) := (t10.xf.cell 0).trans rfl; have if1 : w10.cell? ⟨w.heap.size, 1, none⟩ = some (.int .i64 fd) := (t10.xf.cell 1).trans rfl; have if2 : w10.cell? ⟨w.heap.size, 2, none⟩ = some (.int .i64 fu) := (t10.xf.cell 2).trans rfl; have il0 : w10.cell? ⟨w.heap.size + 1, 0, none⟩ = some (.slice ad len cap) := (t10.xl.cell 0).trans rfl; have il1 : w10.cell? ⟨w.heap.size + 1, 1, none⟩ = some (.int .i64 hd) := (t10.xl.cell 1).trans rfl; have ip0 : w10.cell? ⟨p9, 0, none⟩ = some (.slice (some ⟨b9, 0, none⟩) flen flen) := (u10.x9.cell 0).trans rfl; have ip1 : w10.cell? ⟨p9, 1, none⟩ = some (.int .i64 fd) := (u10.x9.cell 1).trans rfl; have ip2 : w10.cell? ⟨p9, 2, none⟩ = some (.int .i64 fu) := (u10.x9.cell 2).trans rfl; have iq0 : w10.cell? ⟨p10, 0, none⟩ = some (.slice (some ⟨b10, 0, none⟩) len len) := (u10.x10.cell 0).trans rfl; have iq1 : w10.cell? ⟨p10, 1, none⟩ = some (.int .i64 hd) := (u10.x10.cell 1).trans rfl)
        | (go_at_call 33; refine (eqFrame_same _ _ _ _ _ fc _ _ _ hb (UC.c9 (fd := fd) (fu := fu) (es := es) (len := len) (hd := hd) (p9 := p9) (p10 := p10) (b10 := b10) (lo := lo) (hi := hi) (cs9 := cs9) (R := R) (P := P) (q := q) (oa := oa) (oc := oc) (p14 := p14) (glo := glo) (ghi := ghi) (ga := ga) (gc := gc) (by assumption)) (by assumption)).mono ?_; rintro e w11 ⟨rfl, b11⟩; have t11 : TC w fa flen fcap fc fd fu ad len cap es hd w11 := TC.below (by assumption) b11; have u11 : UC fc flen fd fu es len hd p9 b9 p10 b10 lo hi cs9 R P q oa oc p14 glo ghi ga gc w11 := UC.below (by assumption) b11; have jf0 : w11.cell? ⟨w.heap.size, 0, none⟩ = some (.slice fa flen fcap) := (t11.xf.cell 0).trans rfl; have jf1 : w11.cell? ⟨w.heap.size, 1, none⟩ = some (.int .i64 fd) := (t11.xf.cell 1).trans rfl; have jf2 : w11.cell? ⟨w.heap.size, 2, none⟩ = some (.int .i64 fu) := (t11.xf.cell 2).trans rfl; have jl0 : w11.cell? ⟨w.heap.size + 1, 0, none⟩ = some (.slice ad len cap) := (t11.xl.cell 0).trans rfl; have jl1 : w11.cell? ⟨w.heap.size + 1, 1, none⟩ = some (.int .i64 hd) := (t11.xl.cell 1).trans rfl; have jp0 : w11.cell? ⟨p9, 0, none⟩ = some (.slice (some ⟨b9, 0, none⟩) flen flen) := (u11.x9.cell 0).trans rfl; have jp1 : w11.cell? ⟨p9, 1, none⟩ = some (.int .i64 fd) := (u11.x9.cell 1).trans rfl; have jp2 : w11.cell? ⟨p9, 2, none⟩ = some (.int .i64 fu) := (u11.x9.cell 2).trans rfl; have jq0 : w11.cell? ⟨p10, 0, none⟩ = some (.slice (some ⟨b10, 0, none⟩) len len) := (u11.x10.cell 0).trans rfl; have jq1 : w11.cell? ⟨p10, 1, none⟩ = some (.int .i64 hd) := (u11.x10.cell 1).trans rfl))
    go_wp2
    have HT11 : Hid (TC w fa flen fcap fc fd fu ad len cap es hd w11) := t11
    have HU11 : Hid (UC fc flen fd fu es len hd p9 b9 p10 b10 lo hi cs9 R P q oa oc p14 glo ghi ga gc w11) := u11
    have v11 : TC w fa flen fcap fc fd fu ad len cap es hd w11.drew := HT11.out.drew
    have x11 : UC fc flen fd fu es len hd p9 b9 p10 b10 lo hi cs9 R P q oa oc p14 glo ghi ga gc w11.drew := HU11.out.drew
    clear t9 u9 t10 u10 t11 u11 i10 b10' b11 hf0 hf1 hf2 hl0 hl1 hp0 hp1 hp2 hq0 hq1 if0 if1 if2 il0 il1 ip0 ip1 ip2 iq0 iq1
    go_region_held3 (fun w' => w'.cell? ⟨w.heap.size, 0, none⟩ = some (.slice fa flen fcap) ∧ w'.cell? ⟨w.heap.size, 1, none⟩ = some (.int .i64 fd) ∧ w'.cell? ⟨w.heap.size, 2, none⟩ = some (.int .i64 fu) ∧ w'.cell? ⟨w.heap.size + 1, 0, none⟩ = some (.slice ad len cap) ∧ w'.cell? ⟨w.heap.size + 1, 1, none⟩ = some (.int .i64 hd) ∧ w'.cell? ⟨p9, 0, none⟩ = some (.slice (some ⟨b9, 0, none⟩) flen flen) ∧ w'.cell? ⟨p9, 1, none⟩ = some (.int .i64 fd) ∧ w'.cell? ⟨p9, 2, none⟩ = some (.int .i64 fu) ∧ w'.cell? ⟨p10, 0, none⟩ = some (.slice (some ⟨b10, 0, none⟩) len len) ∧ w'.cell? ⟨p10, 1, none⟩ = some (.int .i64 hd) ∧ TC w fa flen fcap fc fd fu ad len cap es hd w' ∧ UC fc flen fd fu es len hd p9 b9 p10 b10 lo hi cs9 R P q oa oc p14 glo ghi ga gc w')
      (refine ⟨?_, ?_, ?_, ?_, ?_, ?_, ?_, ?_, ?_, ?_, ?_, ?_⟩ <;> first | assumption | (simp [*]; done))
      (first
        | (go_at_call 40; refine (toLedger_any _ _ _ es _ _ hnn HNJ.out (TC.er (w := w) (fa := fa) (flen := flen) (fcap := fcap) (fc := fc) (fd := fd) (fu := fu) (cap := cap) (hd := hd) (by assumption))).mono ?_; rintro e w12 ⟨bd, bl12, rfl, _, _, o12, b12⟩; have i12 := o12.row; clear o12; have t12 : TC w fa flen fcap fc fd fu ad len cap es hd w12 := TC.below (by assumption) b12; have u12 : UC fc flen fd fu es len hd p9 b9 p10 b10 lo hi cs9 R P q oa oc p14 glo ghi ga gc w12 := UC.below (by assumption) b12; have kf0 : w12.cell? ⟨w.heap.size, 0, none⟩ = some (.slice fa flen fcap) := (t12.xf.cell 0).trans rfl; have kf1 : w12.cell? ⟨w.heap.size, 1, none⟩ = some (.int .i64 fd) := (t12.xf.cell 1).trans rfl; have kf2 : w12.cell? ⟨w.heap.size, 2, none⟩ = some (.int .i64 fu) := (t12.xf.cell 2).trans rfl; have kl0 : w12.cell? ⟨w.heap.size + 1, 0, none⟩ = some (.slice ad len cap) := (t12.xl.cell 0).trans rfl; have kl1 : w12.cell? ⟨w.heap.size + 1, 1, none⟩ = some (.int .i64 hd) := (t12.xl.cell 1).trans rfl; have kp0 : w12.cell? ⟨p9, 0, none⟩ = some (.slice (some ⟨b9, 0, none⟩) flen flen) := (u12.x9.cell 0).trans rfl; have kp1 : w12.cell? ⟨p9, 1, none⟩ = some (.int .i64 fd) := (u12.x9.cell 1).trans rfl; have kp2 : w12.cell? ⟨p9, 2, none⟩ = some (.int .i64 fu) := (u12.x9.cell 2).trans rfl; have kq0 : w12.cell? ⟨p10, 0, none⟩ = some (.slice (some ⟨b10, 0, none⟩) len len) := (u12.x10.cell 0).trans rfl; have kq1 : w12.cell? ⟨p10, 1, none⟩ = some (.int .i64 hd) := (u12.x10.cell 1).trans rfl)
        | (go_at_call 41; refine (eqLedger_same _ _ _ _ _ es _ _ hnn HNJ.out (NewE.row (lo := lo) (hi := hi) (t := 32) (tl := 56) (UC.n10 (fc := fc) (flen := flen) (fd := fd) (fu := fu) (hd := hd) (p9 := p9) (b9 := b9) (p10 := p10) (cs9 := cs9) (R := R) (P := P) (q := q) (oa := oa) (oc := oc) (p14 := p14) (glo := glo) (ghi := ghi) (ga := ga) (gc := gc) (by assumption))) (by assumption)).mono ?_; rintro e w13 ⟨rfl, b13⟩; have t13 : TC w fa flen fcap fc fd fu ad len cap es hd w13 := TC.below (by assumption) b13; have u13 : UC fc flen fd fu es len hd p9 b9 p10 b10 lo hi cs9 R P q oa oc p14 glo ghi ga gc w13 := UC.below (by assumption) b13; have mf0 : w13.cell? ⟨w.heap.size, 0, none⟩ = some (.slice fa flen fcap) := (t13.xf.cell 0).trans rfl; have mf1 : w13.cell? ⟨w.heap.size, 1, none⟩ = some (.int .i64 fd) := (t13.xf.cell 1).trans rfl; have mf2 : w13.cell? ⟨w.heap.size, 2, none⟩ = some (.int .i64 fu) := (t13.xf.cell 2).trans rfl; have ml0 : w13.cell? ⟨w.heap.size + 1, 0, none⟩ = some (.slice ad len cap) := (t13.xl.cell 0).trans rfl; have ml1 : w13.cell? ⟨w.heap.size + 1, 1, none⟩ = some (.int .i64 hd) := (t13.xl.cell 1).trans rfl; have mp0 : w13.cell? ⟨p9, 0, none⟩ = some (.slice (some ⟨b9, 0, none⟩) flen flen) := (u13.x9.cell 0).trans rfl; have mp1 : w13.cell? ⟨p9, 1, none⟩ = some (.int .i64 fd) := (u13.x9.cell 1).trans rfl; have mp2 : w13.cell? ⟨p9, 2, none⟩ = some (.int .i64 fu) := (u13.x9.cell 2).trans rfl; have mq0 : w13.cell? ⟨p10, 0, none⟩ = some (.slice (some ⟨b10, 0, none⟩) len len) := (u13.x10.cell 0).trans rfl; have mq1 : w13.cell? ⟨p10, 1, none⟩ = some (.int .i64 hd) := (u13.x10.cell 1).trans rfl))
    have HT13 : Hid (TC w fa flen fcap fc fd fu ad len cap es hd w13) := t13
    have HU13 : Hid (UC fc flen fd fu es len hd p9 b9 p10 b10 lo hi cs9 R P q oa oc p14 glo ghi ga gc w13) := u13
    clear v11 x11 t12 u12 t13 u13 i12 b12 b13 jf0 jf1 jf2 jl0 jl1 jp0 jp1 jp2 jq0 jq1 kf0 kf1 kf2 kl0 kl1 kp0 kp1 kp2 kq0 kq1
    have tok1 : True := trivial
    go_wp2_with (first
      | (go_at_call 42; refine (markFrame_is _ _ _ _ _ cs9 _ hb HU13.out.k9 HS9.out).mono ?_; rintro e w14 ⟨rfl, kr⟩; have HT14 : Hid (TC w fa flen fcap fc fd fu ad len cap es hd w14) := HT13.out.kr kr (by have := HPO.out; have := HPR.out; omega) HR.out HLd.out; have HX14 : Hid (CB w14 p10 #[.slice (some ⟨b10, 0, none⟩) len len, .int .i64 hd] 29) := HU13.out.x10.kr2 kr (by have := HPO.out; have := HPR.out; omega); have HN14 : Hid (NewE lo hi w14 (some ⟨b10, 0, none⟩) len es 32 56) := HU13.out.n10.kr kr (by have := HPO.out; have := HPR.out; omega); have HP14 : Hid (CB w14 P #[.int .i64 R.day, .int .i64 R.ref, .string R.text, .slice oa R.n oc] 32) := HU13.out.x0.kr2 kr (by have := HPO.out; have := HPR.out; omega); have HO14 : Hid (OldR q w14 oa R.n R.ls) := HU13.out.o.kr kr (by have := HPO.out; have := HPR.out; omega); have HQ14 : Hid (CB w14 p14 #[.int .i64 R.day, .int .i64 R.ref, .string R.text, .slice ga R.n gc] 32) := HU13.out.xg.kr2 kr (by have := HPO.out; have := HPR.out; omega); have HG14 : Hid (NewL glo ghi w14 ga R.n R.ls 56) := HU13.out.g.kr kr (by have := HPO.out; have := HPR.out; omega); clear kr; have z0 := (HX14.out.cell 0).trans rfl; have z1 := (HX14.out.cell 1).trans rfl)
      | (go_at_call 43; refine (markLedger_is _ _ _ es _ _ _ _ _ hnn HNJ.out (by omega) (by omega) HN14.out).mono ?_; rintro e w15 ⟨rfl, _, kr⟩; have HT15 : Hid (TC w fa flen fcap fc fd fu ad len cap es hd w15) := HT14.out.kr kr (by have := HPO.out; have := HPR.out; omega) HR.out HLd.out; have HP15 : Hid (CB w15 P #[.int .i64 R.day, .int .i64 R.ref, .string R.text, .slice oa R.n oc] 32) := HP14.out.kr2 kr (by have := HPO.out; have := HPR.out; omega); have HO15 : Hid (OldR q w15 oa R.n R.ls) := HO14.out.kr kr (by have := HPO.out; have := HPR.out; omega); have HQ15 : Hid (CB w15 p14 #[.int .i64 R.day, .int .i64 R.ref, .string R.text, .slice ga R.n gc] 32) := HQ14.out.kr2 kr (by have := HPO.out; have := HPR.out; omega); have HG15 : Hid (NewL glo ghi w15 ga R.n R.ls 56) := HG14.out.kr kr (by have := HPO.out; have := HPR.out; omega); clear kr; have hk1 := kE_bound (k := 3 * (flen : Int) + 1) (es := es) (n := len) (by omega) HNJ.out len (Nat.le_refl _); have hk2 := hk1.1; have hk3 := hk1.2; clear hk1; have yo0 := (HP15.out.cell 0).trans rfl; have yo1 := (HP15.out.cell 1).trans rfl; have yo2 := (HP15.out.cell 2).trans rfl; have yo3 := (HP15.out.cell 3).trans rfl; have yg0 := (HQ15.out.cell 0).trans rfl; have yg1 := (HQ15.out.cell 1).trans rfl; have yg2 := (HQ15.out.cell 2).trans rfl; have yg3 := (HQ15.out.cell 3).trans rfl)
      | (go_at_call 37; clear tok1; refine (eqEntry_same _ _ _ _ _ _ _ _ R.ls _ hRn2 HG15.out.row HO15.out.row).mono ?_; rintro e w16 ⟨rfl, b16⟩; have HT16 : Hid (TC w fa flen fcap fc fd fu ad len cap es hd w16) := HT15.out.below b16; have HP16 : Hid (CB w16 P #[.int .i64 R.day, .int .i64 R.ref, .string R.text, .slice oa R.n oc] 32) := HP15.out.below b16 HP15.out.lt; have HO16 : Hid (OldR q w16 oa R.n R.ls) := HO15.out.below b16; have HQ16 : Hid (CB w16 p14 #[.int .i64 R.day, .int .i64 R.ref, .string R.text, .slice ga R.n gc] 32) := HQ15.out.below b16 HQ15.out.lt; have HG16 : Hid (NewL glo ghi w16 ga R.n R.ls 56) := HG15.out.below b16; clear b16 yo0 yo1 yo2 yo3 yg0 yg1 yg2 yg3; have yg0 := (HQ16.out.cell 0).trans rfl; have yg1 := (HQ16.out.cell 1).trans rfl; have yg2 := (HQ16.out.cell 2).trans rfl; have yg3 := (HQ16.out.cell 3).trans rfl)
      | (go_at_call 44; refine (markEntry_is _ _ _ _ _ _ R.ls _ _ _ _ hRn2 (by omega) (by omega) HG16.out).mono ?_; rintro e w17 ⟨rfl, g17, kr⟩; have HT17 : Hid (TC w fa flen fcap fc fd fu ad len cap es hd w17) := HT16.out.kr kr (by have := HPO.out; have := HPR.out; omega) HR.out HLd.out; have HV17 : Hid (CB w17 P #[.int .i64 R.day, .int .i64 R.ref, .string R.text, .slice oa R.n oc] 32 ∧ OldR q w17 oa R.n R.ls ∧ CB w17 p14 #[.int .i64 R.day, .int .i64 R.ref, .string R.text, .slice ga R.n gc] 32 ∧ NewL glo ghi w17 ga R.n (mkL 1) 56) := ⟨HP16.out.kr2 kr (by have := HPO.out; have := HPR.out; omega), HO16.out.kr kr (by have := HPO.out; have := HPR.out; omega), HQ16.out.kr2 kr (by have := HPO.out; have := HPR.out; omega), g17⟩; clear kr g17 yg0 yg1 yg2 yg3; have yg0 := (HV17.out.2.2.1.cell 0).trans rfl; have yg1 := (HV17.out.2.2.1.cell 1).trans rfl; have yg2 := (HV17.out.2.2.1.cell 2).trans rfl; have yg3 := (HV17.out.2.2.1.cell 3).trans rfl)
      | (go_at_call 46; refine (heldEntry_is _ _ _ _ _ _ _ _ hRn2 (by omega) (by omega) HV17.out.2.2.2.row).mono ?_; rintro e w22 ⟨rfl, b22⟩; have HT22 : Hid (TC w fa flen fcap fc fd fu ad len cap es hd w22) := HT17.out.below b22; have HV22 : Hid (CB w22 P #[.int .i64 R.day, .int .i64 R.ref, .string R.text, .slice oa R.n oc] 32 ∧ OldR q w22 oa R.n R.ls ∧ CB w22 p14 #[.int .i64 R.day, .int .i64 R.ref, .string R.text, .slice ga R.n gc] 32 ∧ NewL glo ghi w22 ga R.n (mkL 1) 56) := ⟨HV17.out.1.below b22 HV17.out.1.lt, HV17.out.2.1.below b22, HV17.out.2.2.1.below b22 HV17.out.2.2.1.lt, HV17.out.2.2.2.below b22⟩; clear b22 yg0 yg1 yg2 yg3))
    have V22 : Hid (VC R P q oa oc p14 glo ghi ga gc w22.heap.size w22.drew) := by
      have h := HV22.out
      have h1 := h.1.lt
      have h2 := h.2.2.1.lt
      have bb : Below w22.heap.size w22 w22.drew := (Below.refl _ _).drew
      exact ⟨h.1.below bb h1, h.2.1.below bb, h.2.2.1.below bb h2, h.2.2.2.below bb, by have := HPO.out; have := HPR.out; omega⟩
    have T22 : Hid (TC w fa flen fcap fc fd fu ad len cap es hd w22.drew) := HT22.out.drew
    clear HV22 HV17 HP16 HO16 HQ16 HG16 HP15 HO15 HQ15 HG15 HP14 HO14 HQ14 HG14 HX14 HN14 HU13 HU11 HU9' z0 z1
    go_cut [19, 20] from 21 (fun s19 s20 wx => ∃ PH ha hcp, s19 = .pointer (some ⟨PH, 0, none⟩) ∧ s20 = .bool RB ∧ CB wx PH #[.int .i64 R.day, .int .i64 R.ref, .string R.text, .slice ha R.n hcp] 32 ∧ LR wx ha R.n R.ls ∧ VC R P q oa oc p14 glo ghi ga gc w22.heap.size wx ∧ TC w fa flen fcap fc fd fu ad len cap es hd wx)
    case first =>
      refine wp_region_held_drew (S := fun w' => w'.cell? ⟨w.heap.size, 0, none⟩ = some (.slice fa flen fcap) ∧ w'.cell? ⟨w.heap.size, 1, none⟩ = some (.int .i64 fd) ∧ w'.cell? ⟨w.heap.size, 2, none⟩ = some (.int .i64 fu) ∧ w'.cell? ⟨w.heap.size + 1, 0, none⟩ = some (.slice ad len cap) ∧ w'.cell? ⟨w.heap.size + 1, 1, none⟩ = some (.int .i64 hd)) (by kernel_rfl) (by exact T22.out.cells) (fun hHeld => ?_)
      refine wpAnyH_take (i := 0) (oi := { dst := some 103, op := Go.Op.load 59 (Go.Operand.tmp 4), type := 59, pos := "exact.go:7365", after := #[], guard := none }) (v := ?_) rfl (by kernel_rfl) (by kernel_rfl) (by kernel_rfl) (fun _ _ _ h => h) (Or.inl ⟨by rfl, ?_⟩) (by assumption) ?_
      rotate_left
      · (intro w hSw; (try dsimp only at hSw); go_simp <;> try with_reducible rfl)
      try simp only [Act.put, List.setIfInBounds_toArray, List.set_cons_zero, List.set_cons_succ]
      refine wpAnyH_take (i := 2) (oi := { dst := some 105, op := Go.Op.load 74 (Go.Operand.tmp 5), type := 74, pos := "exact.go:7365", after := #[], guard := none }) (v := ?_) rfl (by kernel_rfl) (by kernel_rfl) (by kernel_rfl) (fun _ _ _ h => h) (Or.inl ⟨by rfl, ?_⟩) (by assumption) ?_
      rotate_left
      · (intro w hSw; (try dsimp only at hSw); go_simp <;> try with_reducible rfl)
      try simp only [Act.put, List.setIfInBounds_toArray, List.set_cons_zero, List.set_cons_succ]
      refine wpAnyH_take (i := 4) (oi := { dst := some 107, op := Go.Op.move (Go.Operand.tmp 2), type := 3, pos := "exact.go:7365", after := #[], guard := none }) (v := ?_) rfl (by kernel_rfl) (by kernel_rfl) (by kernel_rfl) (fun _ _ _ h => h) (Or.inl ⟨by rfl, ?_⟩) (by assumption) ?_
      rotate_left
      · (intro w hSw; (try dsimp only at hSw); go_simp <;> try with_reducible rfl)
      try simp only [Act.put, List.setIfInBounds_toArray, List.set_cons_zero, List.set_cons_succ]
      refine wpAnyH_take (i := 5) (oi := { dst := some 108, op := Go.Op.move (Go.Operand.tmp 3), type := 3, pos := "exact.go:7365", after := #[], guard := none }) (v := ?_) rfl (by kernel_rfl) (by kernel_rfl) (by kernel_rfl) (fun _ _ _ h => h) (Or.inl ⟨by rfl, ?_⟩) (by assumption) ?_
      rotate_left
      · (intro w hSw; (try dsimp only at hSw); go_simp <;> try with_reducible rfl)
      try simp only [Act.put, List.setIfInBounds_toArray, List.set_cons_zero, List.set_cons_succ]
      refine wpAnyH_ready (rs := [1, 10]) (by kernel_rfl) (by simp) ?_
      refine AllReadyH.cons (o := { dst := some 104, op := Go.Op.call { callee := Go.Callee.value (Go.Operand.func 31), args := #[Go.Operand.tmp 103], argTypes := #[59] }, type := 26, pos := "exact.go:7365", after := #[{ on := 0, ground := Go.Ground.data }], guard := none }) rfl (fun K hK => ?_) (AllReadyH.cons (o := { dst := some 19, op := Go.Op.alloc 32, type := 0, pos := "exact.go:7365", after := #[], guard := none }) rfl (fun K hK => ?_) (AllReadyH.nil))
      · go_simp
        refine (toFrame_any _ _ _ fc _ _ _ hb T22.out.cr).mono ?_
        rintro e w61 ⟨ba61, rfl, _, i61, b61⟩
        have s61 : w22.heap.size ≤ w61.heap.size := by have := b61.size; first | exact this | (simp at this; omega)
        have V61 : Hid (VC R P q oa oc p14 glo ghi ga gc w22.heap.size w61) := V22.out.below b61
        have T61 : Hid (TC w fa flen fcap fc fd fu ad len cap es hd w61) := T22.out.below b61
        have I61 : Hid (CR w61 (some ⟨ba61, 0, none⟩) flen fc) := i61
        clear i61 b61
        first | refine hK.out _ _ (by exact T61.out.cells) (fun hHeld => ?_) | (go_wp2_with fail; refine hK.out _ _ (by exact T61.out.cells) (fun hHeld => ?_))
        clear hK K
        try simp only [Act.put, List.setIfInBounds_toArray, List.set_cons_zero, List.set_cons_succ]
        refine wpAnyH_ready (rs := [3, 10]) (by kernel_rfl) (by simp) ?_
        refine AllReadyH.cons (o := { dst := some 106, op := Go.Op.call { callee := Go.Callee.value (Go.Operand.func 40), args := #[Go.Operand.tmp 105], argTypes := #[74] }, type := 29, pos := "exact.go:7365", after := #[{ on := 2, ground := Go.Ground.data }, { on := 1, ground := Go.Ground.chain }], guard := none }) rfl (fun K hK => ?_) (AllReadyH.cons (o := { dst := some 19, op := Go.Op.alloc 32, type := 0, pos := "exact.go:7365", after := #[], guard := none }) rfl (fun K hK => ?_) (AllReadyH.nil))
        · go_simp
          refine (toLedger_any _ _ _ es _ _ hnn HNJ.out T61.out.er).mono ?_
          rintro e w62 ⟨be62, bl62, rfl, _, _, i62, b62⟩
          have s62 : w61.heap.size ≤ w62.heap.size := by have := b62.size; first | exact this | (simp at this; omega)
          have I62 : Hid (CR w62 (some ⟨ba61, 0, none⟩) flen fc) := I61.out.below b62
          have V62 : Hid (VC R P q oa oc p14 glo ghi ga gc w22.heap.size w62) := V61.out.below b62
          have T62 : Hid (TC w fa flen fcap fc fd fu ad len cap es hd w62) := T61.out.below b62
          have E62 : Hid (ER w62 (some ⟨be62, 0, none⟩) len es) := i62.row
          clear i62 b62
          first | refine hK.out _ _ (by exact T62.out.cells) (fun hHeld => ?_) | (go_wp2_with fail; refine hK.out _ _ (by exact T62.out.cells) (fun hHeld => ?_))
          clear hK K
          try simp only [Act.put, List.setIfInBounds_toArray, List.set_cons_zero, List.set_cons_succ]
          refine wpAnyH_ready (rs := [6, 10]) (by kernel_rfl) (by simp) ?_
          refine AllReadyH.cons (o := { dst := some 109, op := Go.Op.call { callee := Go.Callee.value (Go.Operand.func 23), args := #[Go.Operand.tmp 104, Go.Operand.tmp 106, Go.Operand.tmp 107, Go.Operand.tmp 108], argTypes := #[26, 29, 3, 3] }, type := 46, pos := "exact.go:7365", after := #[{ on := 1, ground := Go.Ground.data }, { on := 3, ground := Go.Ground.data }, { on := 4, ground := Go.Ground.data }, { on := 5, ground := Go.Ground.data }, { on := 3, ground := Go.Ground.chain }], guard := none }) rfl (fun K hK => ?_) (AllReadyH.cons (o := { dst := some 19, op := Go.Op.alloc 32, type := 0, pos := "exact.go:7365", after := #[], guard := none }) rfl (fun K hK => ?_) (AllReadyH.nil))
          · go_simp
            refine (HIM.out _ _ _ _ _ I62.out (HE.out.below T62.out.bl h9) (HTP.out.below T62.out.bl) E62.out).mono ?_
            rintro e w63 ⟨ha, hcp, rfl, i63, b63⟩
            have s63 : w62.heap.size ≤ w63.heap.size := by have := b63.size; first | exact this | (simp at this; omega)
            have I63 : Hid (CR w63 (some ⟨ba61, 0, none⟩) flen fc) := I62.out.below b63
            have E63 : Hid (ER w63 (some ⟨be62, 0, none⟩) len es) := E62.out.below b63
            have V63 : Hid (VC R P q oa oc p14 glo ghi ga gc w22.heap.size w63) := V62.out.below b63
            have T63 : Hid (TC w fa flen fcap fc fd fu ad len cap es hd w63) := T62.out.below b63
            have O63 : Hid (NewR w62.heap.size w63 ha R.n R.ls) := i63.r
            clear i63 b63
            first | refine hK.out _ _ (by exact T63.out.cells) (fun hHeld => ?_) | (go_wp2_with fail; refine hK.out _ _ (by exact T63.out.cells) (fun hHeld => ?_))
            clear hK K
            try simp only [Act.put, List.setIfInBounds_toArray, List.set_cons_zero, List.set_cons_succ]
            refine wpAnyH_take (i := 7) (oi := { dst := some 102, op := Go.Op.move (Go.Operand.tmp 109), type := 46, pos := "exact.go:7365", after := #[{ on := 6, ground := Go.Ground.data }], guard := none }) (v := ?_) rfl (by kernel_rfl) (by kernel_rfl) (by kernel_rfl) (fun _ _ _ h => h) (Or.inl ⟨by rfl, ?_⟩) (by assumption) ?_
            rotate_left
            · (intro w hSw; (try dsimp only at hSw); go_simp <;> try with_reducible rfl)
            try simp only [Act.put, List.setIfInBounds_toArray, List.set_cons_zero, List.set_cons_succ]
            refine wpAnyH_take (i := 8) (oi := { dst := some 110, op := Go.Op.extract (Go.Operand.tmp 102) 0, type := 32, pos := "exact.go:7365", after := #[{ on := 7, ground := Go.Ground.data }], guard := none }) (v := ?_) rfl (by kernel_rfl) (by kernel_rfl) (by kernel_rfl) (fun _ _ _ h => h) (Or.inl ⟨by rfl, ?_⟩) (by assumption) ?_
            rotate_left
            · (intro w hSw; (try dsimp only at hSw); go_simp <;> try with_reducible rfl)
            try simp only [Act.put, List.setIfInBounds_toArray, List.set_cons_zero, List.set_cons_succ]
            refine wpAnyH_take (i := 9) (oi := { dst := some 111, op := Go.Op.extract (Go.Operand.tmp 102) 1, type := 4, pos := "exact.go:7365", after := #[{ on := 7, ground := Go.Ground.data }, { on := 11, ground := Go.Ground.gcOnly Go.Departure.lateStores }], guard := none }) (v := ?_) rfl (by kernel_rfl) (by kernel_rfl) (by kernel_rfl) (fun _ _ _ h => h) (Or.inl ⟨by rfl, ?_⟩) (by assumption) ?_
            rotate_left
            · (intro w hSw; (try dsimp only at hSw); go_simp <;> try with_reducible rfl)
            try simp only [Act.put, List.setIfInBounds_toArray, List.set_cons_zero, List.set_cons_succ]
            refine wpAnyH_ready (rs := [10]) (by kernel_rfl) (by simp) ?_
            refine AllReadyH.cons (o := { dst := some 19, op := Go.Op.alloc 32, type := 0, pos := "exact.go:7365", after := #[], guard := none }) rfl (fun K hK => ?_) (AllReadyH.nil)
            go_simp
            have bb64 : Below w63.heap.size w63 (w63.alloc (.cells #[.int .i64 0, .int .i64 0, .string ⟨#[]⟩, .slice none 0 0] 32 (0, 0))) := (Below.refl _ _).alloc (Nat.le_refl _) _
            have I64 : Hid (CR (w63.alloc (.cells #[.int .i64 0, .int .i64 0, .string ⟨#[]⟩, .slice none 0 0] 32 (0, 0))) (some ⟨ba61, 0, none⟩) flen fc) := I63.out.below bb64
            have E64 : Hid (ER (w63.alloc (.cells #[.int .i64 0, .int .i64 0, .string ⟨#[]⟩, .slice none 0 0] 32 (0, 0))) (some ⟨be62, 0, none⟩) len es) := E63.out.below bb64
            have V64 : Hid (VC R P q oa oc p14 glo ghi ga gc w22.heap.size (w63.alloc (.cells #[.int .i64 0, .int .i64 0, .string ⟨#[]⟩, .slice none 0 0] 32 (0, 0)))) := V63.out.below bb64
            have O64 : Hid (NewR w62.heap.size (w63.alloc (.cells #[.int .i64 0, .int .i64 0, .string ⟨#[]⟩, .slice none 0 0] 32 (0, 0))) ha R.n R.ls) := O63.out.below bb64
            have T64 : Hid (TC w fa flen fcap fc fd fu ad len cap es hd (w63.alloc (.cells #[.int .i64 0, .int .i64 0, .string ⟨#[]⟩, .slice none 0 0] 32 (0, 0)))) := T63.out.below bb64
            have Z64 : Hid (CB (w63.alloc (.cells #[.int .i64 0, .int .i64 0, .string ⟨#[]⟩, .slice none 0 0] 32 (0, 0))) w63.heap.size #[.int .i64 0, .int .i64 0, .string ⟨#[]⟩, .slice none 0 0] 32) := CB.newAt (by rfl) _ _
            clear bb64
            first | refine hK.out _ _ (by exact T64.out.cells) (fun hHeld => ?_) | (go_wp2_with fail; refine hK.out _ _ (by exact T64.out.cells) (fun hHeld => ?_))
            clear hK K
            try simp only [Act.put, List.setIfInBounds_toArray, List.set_cons_zero, List.set_cons_succ]
            have zl65 : w.heap.size + 2 ≤ w63.heap.size := by have : w.heap.size + 2 ≤ w22.heap.size := T22.out.lt; omega
            refine wpAnyH_ready (rs := [11]) (by kernel_rfl) (by simp) ?_
            refine AllReadyH.cons (o := { dst := none, op := Go.Op.store 32 (Go.Operand.tmp 19) (Go.Operand.tmp 110), type := 0, pos := "exact.go:7365", after := #[{ on := 10, ground := Go.Ground.data }, { on := 8, ground := Go.Ground.data }, { on := 6, ground := Go.Ground.chain }, { on := 0, ground := Go.Ground.phase }, { on := 1, ground := Go.Ground.phase }, { on := 2, ground := Go.Ground.phase }, { on := 3, ground := Go.Ground.phase }, { on := 4, ground := Go.Ground.phase }, { on := 5, ground := Go.Ground.phase }, { on := 6, ground := Go.Ground.phase }, { on := 7, ground := Go.Ground.phase }, { on := 8, ground := Go.Ground.phase }, { on := 9, ground := Go.Ground.textOnly Go.Departure.lateStores }, { on := 10, ground := Go.Ground.phase }], guard := none }) rfl (fun K hK => ?_) (AllReadyH.nil)
            go_simp
            have T65 : Hid (TC w fa flen fcap fc fd fu ad len cap es hd (w63.alloc (.cells #[.int .i64 R.day, .int .i64 R.ref, .string R.text, .slice ha R.n hcp] 32 (0, 0)))) := T63.out.alloc _
            have Z65 : Hid (CB (w63.alloc (.cells #[.int .i64 R.day, .int .i64 R.ref, .string R.text, .slice ha R.n hcp] 32 (0, 0))) w63.heap.size #[.int .i64 R.day, .int .i64 R.ref, .string R.text, .slice ha R.n hcp] 32) := CB.newAt (by rfl) _ _
            have O65 : Hid (NewR w62.heap.size (w63.alloc (.cells #[.int .i64 R.day, .int .i64 R.ref, .string R.text, .slice ha R.n hcp] 32 (0, 0))) ha R.n R.ls) := O63.out.below ((Below.refl _ _).alloc (Nat.le_refl _) _)
            have V65 : Hid (VC R P q oa oc p14 glo ghi ga gc w22.heap.size (w63.alloc (.cells #[.int .i64 R.day, .int .i64 R.ref, .string R.text, .slice ha R.n hcp] 32 (0, 0)))) := V63.out.below ((Below.refl _ _).alloc (Nat.le_refl _) _)
            first | refine hK.out _ _ (by exact T65.out.cells) (fun hHeld => ?_) | (go_wp2_with fail; refine hK.out _ _ (by exact T65.out.cells) (fun hHeld => ?_))
            clear hK K
            try simp only [Act.put, List.setIfInBounds_toArray, List.set_cons_zero, List.set_cons_succ]
            refine wpAnyH_ready (rs := [12]) (by kernel_rfl) (by simp) ?_
            refine AllReadyH.cons (o := { dst := some 20, op := Go.Op.assign (Go.Operand.tmp 111), type := 4, pos := "exact.go:7365", after := #[{ on := 9, ground := Go.Ground.data }, { on := 11, ground := Go.Ground.chain }, { on := 0, ground := Go.Ground.phase }, { on := 1, ground := Go.Ground.phase }, { on := 2, ground := Go.Ground.phase }, { on := 3, ground := Go.Ground.phase }, { on := 4, ground := Go.Ground.phase }, { on := 5, ground := Go.Ground.phase }, { on := 6, ground := Go.Ground.phase }, { on := 7, ground := Go.Ground.phase }, { on := 8, ground := Go.Ground.phase }, { on := 9, ground := Go.Ground.phase }, { on := 10, ground := Go.Ground.phase }, { on := 11, ground := Go.Ground.phase }], guard := none }) rfl (fun K hK => ?_) (AllReadyH.nil)
            go_simp
            first | refine hK.out _ _ (by exact T65.out.cells) (fun hHeld => ?_) | (go_wp2_with fail; refine hK.out _ _ (by exact T65.out.cells) (fun hHeld => ?_))
            clear hK K
            try simp only [Act.put, List.setIfInBounds_toArray, List.set_cons_zero, List.set_cons_succ]
            refine wpAnyH_done (by kernel_rfl) ?_ _
            clear hHeld
            go_wp2_with fail
            go_meet
            exact ⟨_, ha, hcp, rfl, rfl, Z65.out, O65.out.row, V65.out, T65.out⟩
          · go_simp
            have bb66 : Below w62.heap.size w62 (w62.alloc (.cells #[.int .i64 0, .int .i64 0, .string ⟨#[]⟩, .slice none 0 0] 32 (0, 0))) := (Below.refl _ _).alloc (Nat.le_refl _) _
            have I66 : Hid (CR (w62.alloc (.cells #[.int .i64 0, .int .i64 0, .string ⟨#[]⟩, .slice none 0 0] 32 (0, 0))) (some ⟨ba61, 0, none⟩) flen fc) := I62.out.below bb66
            have E66 : Hid (ER (w62.alloc (.cells #[.int .i64 0, .int .i64 0, .string ⟨#[]⟩, .slice none 0 0] 32 (0, 0))) (some ⟨be62, 0, none⟩) len es) := E62.out.below bb66
            have V66 : Hid (VC R P q oa oc p14 glo ghi ga gc w22.heap.size (w62.alloc (.cells #[.int .i64 0, .int .i64 0, .string ⟨#[]⟩, .slice none 0 0] 32 (0, 0)))) := V62.out.below bb66
            have T66 : Hid (TC w fa flen fcap fc fd fu ad len cap es hd (w62.alloc (.cells #[.int .i64 0, .int .i64 0, .string ⟨#[]⟩, .slice none 0 0] 32 (0, 0)))) := T62.out.below bb66
            have Z66 : Hid (CB (w62.alloc (.cells #[.int .i64 0, .int .i64 0, .string ⟨#[]⟩, .slice none 0 0] 32 (0, 0))) w62.heap.size #[.int .i64 0, .int .i64 0, .string ⟨#[]⟩, .slice none 0 0] 32) := CB.newAt (by rfl) _ _
            clear bb66
            first | refine hK.out _ _ (by exact T66.out.cells) (fun hHeld => ?_) | (go_wp2_with fail; refine hK.out _ _ (by exact T66.out.cells) (fun hHeld => ?_))
            clear hK K
            try simp only [Act.put, List.setIfInBounds_toArray, List.set_cons_zero, List.set_cons_succ]
            refine wpAnyH_ready (rs := [6]) (by kernel_rfl) (by simp) ?_
            refine AllReadyH.cons (o := { dst := some 109, op := Go.Op.call { callee := Go.Callee.value (Go.Operand.func 23), args := #[Go.Operand.tmp 104, Go.Operand.tmp 106, Go.Operand.tmp 107, Go.Operand.tmp 108], argTypes := #[26, 29, 3, 3] }, type := 46, pos := "exact.go:7365", after := #[{ on := 1, ground := Go.Ground.data }, { on := 3, ground := Go.Ground.data }, { on := 4, ground := Go.Ground.data }, { on := 5, ground := Go.Ground.data }, { on := 3, ground := Go.Ground.chain }], guard := none }) rfl (fun K hK => ?_) (AllReadyH.nil)
            go_simp
            refine (HIM.out _ _ _ _ _ I66.out (HE.out.below T66.out.bl h9) (HTP.out.below T66.out.bl) E66.out).mono ?_
            rintro e w67 ⟨ha, hcp, rfl, i67, b67⟩
            have s67 : w62.heap.size ≤ w67.heap.size := by have := b67.size; first | exact this | (simp at this; omega)
            have ol67 : w62.heap.size < (w62.alloc (.cells #[.int .i64 0, .int .i64 0, .string ⟨#[]⟩, .slice none 0 0] 32 (0, 0))).heap.size := Z66.out.lt
            have Z67 : Hid (CB w67 w62.heap.size #[.int .i64 0, .int .i64 0, .string ⟨#[]⟩, .slice none 0 0] 32) := Z66.out.below b67 Z66.out.lt
            have I67 : Hid (CR w67 (some ⟨ba61, 0, none⟩) flen fc) := I66.out.below b67
            have E67 : Hid (ER w67 (some ⟨be62, 0, none⟩) len es) := E66.out.below b67
            have V67 : Hid (VC R P q oa oc p14 glo ghi ga gc w22.heap.size w67) := V66.out.below b67
            have T67 : Hid (TC w fa flen fcap fc fd fu ad len cap es hd w67) := T66.out.below b67
            have O67 : Hid (NewR (w62.alloc (.cells #[.int .i64 0, .int .i64 0, .string ⟨#[]⟩, .slice none 0 0] 32 (0, 0))).heap.size w67 ha R.n R.ls) := i67.r
            clear i67 b67
            first | refine hK.out _ _ (by exact T67.out.cells) (fun hHeld => ?_) | (go_wp2_with fail; refine hK.out _ _ (by exact T67.out.cells) (fun hHeld => ?_))
            clear hK K
            try simp only [Act.put, List.setIfInBounds_toArray, List.set_cons_zero, List.set_cons_succ]
            refine wpAnyH_take (i := 7) (oi := { dst := some 102, op := Go.Op.move (Go.Operand.tmp 109), type := 46, pos := "exact.go:7365", after := #[{ on := 6, ground := Go.Ground.data }], guard := none }) (v := ?_) rfl (by kernel_rfl) (by kernel_rfl) (by kernel_rfl) (fun _ _ _ h => h) (Or.inl ⟨by rfl, ?_⟩) (by assumption) ?_
            rotate_left
            · (intro w hSw; (try dsimp only at hSw); go_simp <;> try with_reducible rfl)
            try simp only [Act.put, List.setIfInBounds_toArray, List.set_cons_zero, List.set_cons_succ]
            refine wpAnyH_take (i := 8) (oi := { dst := some 110, op := Go.Op.extract (Go.Operand.tmp 102) 0, type := 32, pos := "exact.go:7365", after := #[{ on := 7, ground := Go.Ground.data }], guard := none }) (v := ?_) rfl (by kernel_rfl) (by kernel_rfl) (by kernel_rfl) (fun _ _ _ h => h) (Or.inl ⟨by rfl, ?_⟩) (by assumption) ?_
            rotate_left
            · (intro w hSw; (try dsimp only at hSw); go_simp <;> try with_reducible rfl)
            try simp only [Act.put, List.setIfInBounds_toArray, List.set_cons_zero, List.set_cons_succ]
            refine wpAnyH_take (i := 9) (oi := { dst := some 111, op := Go.Op.extract (Go.Operand.tmp 102) 1, type := 4, pos := "exact.go:7365", after := #[{ on := 7, ground := Go.Ground.data }, { on := 11, ground := Go.Ground.gcOnly Go.Departure.lateStores }], guard := none }) (v := ?_) rfl (by kernel_rfl) (by kernel_rfl) (by kernel_rfl) (fun _ _ _ h => h) (Or.inl ⟨by rfl, ?_⟩) (by assumption) ?_
            rotate_left
            · (intro w hSw; (try dsimp only at hSw); go_simp <;> try with_reducible rfl)
            try simp only [Act.put, List.setIfInBounds_toArray, List.set_cons_zero, List.set_cons_succ]
            have zl68 : w.heap.size + 2 ≤ w62.heap.size := by have : w.heap.size + 2 ≤ w22.heap.size := T22.out.lt; omega
            have c68_0 := (Z67.out.cell 0).trans rfl
            have c68_1 := (Z67.out.cell 1).trans rfl
            have c68_2 := (Z67.out.cell 2).trans rfl
            have c68_3 := (Z67.out.cell 3).trans rfl
            have f68_0 := Z67.out.fr 0
            have f68_1 := Z67.out.fr 1
            have f68_2 := Z67.out.fr 2
            have f68_3 := Z67.out.fr 3
            have vl68 : w22.heap.size ≤ w62.heap.size := by omega
            have T68 : Hid (TC w fa flen fcap fc fd fu ad len cap es hd ((((w67.setCell ⟨w62.heap.size, 0, none⟩ (.int .i64 R.day)).setCell ⟨w62.heap.size, 1, none⟩ (.int .i64 R.ref)).setCell ⟨w62.heap.size, 2, none⟩ (.string R.text)).setCell ⟨w62.heap.size, 3, none⟩ (.slice ha R.n hcp))) := ((((T67.out.set (b := w62.heap.size) (o := 0) (.int .i64 R.day) zl68 HR.out HLd.out).set (b := w62.heap.size) (o := 1) (.int .i64 R.ref) zl68 HR.out HLd.out).set (b := w62.heap.size) (o := 2) (.string R.text) zl68 HR.out HLd.out).set (b := w62.heap.size) (o := 3) (.slice ha R.n hcp) zl68 HR.out HLd.out)
            have Zq68 : CB ((((w67.setCell ⟨w62.heap.size, 0, none⟩ (.int .i64 R.day)).setCell ⟨w62.heap.size, 1, none⟩ (.int .i64 R.ref)).setCell ⟨w62.heap.size, 2, none⟩ (.string R.text)).setCell ⟨w62.heap.size, 3, none⟩ (.slice ha R.n hcp)) w62.heap.size #[.int .i64 R.day, .int .i64 R.ref, .string R.text, .slice ha R.n hcp] 32 := by have := ((((Z67.out.set 0 (.int .i64 R.day)).set 1 (.int .i64 R.ref)).set 2 (.string R.text)).set 3 (.slice ha R.n hcp)); simpa using this
            have Z68 : Hid (CB ((((w67.setCell ⟨w62.heap.size, 0, none⟩ (.int .i64 R.day)).setCell ⟨w62.heap.size, 1, none⟩ (.int .i64 R.ref)).setCell ⟨w62.heap.size, 2, none⟩ (.string R.text)).setCell ⟨w62.heap.size, 3, none⟩ (.slice ha R.n hcp)) w62.heap.size #[.int .i64 R.day, .int .i64 R.ref, .string R.text, .slice ha R.n hcp] 32) := Zq68
            have O68 : Hid (NewR (w62.alloc (.cells #[.int .i64 0, .int .i64 0, .string ⟨#[]⟩, .slice none 0 0] 32 (0, 0))).heap.size ((((w67.setCell ⟨w62.heap.size, 0, none⟩ (.int .i64 R.day)).setCell ⟨w62.heap.size, 1, none⟩ (.int .i64 R.ref)).setCell ⟨w62.heap.size, 2, none⟩ (.string R.text)).setCell ⟨w62.heap.size, 3, none⟩ (.slice ha R.n hcp)) ha R.n R.ls) := ((((O67.out.set (c := w62.heap.size) (o := 0) (.int .i64 R.day) ol67).set (c := w62.heap.size) (o := 1) (.int .i64 R.ref) ol67).set (c := w62.heap.size) (o := 2) (.string R.text) ol67).set (c := w62.heap.size) (o := 3) (.slice ha R.n hcp) ol67)
            have V68 : Hid (VC R P q oa oc p14 glo ghi ga gc w22.heap.size ((((w67.setCell ⟨w62.heap.size, 0, none⟩ (.int .i64 R.day)).setCell ⟨w62.heap.size, 1, none⟩ (.int .i64 R.ref)).setCell ⟨w62.heap.size, 2, none⟩ (.string R.text)).setCell ⟨w62.heap.size, 3, none⟩ (.slice ha R.n hcp))) := ((((V67.out.set (b := w62.heap.size) (o := 0) (.int .i64 R.day) vl68).set (b := w62.heap.size) (o := 1) (.int .i64 R.ref) vl68).set (b := w62.heap.size) (o := 2) (.string R.text) vl68).set (b := w62.heap.size) (o := 3) (.slice ha R.n hcp) vl68)
            refine wpAnyH_ready (rs := [11]) (by kernel_rfl) (by simp) ?_
            refine AllReadyH.cons (o := { dst := none, op := Go.Op.store 32 (Go.Operand.tmp 19) (Go.Operand.tmp 110), type := 0, pos := "exact.go:7365", after := #[{ on := 10, ground := Go.Ground.data }, { on := 8, ground := Go.Ground.data }, { on := 6, ground := Go.Ground.chain }, { on := 0, ground := Go.Ground.phase }, { on := 1, ground := Go.Ground.phase }, { on := 2, ground := Go.Ground.phase }, { on := 3, ground := Go.Ground.phase }, { on := 4, ground := Go.Ground.phase }, { on := 5, ground := Go.Ground.phase }, { on := 6, ground := Go.Ground.phase }, { on := 7, ground := Go.Ground.phase }, { on := 8, ground := Go.Ground.phase }, { on := 9, ground := Go.Ground.textOnly Go.Departure.lateStores }, { on := 10, ground := Go.Ground.phase }], guard := none }) rfl (fun K hK => ?_) (AllReadyH.nil)
            go_simp
            first | refine hK.out _ _ (by exact T68.out.cells) (fun hHeld => ?_) | (go_wp2_with fail; refine hK.out _ _ (by exact T68.out.cells) (fun hHeld => ?_))
            clear hK K
            try simp only [Act.put, List.setIfInBounds_toArray, List.set_cons_zero, List.set_cons_succ]
            refine wpAnyH_ready (rs := [12]) (by kernel_rfl) (by simp) ?_
            refine AllReadyH.cons (o := { dst := some 20, op := Go.Op.assign (Go.Operand.tmp 111), type := 4, pos := "exact.go:7365", after := #[{ on := 9, ground := Go.Ground.data }, { on := 11, ground := Go.Ground.chain }, { on := 0, ground := Go.Ground.phase }, { on := 1, ground := Go.Ground.phase }, { on := 2, ground := Go.Ground.phase }, { on := 3, ground := Go.Ground.phase }, { on := 4, ground := Go.Ground.phase }, { on := 5, ground := Go.Ground.phase }, { on := 6, ground := Go.Ground.phase }, { on := 7, ground := Go.Ground.phase }, { on := 8, ground := Go.Ground.phase }, { on := 9, ground := Go.Ground.phase }, { on := 10, ground := Go.Ground.phase }, { on := 11, ground := Go.Ground.phase }], guard := none }) rfl (fun K hK => ?_) (AllReadyH.nil)
            go_simp
            first | refine hK.out _ _ (by exact T68.out.cells) (fun hHeld => ?_) | (go_wp2_with fail; refine hK.out _ _ (by exact T68.out.cells) (fun hHeld => ?_))
            clear hK K
            try simp only [Act.put, List.setIfInBounds_toArray, List.set_cons_zero, List.set_cons_succ]
            refine wpAnyH_done (by kernel_rfl) ?_ _
            clear hHeld
            go_wp2_with fail
            go_meet
            exact ⟨_, ha, hcp, rfl, rfl, Z68.out, O68.out.row, V68.out, T68.out⟩
        · go_simp
          have bb69 : Below w61.heap.size w61 (w61.alloc (.cells #[.int .i64 0, .int .i64 0, .string ⟨#[]⟩, .slice none 0 0] 32 (0, 0))) := (Below.refl _ _).alloc (Nat.le_refl _) _
          have I69 : Hid (CR (w61.alloc (.cells #[.int .i64 0, .int .i64 0, .string ⟨#[]⟩, .slice none 0 0] 32 (0, 0))) (some ⟨ba61, 0, none⟩) flen fc) := I61.out.below bb69
          have V69 : Hid (VC R P q oa oc p14 glo ghi ga gc w22.heap.size (w61.alloc (.cells #[.int .i64 0, .int .i64 0, .string ⟨#[]⟩, .slice none 0 0] 32 (0, 0)))) := V61.out.below bb69
          have T69 : Hid (TC w fa flen fcap fc fd fu ad len cap es hd (w61.alloc (.cells #[.int .i64 0, .int .i64 0, .string ⟨#[]⟩, .slice none 0 0] 32 (0, 0)))) := T61.out.below bb69
          have Z69 : Hid (CB (w61.alloc (.cells #[.int .i64 0, .int .i64 0, .string ⟨#[]⟩, .slice none 0 0] 32 (0, 0))) w61.heap.size #[.int .i64 0, .int .i64 0, .string ⟨#[]⟩, .slice none 0 0] 32) := CB.newAt (by rfl) _ _
          clear bb69
          first | refine hK.out _ _ (by exact T69.out.cells) (fun hHeld => ?_) | (go_wp2_with fail; refine hK.out _ _ (by exact T69.out.cells) (fun hHeld => ?_))
          clear hK K
          try simp only [Act.put, List.setIfInBounds_toArray, List.set_cons_zero, List.set_cons_succ]
          refine wpAnyH_ready (rs := [3]) (by kernel_rfl) (by simp) ?_
          refine AllReadyH.cons (o := { dst := some 106, op := Go.Op.call { callee := Go.Callee.value (Go.Operand.func 40), args := #[Go.Operand.tmp 105], argTypes := #[74] }, type := 29, pos := "exact.go:7365", after := #[{ on := 2, ground := Go.Ground.data }, { on := 1, ground := Go.Ground.chain }], guard := none }) rfl (fun K hK => ?_) (AllReadyH.nil)
          go_simp
          refine (toLedger_any _ _ _ es _ _ hnn HNJ.out T69.out.er).mono ?_
          rintro e w70 ⟨be70, bl70, rfl, _, _, i70, b70⟩
          have s70 : w61.heap.size ≤ w70.heap.size := by have := b70.size; first | exact this | (simp at this; omega)
          have Z70 : Hid (CB w70 w61.heap.size #[.int .i64 0, .int .i64 0, .string ⟨#[]⟩, .slice none 0 0] 32) := Z69.out.below b70 Z69.out.lt
          have I70 : Hid (CR w70 (some ⟨ba61, 0, none⟩) flen fc) := I69.out.below b70
          have V70 : Hid (VC R P q oa oc p14 glo ghi ga gc w22.heap.size w70) := V69.out.below b70
          have T70 : Hid (TC w fa flen fcap fc fd fu ad len cap es hd w70) := T69.out.below b70
          have E70 : Hid (ER w70 (some ⟨be70, 0, none⟩) len es) := i70.row
          clear i70 b70
          first | refine hK.out _ _ (by exact T70.out.cells) (fun hHeld => ?_) | (go_wp2_with fail; refine hK.out _ _ (by exact T70.out.cells) (fun hHeld => ?_))
          clear hK K
          try simp only [Act.put, List.setIfInBounds_toArray, List.set_cons_zero, List.set_cons_succ]
          refine wpAnyH_ready (rs := [6]) (by kernel_rfl) (by simp) ?_
          refine AllReadyH.cons (o := { dst := some 109, op := Go.Op.call { callee := Go.Callee.value (Go.Operand.func 23), args := #[Go.Operand.tmp 104, Go.Operand.tmp 106, Go.Operand.tmp 107, Go.Operand.tmp 108], argTypes := #[26, 29, 3, 3] }, type := 46, pos := "exact.go:7365", after := #[{ on := 1, ground := Go.Ground.data }, { on := 3, ground := Go.Ground.data }, { on := 4, ground := Go.Ground.data }, { on := 5, ground := Go.Ground.data }, { on := 3, ground := Go.Ground.chain }], guard := none }) rfl (fun K hK => ?_) (AllReadyH.nil)
          go_simp
          refine (HIM.out _ _ _ _ _ I70.out (HE.out.below T70.out.bl h9) (HTP.out.below T70.out.bl) E70.out).mono ?_
          rintro e w71 ⟨ha, hcp, rfl, i71, b71⟩
          have s71 : w70.heap.size ≤ w71.heap.size := by have := b71.size; first | exact this | (simp at this; omega)
          have ol71 : w61.heap.size < w70.heap.size := Z70.out.lt
          have Z71 : Hid (CB w71 w61.heap.size #[.int .i64 0, .int .i64 0, .string ⟨#[]⟩, .slice none 0 0] 32) := Z70.out.below b71 Z70.out.lt
          have I71 : Hid (CR w71 (some ⟨ba61, 0, none⟩) flen fc) := I70.out.below b71
          have E71 : Hid (ER w71 (some ⟨be70, 0, none⟩) len es) := E70.out.below b71
          have V71 : Hid (VC R P q oa oc p14 glo ghi ga gc w22.heap.size w71) := V70.out.below b71
          have T71 : Hid (TC w fa flen fcap fc fd fu ad len cap es hd w71) := T70.out.below b71
          have O71 : Hid (NewR w70.heap.size w71 ha R.n R.ls) := i71.r
          clear i71 b71
          first | refine hK.out _ _ (by exact T71.out.cells) (fun hHeld => ?_) | (go_wp2_with fail; refine hK.out _ _ (by exact T71.out.cells) (fun hHeld => ?_))
          clear hK K
          try simp only [Act.put, List.setIfInBounds_toArray, List.set_cons_zero, List.set_cons_succ]
          refine wpAnyH_take (i := 7) (oi := { dst := some 102, op := Go.Op.move (Go.Operand.tmp 109), type := 46, pos := "exact.go:7365", after := #[{ on := 6, ground := Go.Ground.data }], guard := none }) (v := ?_) rfl (by kernel_rfl) (by kernel_rfl) (by kernel_rfl) (fun _ _ _ h => h) (Or.inl ⟨by rfl, ?_⟩) (by assumption) ?_
          rotate_left
          · (intro w hSw; (try dsimp only at hSw); go_simp <;> try with_reducible rfl)
          try simp only [Act.put, List.setIfInBounds_toArray, List.set_cons_zero, List.set_cons_succ]
          refine wpAnyH_take (i := 8) (oi := { dst := some 110, op := Go.Op.extract (Go.Operand.tmp 102) 0, type := 32, pos := "exact.go:7365", after := #[{ on := 7, ground := Go.Ground.data }], guard := none }) (v := ?_) rfl (by kernel_rfl) (by kernel_rfl) (by kernel_rfl) (fun _ _ _ h => h) (Or.inl ⟨by rfl, ?_⟩) (by assumption) ?_
          rotate_left
          · (intro w hSw; (try dsimp only at hSw); go_simp <;> try with_reducible rfl)
          try simp only [Act.put, List.setIfInBounds_toArray, List.set_cons_zero, List.set_cons_succ]
          refine wpAnyH_take (i := 9) (oi := { dst := some 111, op := Go.Op.extract (Go.Operand.tmp 102) 1, type := 4, pos := "exact.go:7365", after := #[{ on := 7, ground := Go.Ground.data }, { on := 11, ground := Go.Ground.gcOnly Go.Departure.lateStores }], guard := none }) (v := ?_) rfl (by kernel_rfl) (by kernel_rfl) (by kernel_rfl) (fun _ _ _ h => h) (Or.inl ⟨by rfl, ?_⟩) (by assumption) ?_
          rotate_left
          · (intro w hSw; (try dsimp only at hSw); go_simp <;> try with_reducible rfl)
          try simp only [Act.put, List.setIfInBounds_toArray, List.set_cons_zero, List.set_cons_succ]
          have zl72 : w.heap.size + 2 ≤ w61.heap.size := by have : w.heap.size + 2 ≤ w22.heap.size := T22.out.lt; omega
          have c72_0 := (Z71.out.cell 0).trans rfl
          have c72_1 := (Z71.out.cell 1).trans rfl
          have c72_2 := (Z71.out.cell 2).trans rfl
          have c72_3 := (Z71.out.cell 3).trans rfl
          have f72_0 := Z71.out.fr 0
          have f72_1 := Z71.out.fr 1
          have f72_2 := Z71.out.fr 2
          have f72_3 := Z71.out.fr 3
          have vl72 : w22.heap.size ≤ w61.heap.size := by omega
          have T72 : Hid (TC w fa flen fcap fc fd fu ad len cap es hd ((((w71.setCell ⟨w61.heap.size, 0, none⟩ (.int .i64 R.day)).setCell ⟨w61.heap.size, 1, none⟩ (.int .i64 R.ref)).setCell ⟨w61.heap.size, 2, none⟩ (.string R.text)).setCell ⟨w61.heap.size, 3, none⟩ (.slice ha R.n hcp))) := ((((T71.out.set (b := w61.heap.size) (o := 0) (.int .i64 R.day) zl72 HR.out HLd.out).set (b := w61.heap.size) (o := 1) (.int .i64 R.ref) zl72 HR.out HLd.out).set (b := w61.heap.size) (o := 2) (.string R.text) zl72 HR.out HLd.out).set (b := w61.heap.size) (o := 3) (.slice ha R.n hcp) zl72 HR.out HLd.out)
          have Zq72 : CB ((((w71.setCell ⟨w61.heap.size, 0, none⟩ (.int .i64 R.day)).setCell ⟨w61.heap.size, 1, none⟩ (.int .i64 R.ref)).setCell ⟨w61.heap.size, 2, none⟩ (.string R.text)).setCell ⟨w61.heap.size, 3, none⟩ (.slice ha R.n hcp)) w61.heap.size #[.int .i64 R.day, .int .i64 R.ref, .string R.text, .slice ha R.n hcp] 32 := by have := ((((Z71.out.set 0 (.int .i64 R.day)).set 1 (.int .i64 R.ref)).set 2 (.string R.text)).set 3 (.slice ha R.n hcp)); simpa using this
          have Z72 : Hid (CB ((((w71.setCell ⟨w61.heap.size, 0, none⟩ (.int .i64 R.day)).setCell ⟨w61.heap.size, 1, none⟩ (.int .i64 R.ref)).setCell ⟨w61.heap.size, 2, none⟩ (.string R.text)).setCell ⟨w61.heap.size, 3, none⟩ (.slice ha R.n hcp)) w61.heap.size #[.int .i64 R.day, .int .i64 R.ref, .string R.text, .slice ha R.n hcp] 32) := Zq72
          have O72 : Hid (NewR w70.heap.size ((((w71.setCell ⟨w61.heap.size, 0, none⟩ (.int .i64 R.day)).setCell ⟨w61.heap.size, 1, none⟩ (.int .i64 R.ref)).setCell ⟨w61.heap.size, 2, none⟩ (.string R.text)).setCell ⟨w61.heap.size, 3, none⟩ (.slice ha R.n hcp)) ha R.n R.ls) := ((((O71.out.set (c := w61.heap.size) (o := 0) (.int .i64 R.day) ol71).set (c := w61.heap.size) (o := 1) (.int .i64 R.ref) ol71).set (c := w61.heap.size) (o := 2) (.string R.text) ol71).set (c := w61.heap.size) (o := 3) (.slice ha R.n hcp) ol71)
          have V72 : Hid (VC R P q oa oc p14 glo ghi ga gc w22.heap.size ((((w71.setCell ⟨w61.heap.size, 0, none⟩ (.int .i64 R.day)).setCell ⟨w61.heap.size, 1, none⟩ (.int .i64 R.ref)).setCell ⟨w61.heap.size, 2, none⟩ (.string R.text)).setCell ⟨w61.heap.size, 3, none⟩ (.slice ha R.n hcp))) := ((((V71.out.set (b := w61.heap.size) (o := 0) (.int .i64 R.day) vl72).set (b := w61.heap.size) (o := 1) (.int .i64 R.ref) vl72).set (b := w61.heap.size) (o := 2) (.string R.text) vl72).set (b := w61.heap.size) (o := 3) (.slice ha R.n hcp) vl72)
          refine wpAnyH_ready (rs := [11]) (by kernel_rfl) (by simp) ?_
          refine AllReadyH.cons (o := { dst := none, op := Go.Op.store 32 (Go.Operand.tmp 19) (Go.Operand.tmp 110), type := 0, pos := "exact.go:7365", after := #[{ on := 10, ground := Go.Ground.data }, { on := 8, ground := Go.Ground.data }, { on := 6, ground := Go.Ground.chain }, { on := 0, ground := Go.Ground.phase }, { on := 1, ground := Go.Ground.phase }, { on := 2, ground := Go.Ground.phase }, { on := 3, ground := Go.Ground.phase }, { on := 4, ground := Go.Ground.phase }, { on := 5, ground := Go.Ground.phase }, { on := 6, ground := Go.Ground.phase }, { on := 7, ground := Go.Ground.phase }, { on := 8, ground := Go.Ground.phase }, { on := 9, ground := Go.Ground.textOnly Go.Departure.lateStores }, { on := 10, ground := Go.Ground.phase }], guard := none }) rfl (fun K hK => ?_) (AllReadyH.nil)
          go_simp
          first | refine hK.out _ _ (by exact T72.out.cells) (fun hHeld => ?_) | (go_wp2_with fail; refine hK.out _ _ (by exact T72.out.cells) (fun hHeld => ?_))
          clear hK K
          try simp only [Act.put, List.setIfInBounds_toArray, List.set_cons_zero, List.set_cons_succ]
          refine wpAnyH_ready (rs := [12]) (by kernel_rfl) (by simp) ?_
          refine AllReadyH.cons (o := { dst := some 20, op := Go.Op.assign (Go.Operand.tmp 111), type := 4, pos := "exact.go:7365", after := #[{ on := 9, ground := Go.Ground.data }, { on := 11, ground := Go.Ground.chain }, { on := 0, ground := Go.Ground.phase }, { on := 1, ground := Go.Ground.phase }, { on := 2, ground := Go.Ground.phase }, { on := 3, ground := Go.Ground.phase }, { on := 4, ground := Go.Ground.phase }, { on := 5, ground := Go.Ground.phase }, { on := 6, ground := Go.Ground.phase }, { on := 7, ground := Go.Ground.phase }, { on := 8, ground := Go.Ground.phase }, { on := 9, ground := Go.Ground.phase }, { on := 10, ground := Go.Ground.phase }, { on := 11, ground := Go.Ground.phase }], guard := none }) rfl (fun K hK => ?_) (AllReadyH.nil)
          go_simp
          first | refine hK.out _ _ (by exact T72.out.cells) (fun hHeld => ?_) | (go_wp2_with fail; refine hK.out _ _ (by exact T72.out.cells) (fun hHeld => ?_))
          clear hK K
          try simp only [Act.put, List.setIfInBounds_toArray, List.set_cons_zero, List.set_cons_succ]
          refine wpAnyH_done (by kernel_rfl) ?_ _
          clear hHeld
          go_wp2_with fail
          go_meet
          exact ⟨_, ha, hcp, rfl, rfl, Z72.out, O72.out.row, V72.out, T72.out⟩
      · go_simp
        have bb73 : Below w22.drew.heap.size w22.drew (w22.drew.alloc (.cells #[.int .i64 0, .int .i64 0, .string ⟨#[]⟩, .slice none 0 0] 32 (0, 0))) := (Below.refl _ _).alloc (Nat.le_refl _) _
        have V73 : Hid (VC R P q oa oc p14 glo ghi ga gc w22.heap.size (w22.drew.alloc (.cells #[.int .i64 0, .int .i64 0, .string ⟨#[]⟩, .slice none 0 0] 32 (0, 0)))) := V22.out.below bb73
        have T73 : Hid (TC w fa flen fcap fc fd fu ad len cap es hd (w22.drew.alloc (.cells #[.int .i64 0, .int .i64 0, .string ⟨#[]⟩, .slice none 0 0] 32 (0, 0)))) := T22.out.below bb73
        have Z73 : Hid (CB (w22.drew.alloc (.cells #[.int .i64 0, .int .i64 0, .string ⟨#[]⟩, .slice none 0 0] 32 (0, 0))) w22.heap.size #[.int .i64 0, .int .i64 0, .string ⟨#[]⟩, .slice none 0 0] 32) := CB.newAt (by rfl) _ _
        clear bb73
        first | refine hK.out _ _ (by exact T73.out.cells) (fun hHeld => ?_) | (go_wp2_with fail; refine hK.out _ _ (by exact T73.out.cells) (fun hHeld => ?_))
        clear hK K
        try simp only [Act.put, List.setIfInBounds_toArray, List.set_cons_zero, List.set_cons_succ]
        refine wpAnyH_ready (rs := [1]) (by kernel_rfl) (by simp) ?_
        refine AllReadyH.cons (o := { dst := some 104, op := Go.Op.call { callee := Go.Callee.value (Go.Operand.func 31), args := #[Go.Operand.tmp 103], argTypes := #[59] }, type := 26, pos := "exact.go:7365", after := #[{ on := 0, ground := Go.Ground.data }], guard := none }) rfl (fun K hK => ?_) (AllReadyH.nil)
        go_simp
        refine (toFrame_any _ _ _ fc _ _ _ hb T73.out.cr).mono ?_
        rintro e w74 ⟨ba74, rfl, _, i74, b74⟩
        have s74 : w22.heap.size ≤ w74.heap.size := by have := b74.size; first | exact this | (simp at this; omega)
        have Z74 : Hid (CB w74 w22.heap.size #[.int .i64 0, .int .i64 0, .string ⟨#[]⟩, .slice none 0 0] 32) := Z73.out.below b74 Z73.out.lt
        have V74 : Hid (VC R P q oa oc p14 glo ghi ga gc w22.heap.size w74) := V73.out.below b74
        have T74 : Hid (TC w fa flen fcap fc fd fu ad len cap es hd w74) := T73.out.below b74
        have I74 : Hid (CR w74 (some ⟨ba74, 0, none⟩) flen fc) := i74
        clear i74 b74
        first | refine hK.out _ _ (by exact T74.out.cells) (fun hHeld => ?_) | (go_wp2_with fail; refine hK.out _ _ (by exact T74.out.cells) (fun hHeld => ?_))
        clear hK K
        try simp only [Act.put, List.setIfInBounds_toArray, List.set_cons_zero, List.set_cons_succ]
        refine wpAnyH_ready (rs := [3]) (by kernel_rfl) (by simp) ?_
        refine AllReadyH.cons (o := { dst := some 106, op := Go.Op.call { callee := Go.Callee.value (Go.Operand.func 40), args := #[Go.Operand.tmp 105], argTypes := #[74] }, type := 29, pos := "exact.go:7365", after := #[{ on := 2, ground := Go.Ground.data }, { on := 1, ground := Go.Ground.chain }], guard := none }) rfl (fun K hK => ?_) (AllReadyH.nil)
        go_simp
        refine (toLedger_any _ _ _ es _ _ hnn HNJ.out T74.out.er).mono ?_
        rintro e w75 ⟨be75, bl75, rfl, _, _, i75, b75⟩
        have s75 : w74.heap.size ≤ w75.heap.size := by have := b75.size; first | exact this | (simp at this; omega)
        have Z75 : Hid (CB w75 w22.heap.size #[.int .i64 0, .int .i64 0, .string ⟨#[]⟩, .slice none 0 0] 32) := Z74.out.below b75 Z74.out.lt
        have I75 : Hid (CR w75 (some ⟨ba74, 0, none⟩) flen fc) := I74.out.below b75
        have V75 : Hid (VC R P q oa oc p14 glo ghi ga gc w22.heap.size w75) := V74.out.below b75
        have T75 : Hid (TC w fa flen fcap fc fd fu ad len cap es hd w75) := T74.out.below b75
        have E75 : Hid (ER w75 (some ⟨be75, 0, none⟩) len es) := i75.row
        clear i75 b75
        first | refine hK.out _ _ (by exact T75.out.cells) (fun hHeld => ?_) | (go_wp2_with fail; refine hK.out _ _ (by exact T75.out.cells) (fun hHeld => ?_))
        clear hK K
        try simp only [Act.put, List.setIfInBounds_toArray, List.set_cons_zero, List.set_cons_succ]
        refine wpAnyH_ready (rs := [6]) (by kernel_rfl) (by simp) ?_
        refine AllReadyH.cons (o := { dst := some 109, op := Go.Op.call { callee := Go.Callee.value (Go.Operand.func 23), args := #[Go.Operand.tmp 104, Go.Operand.tmp 106, Go.Operand.tmp 107, Go.Operand.tmp 108], argTypes := #[26, 29, 3, 3] }, type := 46, pos := "exact.go:7365", after := #[{ on := 1, ground := Go.Ground.data }, { on := 3, ground := Go.Ground.data }, { on := 4, ground := Go.Ground.data }, { on := 5, ground := Go.Ground.data }, { on := 3, ground := Go.Ground.chain }], guard := none }) rfl (fun K hK => ?_) (AllReadyH.nil)
        go_simp
        refine (HIM.out _ _ _ _ _ I75.out (HE.out.below T75.out.bl h9) (HTP.out.below T75.out.bl) E75.out).mono ?_
        rintro e w76 ⟨ha, hcp, rfl, i76, b76⟩
        have s76 : w75.heap.size ≤ w76.heap.size := by have := b76.size; first | exact this | (simp at this; omega)
        have ol76 : w22.heap.size < w75.heap.size := Z75.out.lt
        have Z76 : Hid (CB w76 w22.heap.size #[.int .i64 0, .int .i64 0, .string ⟨#[]⟩, .slice none 0 0] 32) := Z75.out.below b76 Z75.out.lt
        have I76 : Hid (CR w76 (some ⟨ba74, 0, none⟩) flen fc) := I75.out.below b76
        have E76 : Hid (ER w76 (some ⟨be75, 0, none⟩) len es) := E75.out.below b76
        have V76 : Hid (VC R P q oa oc p14 glo ghi ga gc w22.heap.size w76) := V75.out.below b76
        have T76 : Hid (TC w fa flen fcap fc fd fu ad len cap es hd w76) := T75.out.below b76
        have O76 : Hid (NewR w75.heap.size w76 ha R.n R.ls) := i76.r
        clear i76 b76
        first | refine hK.out _ _ (by exact T76.out.cells) (fun hHeld => ?_) | (go_wp2_with fail; refine hK.out _ _ (by exact T76.out.cells) (fun hHeld => ?_))
        clear hK K
        try simp only [Act.put, List.setIfInBounds_toArray, List.set_cons_zero, List.set_cons_succ]
        refine wpAnyH_take (i := 7) (oi := { dst := some 102, op := Go.Op.move (Go.Operand.tmp 109), type := 46, pos := "exact.go:7365", after := #[{ on := 6, ground := Go.Ground.data }], guard := none }) (v := ?_) rfl (by kernel_rfl) (by kernel_rfl) (by kernel_rfl) (fun _ _ _ h => h) (Or.inl ⟨by rfl, ?_⟩) (by assumption) ?_
        rotate_left
        · (intro w hSw; (try dsimp only at hSw); go_simp <;> try with_reducible rfl)
        try simp only [Act.put, List.setIfInBounds_toArray, List.set_cons_zero, List.set_cons_succ]
        refine wpAnyH_take (i := 8) (oi := { dst := some 110, op := Go.Op.extract (Go.Operand.tmp 102) 0, type := 32, pos := "exact.go:7365", after := #[{ on := 7, ground := Go.Ground.data }], guard := none }) (v := ?_) rfl (by kernel_rfl) (by kernel_rfl) (by kernel_rfl) (fun _ _ _ h => h) (Or.inl ⟨by rfl, ?_⟩) (by assumption) ?_
        rotate_left
        · (intro w hSw; (try dsimp only at hSw); go_simp <;> try with_reducible rfl)
        try simp only [Act.put, List.setIfInBounds_toArray, List.set_cons_zero, List.set_cons_succ]
        refine wpAnyH_take (i := 9) (oi := { dst := some 111, op := Go.Op.extract (Go.Operand.tmp 102) 1, type := 4, pos := "exact.go:7365", after := #[{ on := 7, ground := Go.Ground.data }, { on := 11, ground := Go.Ground.gcOnly Go.Departure.lateStores }], guard := none }) (v := ?_) rfl (by kernel_rfl) (by kernel_rfl) (by kernel_rfl) (fun _ _ _ h => h) (Or.inl ⟨by rfl, ?_⟩) (by assumption) ?_
        rotate_left
        · (intro w hSw; (try dsimp only at hSw); go_simp <;> try with_reducible rfl)
        try simp only [Act.put, List.setIfInBounds_toArray, List.set_cons_zero, List.set_cons_succ]
        have zl77 : w.heap.size + 2 ≤ w22.heap.size := by have : w.heap.size + 2 ≤ w22.heap.size := T22.out.lt; omega
        have c77_0 := (Z76.out.cell 0).trans rfl
        have c77_1 := (Z76.out.cell 1).trans rfl
        have c77_2 := (Z76.out.cell 2).trans rfl
        have c77_3 := (Z76.out.cell 3).trans rfl
        have f77_0 := Z76.out.fr 0
        have f77_1 := Z76.out.fr 1
        have f77_2 := Z76.out.fr 2
        have f77_3 := Z76.out.fr 3
        have vl77 : w22.heap.size ≤ w22.heap.size := by omega
        have T77 : Hid (TC w fa flen fcap fc fd fu ad len cap es hd ((((w76.setCell ⟨w22.heap.size, 0, none⟩ (.int .i64 R.day)).setCell ⟨w22.heap.size, 1, none⟩ (.int .i64 R.ref)).setCell ⟨w22.heap.size, 2, none⟩ (.string R.text)).setCell ⟨w22.heap.size, 3, none⟩ (.slice ha R.n hcp))) := ((((T76.out.set (b := w22.heap.size) (o := 0) (.int .i64 R.day) zl77 HR.out HLd.out).set (b := w22.heap.size) (o := 1) (.int .i64 R.ref) zl77 HR.out HLd.out).set (b := w22.heap.size) (o := 2) (.string R.text) zl77 HR.out HLd.out).set (b := w22.heap.size) (o := 3) (.slice ha R.n hcp) zl77 HR.out HLd.out)
        have Zq77 : CB ((((w76.setCell ⟨w22.heap.size, 0, none⟩ (.int .i64 R.day)).setCell ⟨w22.heap.size, 1, none⟩ (.int .i64 R.ref)).setCell ⟨w22.heap.size, 2, none⟩ (.string R.text)).setCell ⟨w22.heap.size, 3, none⟩ (.slice ha R.n hcp)) w22.heap.size #[.int .i64 R.day, .int .i64 R.ref, .string R.text, .slice ha R.n hcp] 32 := by have := ((((Z76.out.set 0 (.int .i64 R.day)).set 1 (.int .i64 R.ref)).set 2 (.string R.text)).set 3 (.slice ha R.n hcp)); simpa using this
        have Z77 : Hid (CB ((((w76.setCell ⟨w22.heap.size, 0, none⟩ (.int .i64 R.day)).setCell ⟨w22.heap.size, 1, none⟩ (.int .i64 R.ref)).setCell ⟨w22.heap.size, 2, none⟩ (.string R.text)).setCell ⟨w22.heap.size, 3, none⟩ (.slice ha R.n hcp)) w22.heap.size #[.int .i64 R.day, .int .i64 R.ref, .string R.text, .slice ha R.n hcp] 32) := Zq77
        have O77 : Hid (NewR w75.heap.size ((((w76.setCell ⟨w22.heap.size, 0, none⟩ (.int .i64 R.day)).setCell ⟨w22.heap.size, 1, none⟩ (.int .i64 R.ref)).setCell ⟨w22.heap.size, 2, none⟩ (.string R.text)).setCell ⟨w22.heap.size, 3, none⟩ (.slice ha R.n hcp)) ha R.n R.ls) := ((((O76.out.set (c := w22.heap.size) (o := 0) (.int .i64 R.day) ol76).set (c := w22.heap.size) (o := 1) (.int .i64 R.ref) ol76).set (c := w22.heap.size) (o := 2) (.string R.text) ol76).set (c := w22.heap.size) (o := 3) (.slice ha R.n hcp) ol76)
        have V77 : Hid (VC R P q oa oc p14 glo ghi ga gc w22.heap.size ((((w76.setCell ⟨w22.heap.size, 0, none⟩ (.int .i64 R.day)).setCell ⟨w22.heap.size, 1, none⟩ (.int .i64 R.ref)).setCell ⟨w22.heap.size, 2, none⟩ (.string R.text)).setCell ⟨w22.heap.size, 3, none⟩ (.slice ha R.n hcp))) := ((((V76.out.set (b := w22.heap.size) (o := 0) (.int .i64 R.day) vl77).set (b := w22.heap.size) (o := 1) (.int .i64 R.ref) vl77).set (b := w22.heap.size) (o := 2) (.string R.text) vl77).set (b := w22.heap.size) (o := 3) (.slice ha R.n hcp) vl77)
        refine wpAnyH_ready (rs := [11]) (by kernel_rfl) (by simp) ?_
        refine AllReadyH.cons (o := { dst := none, op := Go.Op.store 32 (Go.Operand.tmp 19) (Go.Operand.tmp 110), type := 0, pos := "exact.go:7365", after := #[{ on := 10, ground := Go.Ground.data }, { on := 8, ground := Go.Ground.data }, { on := 6, ground := Go.Ground.chain }, { on := 0, ground := Go.Ground.phase }, { on := 1, ground := Go.Ground.phase }, { on := 2, ground := Go.Ground.phase }, { on := 3, ground := Go.Ground.phase }, { on := 4, ground := Go.Ground.phase }, { on := 5, ground := Go.Ground.phase }, { on := 6, ground := Go.Ground.phase }, { on := 7, ground := Go.Ground.phase }, { on := 8, ground := Go.Ground.phase }, { on := 9, ground := Go.Ground.textOnly Go.Departure.lateStores }, { on := 10, ground := Go.Ground.phase }], guard := none }) rfl (fun K hK => ?_) (AllReadyH.nil)
        go_simp
        first | refine hK.out _ _ (by exact T77.out.cells) (fun hHeld => ?_) | (go_wp2_with fail; refine hK.out _ _ (by exact T77.out.cells) (fun hHeld => ?_))
        clear hK K
        try simp only [Act.put, List.setIfInBounds_toArray, List.set_cons_zero, List.set_cons_succ]
        refine wpAnyH_ready (rs := [12]) (by kernel_rfl) (by simp) ?_
        refine AllReadyH.cons (o := { dst := some 20, op := Go.Op.assign (Go.Operand.tmp 111), type := 4, pos := "exact.go:7365", after := #[{ on := 9, ground := Go.Ground.data }, { on := 11, ground := Go.Ground.chain }, { on := 0, ground := Go.Ground.phase }, { on := 1, ground := Go.Ground.phase }, { on := 2, ground := Go.Ground.phase }, { on := 3, ground := Go.Ground.phase }, { on := 4, ground := Go.Ground.phase }, { on := 5, ground := Go.Ground.phase }, { on := 6, ground := Go.Ground.phase }, { on := 7, ground := Go.Ground.phase }, { on := 8, ground := Go.Ground.phase }, { on := 9, ground := Go.Ground.phase }, { on := 10, ground := Go.Ground.phase }, { on := 11, ground := Go.Ground.phase }], guard := none }) rfl (fun K hK => ?_) (AllReadyH.nil)
        go_simp
        first | refine hK.out _ _ (by exact T77.out.cells) (fun hHeld => ?_) | (go_wp2_with fail; refine hK.out _ _ (by exact T77.out.cells) (fun hHeld => ?_))
        clear hK K
        try simp only [Act.put, List.setIfInBounds_toArray, List.set_cons_zero, List.set_cons_succ]
        refine wpAnyH_done (by kernel_rfl) ?_ _
        clear hHeld
        go_wp2_with fail
        go_meet
        exact ⟨_, ha, hcp, rfl, rfl, Z77.out, O77.out.row, V77.out, T77.out⟩
    case rest =>
      obtain ⟨PH, ha, hcp, rfl, rfl, hPH, hHA, hV, hT⟩ := hcut
      have HT23 : Hid (TC w fa flen fcap fc fd fu ad len cap es hd wc) := hT
      have HV23 : Hid (VC R P q oa oc p14 glo ghi ga gc w22.heap.size wc) := hV
      have HHA : Hid (LR wc ha R.n R.ls) := hHA
      have ph0 := (hPH.cell 0).trans rfl
      have ph1 := (hPH.cell 1).trans rfl
      have ph2 := (hPH.cell 2).trans rfl
      have ph3 := (hPH.cell 3).trans rfl
      have po0 := (hV.x0.cell 0).trans rfl
      have po1 := (hV.x0.cell 1).trans rfl
      have po2 := (hV.x0.cell 2).trans rfl
      have po3 := (hV.x0.cell 3).trans rfl
      clear hV hHA hT T22 V22
      go_wp2_with (first
        | (go_at_call 37; refine (eqEntry_same _ _ _ _ _ _ _ _ R.ls _ hRn2 HHA.out HV23.out.o.row).mono ?_; rintro e w24 ⟨rfl, b24⟩; have HT24 : Hid (TC w fa flen fcap fc fd fu ad len cap es hd w24) := HT23.out.below b24; have HV24 : Hid (VC R P q oa oc p14 glo ghi ga gc w22.heap.size w24) := HV23.out.below b24; clear b24; have yg0 := (HV24.out.xg.cell 0).trans rfl; have yg1 := (HV24.out.xg.cell 1).trans rfl; have yg2 := (HV24.out.xg.cell 2).trans rfl; have yg3 := (HV24.out.xg.cell 3).trans rfl)
        | (go_at_call 46; refine (heldEntry_is _ _ _ _ _ _ _ _ hRn2 (by omega) (by omega) HV24.out.g.row).mono ?_; rintro e w25 ⟨rfl, b25⟩; have HB25 : Hid (Below w.heap.size w w25) := bel_on HT24.out.bl b25; clear b25))
      go_returns
      exact ⟨rfl, HB25.out⟩

set_option maxRecDepth 100000 in
theorem lifted (os : Os) (started : os.Started) (H : Type) (enc : TypeId × Value → H) :
    ReturnsInHanded {} Tryd.checked os 10 .any (fun w args => (Rows.fnExactReverseSpec.pre enc Tryd.prog Tryd.f10 [] false w args ∧ laidMetH Tryd.prog laid10 w) ∧ sizedMet enc Tryd.prog Tryd.f10 (OpenSpec.ofChange Rows.fnExactReverseSpec) false w args)
      (Rows.fnExactReverseSpec.post enc Tryd.prog Tryd.f10 false true false false) := by
  refine returnsInHanded_of_change_and (C := Tryd.checked) (X := fun w _ => laidMetH Tryd.prog laid10 w) (fun _ _ _ hh h => h.of_heap hh) own started (by kernel_rfl) Tryd.func10
    (ChangeSpec.witness_shaped (enc := enc) (C := Tryd.checked) (os := os) (X := fun w _ => laidMetH Tryd.prog laid10 w) false (World.doorLaid Tryd.prog 400 os) #[.agg #[.slice none 0 0, .int .i64 0, .int .i64 0], .agg #[.slice none 0 0, .int .i64 0], .int .i64 0, .int .i64 0] 8 rfl (World.shaped_of_RefB (by kernel_rfl) (by kernel_rfl)) (by kernel_rfl) (by kernel_rfl) (by kernel_rfl) (door_met10 os _)) ?_
  intro W base args ds gs before hval0 hW _ _ hL _
  have hval : ∀ (j : Nat) t v, Tryd.f10.params[j]? = some t → args[j]? = some v → Value.okWide Tryd.prog W .any base t v := hval0
  have hW' := hW
  obtain ⟨p, q, hA0, hV, rfl, hfz, hnd⟩ := hW
  have hA : DataW.TrodAll enc Tryd.prog W 0 (fun _ => true) true Tryd.f10.params.toList args.toList ds p := hA0
  rw [Tryd.params10] at hA hval
  obtain ⟨v0, vs0, d0, ds0, p0, q0, hargs, rfl, rfl, h0, r0⟩ := trodAll_cons hA
  obtain ⟨v1, vs1, d1, ds1, p1, q1, rfl, rfl, rfl, h1, r1⟩ := trodAll_cons r0
  obtain ⟨v2, vs2, d2, ds2, p2, q2, rfl, rfl, rfl, h2, r2⟩ := trodAll_cons r1
  obtain ⟨v3, vs3, d3, ds3, p3, q3, rfl, rfl, rfl, h3, r3⟩ := trodAll_cons r2
  obtain ⟨rfl, rfl, rfl⟩ := trodAll_nil r3
  obtain rfl : args = #[v0, v1, v2, v3] := by cases args; simp_all
  have hV1 := hV
  obtain ⟨x1, x2, x3, x4, x5, x6, x7, rfl⟩ := seven (trodVars_len hV)
  have k0 := h0
  have lt0 : ∀ x ∈ p0, x.block < W.heap.size := by obtain ⟨m, hm⟩ := k0; exact DataW.trod_lt m _ _ _ hm
  have k1 := h1
  have lt1 : ∀ x ∈ p1, x.block < W.heap.size := by obtain ⟨m, hm⟩ := k1; exact DataW.trod_lt m _ _ _ hm
  have k2 := h2
  have lt2 : ∀ x ∈ p2, x.block < W.heap.size := by obtain ⟨m, hm⟩ := k2; exact DataW.trod_lt m _ _ _ hm
  have k3 := h3
  have lt3 : ∀ x ∈ p3, x.block < W.heap.size := by obtain ⟨m, hm⟩ := k3; exact DataW.trod_lt m _ _ _ hm
  obtain ⟨fx0, fx1, fx2, fy0, fy1, fy2, fnn, rfl, rfl, rfl, fg0, fg1, fg2⟩ := Go.Joins.open_agg3 Tryd.underlying59 (by kernel_rfl) (by kernel_rfl) (hval 0 59 v0 rfl rfl) h0
  obtain ⟨fd, fe1, _, _⟩ := DataW.trod_int Tryd.underlying3 fg1
  obtain rfl : fx1 = .int .i64 fd := by simpa using fe1
  obtain ⟨fu, fe2, _, _⟩ := DataW.trod_int Tryd.underlying3 fg2
  obtain rfl : fx2 = .int .i64 fu := by simpa using fe2
  obtain ⟨fa, flen, fcap, rfl, fT⟩ := slice_of Tryd.underlying57 fg0
  obtain ⟨fc, hfl, hfc, hfr⟩ := curs_of Tryd.underlying57 Tryd.underlying181 (by kernel_rfl) ⟨rfl, rfl, rfl⟩ ⟨by kernel_rfl, by kernel_rfl, by kernel_rfl⟩ Tryd.underlying9 Tryd.underlying3 Tryd.underlying3 fT
  obtain ⟨lx0, lx1, ly0, ly1, lnn, rfl, rfl, rfl, lg0, lg1⟩ := Go.Joins.open_agg2 Tryd.underlying74 (by kernel_rfl) (by kernel_rfl) (hval 1 74 v1 rfl rfl) h1
  obtain ⟨hd, le1, _, _⟩ := DataW.trod_int Tryd.underlying3 lg1
  obtain rfl : lx1 = .int .i64 hd := by simpa using le1
  obtain ⟨ad, len, cap, rfl, lT⟩ := slice_of Tryd.underlying72 lg0
  obtain ⟨es, hl, hm, hr⟩ := entries_of Tryd.underlying72 Tryd.underlying67 (by kernel_rfl) ⟨rfl, rfl, rfl, rfl⟩ ⟨by kernel_rfl, by kernel_rfl, by kernel_rfl, by kernel_rfl⟩ Tryd.underlying3 Tryd.underlying3 Tryd.underlying9 lineT lT
  obtain ⟨a2, rfl, rfl, rfl, w2⟩ := open_int Tryd.underlying3 (hval 2 3 v2 rfl rfl) h2
  obtain ⟨a3, rfl, rfl, rfl, w3⟩ := open_int Tryd.underlying3 (hval 3 3 v3 rfl rfl) h3
  clear hA0 hval0
  refine (walk fa flen fcap fc fd fu ad len cap es hd a2 a3 W hfl hfc hfr hl hm hr (of_laid10 hL)).mono fun e W' ⟨he, hg⟩ => ?_
  subst he
  exact ⟨_, rfl, _, _, _, [], _, _, hW', (trodAll_cons_mk (shut_bool Tryd.underlying4 _) trodAll_mk0), (trodAll_cons_mk (Below.trod laidOut (by kernel_rfl) (of_decide_eq_true (by kernel_rfl)) k0 hg lt0) (trodAll_cons_mk (Below.trod laidOut (by kernel_rfl) (of_decide_eq_true (by kernel_rfl)) k1 hg lt1) (trodAll_cons_mk (Below.trod laidOut (by kernel_rfl) (of_decide_eq_true (by kernel_rfl)) k2 hg lt2) (trodAll_cons_mk (Below.trod laidOut (by kernel_rfl) (of_decide_eq_true (by kernel_rfl)) k3 hg lt3) trodAll_mk0)))), Below.trodVars laidOut hg (by kernel_rfl) hV1, hg.frame _, fun h => by cases h⟩

theorem row_holds : Rows.FnExactReverseSaid :=
  OpenClaim.holds_of_wide 10 Tryd.f10 rfl rfl rfl rfl rfl rfl rfl ⟨rfl, rfl, rfl, rfl, rfl⟩ rfl rfl rfl rfl rfl (by kernel_rfl) Tryd.func10 (by kernel_rfl)
    (of_decide_eq_true (by kernel_rfl)) (by unfold Func.isWrapper; first | (rw [if_pos (by decide +kernel)]; kernel_rfl) | (rw [if_neg (by decide +kernel)]; exact ⟨rfl, rfl⟩))
    (fun os started H enc _ => lifted os started H enc)

end Go.Proofs.YtgnhpjlfdkpaiaaDoor.fnExactReverse

namespace Go.Proofs.YtgnhpjlfdkpaiaaDoor
open Go
theorem fnExactReverse_holds : Rows.FnExactReverseCardSaid :=
  Claim7.holds_tied_plain_at .later [] [.data, .data, .data, .sentinel, .sentinel, .sentinel, .sentinel, .sentinel, .sentinel, .sentinel] true (true, "ccd1ef061b523aabb51411168b790821f25efaf6af84088de9bcc3d19a071f20") false
    fnExactReverse.row_holds (fun _ h => by cases h) (by kernel_rfl) (fun _ h => by cases h) fnExactReverse_row_tie rfl ⟨rfl, rfl⟩ (by kernel_rfl) rfl
    (fun f fn hf hfn => by
      obtain rfl : f = 10 := Option.some.inj ((show Tryd.prog.funcNamed "loop.example/g00040/laws.FnExactReverse" = some 10 by kernel_rfl).symm.trans hf) |>.symm
      obtain rfl : fn = Tryd.f10 := (Option.some.inj (Tryd.func10.symm.trans hfn)).symm
      exact ⟨by kernel_rfl, fun j t ht => by
        rw [Tryd.params10] at ht
        have hm : t ∈ [59, 74, 3, 3] := by simpa using Array.mem_of_getElem? ht
        have hall : ([59, 74, 3, 3].all fun u => !Tryd.prog.wantsStandIn u) = true := by kernel_rfl
        exact (show Tryd.prog.wantsStandIn t = false by simpa using List.all_eq_true.1 hall t hm)⟩)
    (by kernel_rfl)
#print axioms fnExactReverse_holds
end Go.Proofs.YtgnhpjlfdkpaiaaDoor
