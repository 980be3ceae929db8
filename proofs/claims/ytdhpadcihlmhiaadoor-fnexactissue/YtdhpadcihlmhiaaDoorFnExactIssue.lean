/- For every register, every series and every day the law FnExactIssue returns true: the program's Issue answers as the model's, writes into no argument, and its answer owns its memory. Conditions: the library's three listed tables start as the program's text lays them, which the card ties. -/
import Derived.Test.YtdhpadcihlmhiaaDoorFr
import Derived.Test.YtdhpadcihlmhiaaDoorSw
import Derived.Test.YtdhpadcihlmhiaaDoorTie
import Derived.Test.YtdhpadcihlmhiaaDoorCards
import Derived.SevenTiedAt
import Derived.OpenVars
import Derived.ChangeVars
import Derived.Carry
import Derived.Lib.SmallJoins
namespace Go.Proofs.YtdhpadcihlmhiaaDoor.fnExactIssue
open Go.ChangeShapes Go.WideShapes Go.ChangeAt Go.WideMaps Go.WideElems Go.RowKit
set_option linter.unusedVariables false
set_option linter.unusedSimpArgs false

set_option maxRecDepth 20000 in
set_option maxHeartbeats 4000000 in
theorem walk (ad : Option Addr) (len cap : Nat) (c : Nat → S2) (ap : Option Addr) (np pcap : Nat) (p : Nat → P4) (a1 : Int) (a2 : Int) (w : World) (hl : len ≤ maxLen) (hc : ∀ j, (c j).pre.size ≤ maxLen) (hr : SRw w ad len c) (hnp : np ≤ maxLen) (hpw : ∀ j, (Lit.int .i64 (p j).ser).wf = true) (hpr : PRw w ap np p) (hw1 : (Lit.int .i64 a1).wf = true) (hE : TP w) :
    Calls Tryd.prog 6 #[.agg #[.slice ad len cap, .slice ap np pcap], .int .i64 a1, .int .i64 a2] w fun e w' => e = .returned (.bool true) ∧ Below w.heap.size w w' := by
  have hl2 : (len : Int) ≤ 9223372036854775807 := by unfold maxLen at hl; omega
  have hn2 : (np : Int) ≤ 9223372036854775807 := by unfold maxLen at hnp; omega
  have HC : Hid (∀ j, (c j).pre.size ≤ maxLen) := hc
  have HC2 : Hid (∀ j, ((c j).pre.size : Int) ≤ 9223372036854775807) := fun j => by have := hc j; unfold maxLen at this; omega
  have HR : Hid (SRw w ad len c) := hr
  have HP : Hid (PRw w ap np p) := hpr
  have HW : Hid (∀ j, (Lit.int .i64 (p j).ser).wf = true) := hpw
  have HE : Hid (TP w) := hE
  have hwf1 := hw1
  have HBA : Hid (Below w.heap.size w (w.alloc (.cells #[.slice ad len cap, .slice ap np pcap] 50 (0, 0)))) := (Below.refl _ _).alloc (Nat.le_refl _) _
  obtain ⟨R, hRR⟩ : ∃ R, issueR len c np p a1 a2 = R := ⟨_, rfl⟩
  have HRR : Hid (issueR len c np p a1 a2 = R) := hRR
  have HRN : Hid (R.n1 ≤ len ∧ R.n2 ≤ np + 1 ∧ (np < R.n2 → R.n2 ≤ 1000)) := hid (by rw [← hRR]; exact issueR_le)
  have eb : (R.b != R.b) = false := by simp
  have tok1 : True := trivial
  have tok2 : True := trivial
  have tok3 : True := trivial
  have tok4 : True := trivial
  have tok5 : True := trivial
  have tok6 : True := trivial
  have tok7 : True := trivial
  have tokm : True := trivial
  have tokn : True := trivial
  have tokh : True := trivial
  clear hRR hr hpr hpw hE hc hl hnp
  go_enter Tryd.func6, Tryd.ntmps6
  go_wp2_with (first
    | (go_at_call 27; go_loud (refine (szReg_any _ _ _ c _ _ _ _ hl2 HC2.out (HR.out.below HBA.out) hn2).mono ?_; rintro e w1 ⟨v1, rfl, hv1, b1⟩; have LA1 : Hid (LA w w1 ad len cap ap np pcap) := ⟨(CB.new _ _).below b1 (by simp), bel_on HBA.out b1⟩; have hw1 : w.heap.size < w1.heap.size := LA1.out.box.lt; have ka0 := LA1.out.k0; have ka1 := LA1.out.k1; clear b1; rcases hv1 with rfl | ⟨h0, h1, h2⟩; rotate_left; (have h3 : ¬ v1 < 0 := by omega))))
  rotate_left
  · go_returns
    exact ⟨rfl, LA1.out.bel⟩
  have hR1 : (R.n1 : Int) ≤ 1048576 := by have := HRN.out.1; omega
  have hR2 : (R.n2 : Int) ≤ 1048576 := by
    by_cases z : np < R.n2
    · have := HRN.out.2.2 z; omega
    · omega
  go_wp2_with (first
    | (clear tok1; go_at_call 28; go_loud (refine (toReg_any _ _ _ c _ _ _ p _ h1 h2 (HR.out.below LA1.out.bel) (HP.out.below LA1.out.bel)).mono ?_; rintro e w2 ⟨bs2, bp2, rfl, i2, _, b2⟩; have HI2 := hid i2; have LA2 := hid (LA1.out.below b2); have sz2 := b2.size; clear i2 b2))
    | (go_at_call 19; go_loud (refine (specIssue_any _ _ _ _ c _ _ p _ _ _ h1 HC.out HI2.out.sr h2 HI2.out.pr).mono ?_; rw [HRR.out]; rintro e w3 ⟨a2, c2, a3, c3, rfl, o2, o3, b3⟩; have LA3 := hid (LA2.out.below b3); have bb3 := ((Below.refl _ _).alloc (Nat.le_refl _) (.cells #[.slice a2 R.n1 c2, .slice a3 R.n2 c3] 27 (0, 0)) : Below w3.heap.size w3 (w3.alloc (.cells #[.slice a2 R.n1 c2, .slice a3 R.n2 c3] 27 (0, 0)))); have LA3a := hid (LA3.out.below bb3); have LW3a := hid (LO.new (c2 := c2) (c3 := c3) o2 o3 b3.size); have sz3 := b3.size; have sz3a := bb3.size; have ka0 := LA3a.out.k0; have ka1 := LA3a.out.k1; have hq6 := LW3a.out.lt; clear o2 o3 b3 bb3))
    | (clear tok2; go_at_call 28; go_loud (refine (toReg_any _ _ _ c _ _ _ p _ h1 h2 (HR.out.below LA3a.out.bel) (HP.out.below LA3a.out.bel)).mono ?_; rintro e w4 ⟨bs4, bp4, rfl, i4, hb4, b4⟩; have LA4 := hid (LA3a.out.below b4); have LW4 := hid (LW3a.out.below b4); have bb4 := ((Below.refl _ _).alloc (Nat.le_refl _) (.cells #[.slice (some ⟨bs4, 0, none⟩) len len, .slice (some ⟨bp4, 0, none⟩) np np] 27 (0, 0)) : Below w4.heap.size w4 (w4.alloc (.cells #[.slice (some ⟨bs4, 0, none⟩) len len, .slice (some ⟨bp4, 0, none⟩) np np] 27 (0, 0)))); have hown4 := i4.own hb4; have LX4a := hid (LO.new (c2 := len) (c3 := np) hown4.1 hown4.2 b4.size); have LA4a := hid (LA4.out.below bb4); have LW4a := hid (LW4.out.below bb4); have HI4 := hid (i4.below bb4); have sz4 := b4.size; have sz4a := bb4.size; have kx0 := LX4a.out.k0; have kx1 := LX4a.out.k1; have hq8 := LX4a.out.lt; clear i4 hb4 b4 bb4 hown4))
    | (clear tok7; go_at_call 18; go_loud (refine (implIssue_any _ _ _ _ c _ _ p _ _ _ h1 (Nat.le_refl _) HC.out HI4.out.sr h2 HI4.out.pr HW.out (HE.out.below LA4a.out.bel) hwf1).mono ?_; rw [HRR.out]; rintro e w5 ⟨a4, c4, a5, c5, rfl, o4, o5, b5⟩; have LA5 := hid (LA4a.out.below b5); have LW5 := hid (LW4a.out.below b5); have LX5 := hid (LX4a.out.below b5); have bb5 := ((Below.refl _ _).alloc (Nat.le_refl _) (.cells #[.slice a4 R.n1 c4, .slice a5 R.n2 c5] 27 (0, 0)) : Below w5.heap.size w5 (w5.alloc (.cells #[.slice a4 R.n1 c4, .slice a5 R.n2 c5] 27 (0, 0)))); have LA5a := hid (LA5.out.below bb5); have LW5a := hid (LW5.out.below bb5); have LX5a := hid (LX5.out.below bb5); have LG5a := hid (LO.new (c2 := c4) (c3 := c5) o4 o5 b5.size); have sz5 := b5.size; have sz5a := bb5.size; have kg0 := LG5a.out.k0; have kg1 := LG5a.out.k1; have kw0 := LW5a.out.k0; have kw1 := LW5a.out.k1; have hq9 := LG5a.out.lt; clear o4 o5 b5 bb5))
    | (clear tok3; go_at_call 29; go_loud (refine (eqReg_same _ _ _ _ _ c _ _ _ _ _ R.p2 _ hR1 hR2 LG5a.out.o2.row LG5a.out.o3.row LW5a.out.o2.row LW5a.out.o3.row).mono ?_; rintro e w6 ⟨rfl, b6⟩; have LA6 := hid (LA5a.out.below b6); have LW6 := hid (LW5a.out.below b6); have LX6 := hid (LX5a.out.below b6); have LG6 := hid (LG5a.out.below b6); clear ka0 ka1 kx0 kx1 kg0 kg1 kw0 kw1; have ka0 := LA6.out.k0; have ka1 := LA6.out.k1; have kx0 := LX6.out.k0; have kx1 := LX6.out.k1; have hB6 : Below w6.heap.size w6 w6 := Below.refl _ _; have hB6d : Below w6.heap.size w6 w6.drew := (Below.refl _ _).drew; clear b6)))
  refine wp_region_noPanic ?_
  refine wp_region_held_drew (S := fun w' => w'.cell? ⟨w.heap.size, 0, none⟩ = some (.slice ad len cap) ∧ w'.cell? ⟨w.heap.size, 1, none⟩ = some (.slice ap np pcap) ∧ w'.cell? ⟨w4.heap.size, 0, none⟩ = some (.slice (some ⟨bs4, 0, none⟩) len len) ∧ w'.cell? ⟨w4.heap.size, 1, none⟩ = some (.slice (some ⟨bp4, 0, none⟩) np np) ∧ Below w6.heap.size w6 w') (by kernel_rfl) ?_ (fun hHeld => ?_)
  · (try dsimp only); refine ⟨?_, ?_, ?_, ?_, ?_⟩ <;> first | assumption | (simp [*, World.cell?_alloc_some]; done)
  refine wpAnyH_take (i := 0) (oi := { dst := some 49, op := Go.Op.load 27 (Go.Operand.tmp 10), type := 27, pos := "exact.go:8455", after := #[], guard := none }) (v := ?_) rfl (by kernel_rfl) (by kernel_rfl) (by kernel_rfl) (fun _ _ _ h => h) (Or.inl ⟨by rfl, ?_⟩) (by assumption) ?_
  rotate_left
  · (intro w hSw; (try dsimp only at hSw); go_simp <;> try with_reducible rfl)
  try simp only [Act.put, List.setIfInBounds_toArray, List.set_cons_zero, List.set_cons_succ]
  refine wpAnyH_take (i := 1) (oi := { dst := some 50, op := Go.Op.load 50 (Go.Operand.tmp 3), type := 50, pos := "exact.go:8455", after := #[], guard := none }) (v := ?_) rfl (by kernel_rfl) (by kernel_rfl) (by kernel_rfl) (fun _ _ _ h => h) (Or.inl ⟨by rfl, ?_⟩) (by assumption) ?_
  rotate_left
  · (intro w hSw; (try dsimp only at hSw); go_simp <;> try with_reducible rfl)
  try simp only [Act.put, List.setIfInBounds_toArray, List.set_cons_zero, List.set_cons_succ]
  refine wpAnyH_ready (rs := [2]) (by kernel_rfl) (by simp) ?_
  refine AllReadyH.cons (o := { dst := some 51, op := Go.Op.call { callee := Go.Callee.value (Go.Operand.func 28), args := #[Go.Operand.tmp 50], argTypes := #[50] }, type := 27, pos := "exact.go:8455", after := #[{ on := 1, ground := Go.Ground.data }], guard := none }) rfl (fun K hK => ?_) AllReadyH.nil
  go_simp
  (go_at_call 28; refine (toReg_any _ _ _ c _ _ _ p _ h1 h2 (HR.out.below (bel_on LA6.out.bel (by assumption))) (HP.out.below (bel_on LA6.out.bel (by assumption)))).mono ?_; rintro e w7 ⟨bs7, bp7, rfl, i7, _, b7⟩; have q1_0 : w7.cell? ⟨w.heap.size, 0, none⟩ = some (.slice ad len cap) := keep_cell b7 (by simp [*]); have q1_1 : w7.cell? ⟨w.heap.size, 1, none⟩ = some (.slice ap np pcap) := keep_cell b7 (by simp [*]); have q1_2 : w7.cell? ⟨w4.heap.size, 0, none⟩ = some (.slice (some ⟨bs4, 0, none⟩) len len) := keep_cell b7 (by simp [*]); have q1_3 : w7.cell? ⟨w4.heap.size, 1, none⟩ = some (.slice (some ⟨bp4, 0, none⟩) np np) := keep_cell b7 (by simp [*]); have p7 : Below w6.heap.size w6 w7 := bel_on (by assumption) b7; have HI7 := hid i7; clear b7 i7)
  first | refine hK.out _ _ ?_ (fun hHeld => ?_) | (go_wp2_with fail; refine hK.out _ _ ?_ (fun hHeld => ?_))
  · (try dsimp only); refine ⟨?_, ?_, ?_, ?_, ?_⟩ <;> first | assumption | (simp [*, World.cell?_alloc_some]; done)
  clear hK K
  try simp only [Act.put, List.setIfInBounds_toArray, List.set_cons_zero, List.set_cons_succ]
  refine wpAnyH_ready (rs := [3]) (by kernel_rfl) (by simp) ?_
  refine AllReadyH.cons (o := { dst := some 52, op := Go.Op.call { callee := Go.Callee.value (Go.Operand.func 29), args := #[Go.Operand.tmp 49, Go.Operand.tmp 51], argTypes := #[27, 27] }, type := 4, pos := "exact.go:8455", after := #[{ on := 0, ground := Go.Ground.data }, { on := 2, ground := Go.Ground.data }, { on := 2, ground := Go.Ground.chain }], guard := none }) rfl (fun K hK => ?_) AllReadyH.nil
  go_simp
  (go_at_call 29; refine (eqReg_same _ _ _ _ _ c _ _ _ _ _ p _ h1 h2 (LX6.out.below p7).o2.row (LX6.out.below p7).o3.row HI7.out.sr HI7.out.pr).mono ?_; rintro e w8 ⟨rfl, b8⟩; have q2_0 : w8.cell? ⟨w.heap.size, 0, none⟩ = some (.slice ad len cap) := keep_cell b8 (by simp [*]); have q2_1 : w8.cell? ⟨w.heap.size, 1, none⟩ = some (.slice ap np pcap) := keep_cell b8 (by simp [*]); have q2_2 : w8.cell? ⟨w4.heap.size, 0, none⟩ = some (.slice (some ⟨bs4, 0, none⟩) len len) := keep_cell b8 (by simp [*]); have q2_3 : w8.cell? ⟨w4.heap.size, 1, none⟩ = some (.slice (some ⟨bp4, 0, none⟩) np np) := keep_cell b8 (by simp [*]); have p8 : Below w6.heap.size w6 w8 := bel_on p7 b8; clear b8)
  first | refine hK.out _ _ ?_ (fun hHeld => ?_) | (go_wp2_with fail; refine hK.out _ _ ?_ (fun hHeld => ?_))
  · (try dsimp only); refine ⟨?_, ?_, ?_, ?_, ?_⟩ <;> first | assumption | (simp [*, World.cell?_alloc_some]; done)
  clear hK K
  try simp only [Act.put, List.setIfInBounds_toArray, List.set_cons_zero, List.set_cons_succ]
  refine wpAnyH_take (i := 4) (oi := { dst := some 53, op := Go.Op.unOp Go.UnOp.not 4 (Go.Operand.tmp 52), type := 4, pos := "exact.go:8455", after := #[{ on := 3, ground := Go.Ground.data }], guard := none }) (v := ?_) rfl (by kernel_rfl) (by kernel_rfl) (by kernel_rfl) (fun _ _ _ h => h) (Or.inl ⟨by rfl, ?_⟩) (by assumption) ?_
  rotate_left
  · (intro w hSw; (try dsimp only at hSw); go_simp <;> try with_reducible rfl)
  try simp only [Act.put, List.setIfInBounds_toArray, List.set_cons_zero, List.set_cons_succ]
  refine wpAnyH_done (by kernel_rfl) ?_ _
  refine NoPanic.normal ?_
  have LA8 := hid (LA6.out.below p8)
  have LW8 := hid (LW6.out.below p8)
  have LX8 := hid (LX6.out.below p8)
  have LG8 := hid (LG6.out.below p8)
  clear q1_0 q1_1 q1_2 q1_3 q2_0 q2_1 q2_2 q2_3 ka0 ka1 kx0 kx1 hB6 hB6d p7 p8
  have kb0 := LA8.out.k0
  have kb1 := LA8.out.k1
  have ky0 := LX8.out.k0
  have ky1 := LX8.out.k1
  have kh0 := LG8.out.k0
  have kh1 := LG8.out.k1
  have kv0 := LW8.out.k0
  have kv1 := LW8.out.k1
  go_wp2_with (first
    | (clear tokm; go_at_call 30; go_loud (refine (markReg_any _ _ _ _ _ _ _ c p _ h1 h2 LX8.out.o2 LX8.out.o3 (Nat.le_trans LX8.out.lq (Nat.le_of_lt LX8.out.lt))).mono ?_; rintro e w9 ⟨rfl, _, _, hk9, b9⟩; have z3 : (w3.alloc (.cells #[.slice a2 R.n1 c2, .slice a3 R.n2 c3] 27 (0, 0))).heap.size = w3.heap.size + 1 := (by simp); have z4 : (w4.alloc (.cells #[.slice (some ⟨bs4, 0, none⟩) len len, .slice (some ⟨bp4, 0, none⟩) np np] 27 (0, 0))).heap.size = w4.heap.size + 1 := (by simp); have mk9 := LX8.out.mark_keep hk9; have LA9 : Hid (LA w w9 ad len cap ap np pcap) := LA8.out.keep (mk9 _ LA8.out.box.lt (.inl (by omega))) (b9.mono (by rw [z3]; omega)); have LW9 := hid (LW8.out.keep (fun y h1 h2 => mk9 y (by have := LW8.out.lt; omega) (.inl (by omega)))); have LG9 := hid (LG8.out.keep (fun y h1 h2 => mk9 y (by have := LG8.out.lt; omega) (.inr (by omega)))); clear kb0 kb1 ky0 ky1 kh0 kh1 kv0 kv1; have kb0 := LA9.out.k0; have kb1 := LA9.out.k1; have kh0 := LG9.out.k0; have kh1 := LG9.out.k1; have kv0 := LW9.out.k0; have kv1 := LW9.out.k1; have hk1n : ¬ (1 : Int) + 2 * (len : Int) + 4 * (np : Int) < 0 := (by omega); clear hk9 mk9 b9 z3 z4))
    | (clear tok4; go_at_call 29; go_loud (refine (eqReg_same _ _ _ _ _ c _ _ _ _ _ R.p2 _ hR1 hR2 LG9.out.o2.row LG9.out.o3.row LW9.out.o2.row LW9.out.o3.row).mono ?_; rintro e w10 ⟨rfl, b10⟩; have LA10 := hid (LA9.out.below b10); have LW10 := hid (LW9.out.below b10); have LG10 := hid (LG9.out.below b10); clear kb0 kb1 kh0 kh1 kv0 kv1; have kh0 := LG10.out.k0; have kh1 := LG10.out.k1; clear b10))
    | (clear tokn; go_at_call 30; go_loud (refine (markReg_any _ _ _ _ _ _ _ c R.p2 _ hR1 hR2 LG10.out.o2 LG10.out.o3 (Nat.le_trans LG10.out.lq (Nat.le_of_lt LG10.out.lt))).mono ?_; rintro e w11 ⟨rfl, m2, m3, hk11, b11⟩; have z3 : (w3.alloc (.cells #[.slice a2 R.n1 c2, .slice a3 R.n2 c3] 27 (0, 0))).heap.size = w3.heap.size + 1 := (by simp); have z4 : (w4.alloc (.cells #[.slice (some ⟨bs4, 0, none⟩) len len, .slice (some ⟨bp4, 0, none⟩) np np] 27 (0, 0))).heap.size = w4.heap.size + 1 := (by simp); have mk11 := LG10.out.mark_keep hk11; have LA11 : Hid (LA w w11 ad len cap ap np pcap) := LA10.out.keep (mk11 _ LA10.out.box.lt (.inl (by omega))) (b11.mono (by rw [z4]; omega)); have LW11 := hid (LW10.out.keep (fun y h1 h2 => mk11 y (by have := LW10.out.lt; omega) (.inl (by omega)))); have LG11 := hid (LG10.out.marked mk11 m2 m3); clear kh0 kh1; have kh0 := LG11.out.k0; have kh1 := LG11.out.k1; clear hk11 mk11 b11 m2 m3 z3 z4))
    | (clear tokh; go_at_call 31; go_loud (refine (heldReg_any _ _ _ _ _ _ _ hR1 hR2 LG11.out.o2.row LG11.out.o3.row).mono ?_; rintro e w12 ⟨rfl, b12⟩; have LA12 := hid (LA11.out.below b12); have LW12 := hid (LW11.out.below b12); have LG12 := hid (LG11.out.below b12); clear kh0 kh1; have kb0 := LA12.out.k0; have kb1 := LA12.out.k1; have hkn : ¬ (1 : Int) + 2 * (R.n1 : Int) + 4 * (R.n2 : Int) < 0 := (by omega); clear b12))
    | (clear tok5; go_at_call 28; go_loud (refine (toReg_any _ _ _ c _ _ _ p _ h1 h2 (HR.out.below LA12.out.bel) (HP.out.below LA12.out.bel)).mono ?_; rintro e w13 ⟨bs13, bp13, rfl, i13, _, b13⟩; have HI13 := hid i13; have LA13 := hid (LA12.out.below b13); have LW13 := hid (LW12.out.below b13); have LG13 := hid (LG12.out.below b13); clear i13 b13))
    | (go_at_call 18; go_loud (refine (implIssue_any _ _ _ _ c _ _ p _ _ _ h1 (Nat.le_refl _) HC.out HI13.out.sr h2 HI13.out.pr HW.out (HE.out.below LA13.out.bel) hwf1).mono ?_; rw [HRR.out]; rintro e w14 ⟨a6, c6, a7, c7, rfl, o6, o7, b14⟩; have LA14 := hid (LA13.out.below b14); have LW14 := hid (LW13.out.below b14); have LG14 := hid (LG13.out.below b14); have bb14 := ((Below.refl _ _).alloc (Nat.le_refl _) (.cells #[.slice a6 R.n1 c6, .slice a7 R.n2 c7] 27 (0, 0)) : Below w14.heap.size w14 (w14.alloc (.cells #[.slice a6 R.n1 c6, .slice a7 R.n2 c7] 27 (0, 0)))); have LA14a := hid (LA14.out.below bb14); have LW14a := hid (LW14.out.below bb14); have LG14a := hid (LG14.out.below bb14); have LH14a := hid (LO.new (c2 := c6) (c3 := c7) o6 o7 b14.size); clear kb0 kb1; have kj0 := LH14a.out.k0; have kj1 := LH14a.out.k1; have kv0 := LW14a.out.k0; have kv1 := LW14a.out.k1; clear o6 o7 b14 bb14))
    | (clear tok6; go_at_call 29; go_loud (refine (eqReg_same _ _ _ _ _ c _ _ _ _ _ R.p2 _ hR1 hR2 LH14a.out.o2.row LH14a.out.o3.row LW14a.out.o2.row LW14a.out.o3.row).mono ?_; rintro e w15 ⟨rfl, b15⟩; have LA15 := hid (LA14a.out.below b15); have LG15 := hid (LG14a.out.below b15); clear kj0 kj1 kv0 kv1; have kh0 := LG15.out.k0; have kh1 := LG15.out.k1; clear b15))
    | (go_at_call 31; go_loud (refine (heldReg_any _ _ _ _ _ _ _ hR1 hR2 LG15.out.o2.row LG15.out.o3.row).mono ?_; rintro e w16 ⟨rfl, b16⟩; have LA16 := hid (LA15.out.below b16); clear b16)))
  go_returns
  exact ⟨rfl, LA16.out.bel⟩

set_option maxRecDepth 100000 in
theorem lifted (os : Os) (started : os.Started) (H : Type) (enc : TypeId × Value → H) :
    ReturnsInHanded {} Tryd.checked os 6 .any (fun w args => (Rows.fnExactIssueSpec.pre enc Tryd.prog Tryd.f6 [] false w args ∧ laidMetH Tryd.prog laid3 w) ∧ sizedMet enc Tryd.prog Tryd.f6 (OpenSpec.ofChange Rows.fnExactIssueSpec) false w args)
      (Rows.fnExactIssueSpec.post enc Tryd.prog Tryd.f6 false true false false) := by
  refine returnsInHanded_of_change_and (C := Tryd.checked) (X := fun w _ => laidMetH Tryd.prog laid3 w) (fun _ _ _ hh h => h.of_heap hh) own started (by kernel_rfl) Tryd.func6
    (ChangeSpec.witness_shaped (enc := enc) (C := Tryd.checked) (os := os) (X := fun w _ => laidMetH Tryd.prog laid3 w) false (World.doorLaid Tryd.prog 400 os) #[.agg #[.slice none 0 0, .slice none 0 0], .int .i64 0, .int .i64 0] 8 rfl (World.shaped_of_RefB (by kernel_rfl) (by kernel_rfl)) (by kernel_rfl) (by kernel_rfl) (by kernel_rfl) (door_met os _)) ?_
  intro W base args ds gs before hval0 hW _ _ hL _
  have hval : ∀ (j : Nat) t v, Tryd.f6.params[j]? = some t → args[j]? = some v → Value.okWide Tryd.prog W .any base t v := hval0
  have hW' := hW
  obtain ⟨p, q, hA0, hV, rfl, hfz, hnd⟩ := hW
  have hA : DataW.TrodAll enc Tryd.prog W 0 (fun _ => true) true Tryd.f6.params.toList args.toList ds p := hA0
  rw [Tryd.params6] at hA hval
  obtain ⟨v0, vs0, d0, ds0, p0, q0, hargs, rfl, rfl, h0, r0⟩ := trodAll_cons hA
  obtain ⟨v1, vs1, d1, ds1, p1, q1, rfl, rfl, rfl, h1, r1⟩ := trodAll_cons r0
  obtain ⟨v2, vs2, d2, ds2, p2, q2, rfl, rfl, rfl, h2, r2⟩ := trodAll_cons r1
  obtain ⟨rfl, rfl, rfl⟩ := trodAll_nil r2
  obtain rfl : args = #[v0, v1, v2] := by cases args; simp_all
  obtain ⟨rfl, rfl⟩ := trodVars_none hV
  have k0 := h0
  have lt0 : ∀ x ∈ p0, x.block < W.heap.size := by obtain ⟨m, hm⟩ := k0; exact DataW.trod_lt m _ _ _ hm
  have k1 := h1
  have lt1 : ∀ x ∈ p1, x.block < W.heap.size := by obtain ⟨m, hm⟩ := k1; exact DataW.trod_lt m _ _ _ hm
  have k2 := h2
  have lt2 : ∀ x ∈ p2, x.block < W.heap.size := by obtain ⟨m, hm⟩ := k2; exact DataW.trod_lt m _ _ _ hm
  obtain ⟨lx0, lx1, ly0, ly1, lnn, rfl, rfl, rfl, lg0, lg1⟩ := Go.Joins.open_agg2 Tryd.underlying50 (by kernel_rfl) (by kernel_rfl) (hval 0 50 v0 rfl rfl) h0
  obtain ⟨ad, len, cap, rfl, lT⟩ := slice_of Tryd.underlying47 lg0
  obtain ⟨ap, np, pcap, rfl, lP⟩ := slice_of Tryd.underlying48 lg1
  obtain ⟨c, hl, hc, hr⟩ := S2_of Tryd.underlying47 Tryd.underlying147 (by kernel_rfl) ⟨rfl, rfl⟩ ⟨by kernel_rfl, by kernel_rfl⟩ Tryd.underlying9 Tryd.underlying3 lT
  obtain ⟨p, hnp, hpw, hpr⟩ := P4_of Tryd.underlying48 Tryd.underlying150 (by kernel_rfl) ⟨rfl, rfl, rfl, rfl⟩ ⟨by kernel_rfl, by kernel_rfl, by kernel_rfl, by kernel_rfl⟩ Tryd.underlying3 Tryd.underlying3 Tryd.underlying3 Tryd.underlying4 lP
  obtain ⟨a1, rfl, rfl, rfl, w1⟩ := open_int Tryd.underlying3 (hval 1 3 v1 rfl rfl) h1
  obtain ⟨a2, rfl, rfl, rfl, w2⟩ := open_int Tryd.underlying3 (hval 2 3 v2 rfl rfl) h2
  clear hA0 hval0
  refine (walk ad len cap c ap np pcap p a1 a2 W hl hc hr hnp hpw hpr w1 (of_laid hL)).mono fun e W' ⟨he, hg⟩ => ?_
  subst he
  exact ⟨_, rfl, _, _, _, [], _, [], hW', (trodAll_cons_mk (shut_bool Tryd.underlying4 _) trodAll_mk0), (trodAll_cons_mk (Below.trod laidOut (by kernel_rfl) (of_decide_eq_true (by kernel_rfl)) k0 hg lt0) (trodAll_cons_mk (Below.trod laidOut (by kernel_rfl) (of_decide_eq_true (by kernel_rfl)) k1 hg lt1) (trodAll_cons_mk (Below.trod laidOut (by kernel_rfl) (of_decide_eq_true (by kernel_rfl)) k2 hg lt2) trodAll_mk0))), rfl, hg.frame _, fun h => by cases h⟩

theorem row_holds : Rows.FnExactIssueSaid :=
  OpenClaim.holds_of_wide 6 Tryd.f6 rfl rfl rfl rfl rfl rfl rfl ⟨rfl, rfl, rfl, rfl, rfl⟩ rfl rfl rfl rfl rfl (by kernel_rfl) Tryd.func6 (by kernel_rfl)
    (of_decide_eq_true (by kernel_rfl)) (by unfold Func.isWrapper; first | (rw [if_pos (by decide +kernel)]; kernel_rfl) | (rw [if_neg (by decide +kernel)]; exact ⟨rfl, rfl⟩))
    (fun os started H enc _ => lifted os started H enc)

end Go.Proofs.YtdhpadcihlmhiaaDoor.fnExactIssue

namespace Go.Proofs.YtdhpadcihlmhiaaDoor
open Go
theorem fnExactIssue_holds : Rows.FnExactIssueCardSaid :=
  Claim7.holds_tied_plain_at .later [] [.data, .data, .data] true (true, "ad61da41ca757ced5fc3b5b98d1450ab654463affced2dfc7a25b023ae947adb") false
    fnExactIssue.row_holds (fun _ h => by cases h) (by kernel_rfl) (fun _ h => by cases h) fnExactIssue_row_tie rfl ⟨rfl, rfl⟩ (by kernel_rfl) rfl
    (fun f fn hf hfn => by
      obtain rfl : f = 6 := Option.some.inj ((show Tryd.prog.funcNamed "loop.example/g00040/laws.FnExactIssue" = some 6 by kernel_rfl).symm.trans hf) |>.symm
      obtain rfl : fn = Tryd.f6 := (Option.some.inj (Tryd.func6.symm.trans hfn)).symm
      exact ⟨by kernel_rfl, fun j t ht => by
        rw [Tryd.params6] at ht
        have hm : t ∈ [50, 3, 3] := by simpa using Array.mem_of_getElem? ht
        have hall : ([50, 3, 3].all fun u => !Tryd.prog.wantsStandIn u) = true := by kernel_rfl
        exact (show Tryd.prog.wantsStandIn t = false by simpa using List.all_eq_true.1 hall t hm)⟩)
    (by kernel_rfl)
#print axioms fnExactIssue_holds
end Go.Proofs.YtdhpadcihlmhiaaDoor
