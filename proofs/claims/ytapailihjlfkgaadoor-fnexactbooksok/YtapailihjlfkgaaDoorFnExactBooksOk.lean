/- BooksOk of the program answers as the model's. -/
import Derived.Test.YtapailihjlfkgaaDoorFr
import Derived.Test.YtapailihjlfkgaaDoorBoF
import Derived.Test.YtapailihjlfkgaaDoorPoV
import Derived.Test.YtapailihjlfkgaaDoorTie
import Derived.Test.YtapailihjlfkgaaDoorCards
import Derived.SevenTiedAt
import Derived.OpenVars
import Derived.ChangeVars
import Derived.Carry
import Derived.Lib.SmallJoins
namespace Go.Proofs.YtapailihjlfkgaaDoor.fnExactBooksOk
open Go.ChangeShapes Go.WideShapes Go.ChangeAt Go.WideMaps Go.WideElems Go.RowKit
set_option linter.unusedVariables false
set_option linter.unusedSimpArgs false

set_option maxRecDepth 20000 in
set_option maxHeartbeats 4000000 in
theorem walk (fa : Option Addr) (len cap : Nat) (c : Nat → C3) (d u : Int) (ea : Option Addr) (n ecap : Nat) (es : Nat → E4) (hd : Int) (pa : Option Addr) (m pcap : Nat) (x y : Nat → Int) (cl kp : Int) (w : World) (hfl : len ≤ maxLen) (hfc : ∀ j, (c j).code.size ≤ maxLen) (hfr : CR w fa len c) (hl : n ≤ maxLen) (hm : ∀ j, (es j).text.size ≤ maxLen ∧ (es j).n ≤ maxLen) (hr : ER w ea n es) (hpn : m ≤ maxLen) (hpr : PR w pa m x y) (hE : EL w) :
    Calls Tryd.prog 5 #[.agg #[.slice fa len cap, .int .i64 d, .int .i64 u, .slice ea n ecap, .int .i64 hd, .slice pa m pcap, .int .i64 cl, .int .i64 kp]] w fun e w' => e = .returned (.bool true) ∧ Below w.heap.size w w' := by
  have HR : Hid (CR w fa len c) := hfr
  have HER : Hid (ER w ea n es) := hr
  have HPR : Hid (PR w pa m x y) := hpr
  have hl2 := size_small hfl
  have hn2 := size_small hl
  have hm2 := size_small hpn
  have hc2 : Hid (∀ j, ((c j).code.size : Int) ≤ 9223372036854775807) := fun j => size_small (hfc j)
  have he2 : Hid (∀ j, ((es j).text.size : Int) ≤ 9223372036854775807 ∧ ((es j).n : Int) ≤ 9223372036854775807) := fun j => ⟨size_small (hm j).1, size_small (hm j).2⟩
  have HC : Hid (∀ j, (c j).code.size ≤ maxLen) := hfc
  have HE : Hid (EL w) := hE
  have h9 := hE.nine
  clear hfr hr hpr hfc hm hE
  have tok1 : True := trivial
  go_enter Tryd.func5, Tryd.ntmps5
  go_wp2_with (go_at_call 18; go_loud (refine (szBooks_any _ _ _ c _ _ _ _ _ es _ _ _ _ x y _ _ _ hl2 hc2.out (HR.out.below (by go_grown)) hn2 he2.out (HER.out.below (by go_grown)) hm2).mono ?_; rintro e w1 ⟨v, rfl, hv, b1⟩; have HG : Hid (BG w fa len cap c d u ea n ecap es hd pa m pcap x y cl kp w1) := BG.mk0 HR.out HER.out HPR.out b1; clear b1; have x0 : w1.cell? ⟨w.heap.size, 0, none⟩ = some (.slice fa len cap) := (HG.out.xb.cell 0).trans rfl; have x1 : w1.cell? ⟨w.heap.size, 1, none⟩ = some (.int .i64 d) := (HG.out.xb.cell 1).trans rfl; have x2 : w1.cell? ⟨w.heap.size, 2, none⟩ = some (.int .i64 u) := (HG.out.xb.cell 2).trans rfl; have x3 : w1.cell? ⟨w.heap.size, 3, none⟩ = some (.slice ea n ecap) := (HG.out.xb.cell 3).trans rfl; have x4 : w1.cell? ⟨w.heap.size, 4, none⟩ = some (.int .i64 hd) := (HG.out.xb.cell 4).trans rfl; have x5 : w1.cell? ⟨w.heap.size, 5, none⟩ = some (.slice pa m pcap) := (HG.out.xb.cell 5).trans rfl; have x6 : w1.cell? ⟨w.heap.size, 6, none⟩ = some (.int .i64 cl) := (HG.out.xb.cell 6).trans rfl; have x7 : w1.cell? ⟨w.heap.size, 7, none⟩ = some (.int .i64 kp) := (HG.out.xb.cell 7).trans rfl; rcases hv with rfl | ⟨hv, hv2, hb, hbn, hbj0, hbm⟩))
  · go_returns
    exact ⟨rfl, HG.out.bel⟩
  have HBJ : Hid (∀ j, j < n → ((es j).n : Int) ≤ 1048576) := hbj0
  clear hbj0
  have hvn : ¬ v < 0 := by omega
  go_wp2_with (first
    | (go_at_call 19; clear tok1; go_loud (refine (toBooks_any _ _ _ c _ _ _ _ _ es _ _ _ _ x y _ _ _ hb HG.out.cr hbn HBJ.out HG.out.er hbm HG.out.pr).mono ?_; rintro e w2 ⟨c1, c2, c3, rfl, r2, e2, p2, bb2⟩; have HG2 : Hid (BG w fa len cap c d u ea n ecap es hd pa m pcap x y cl kp w2) := HG.out.below bb2; have HR2 : Hid (CR w2 (some ⟨c1, 0, none⟩) len c) := r2; have HE2 : Hid (ER w2 (some ⟨c2, 0, none⟩) n es) := e2; have HP2 : Hid (PR w2 (some ⟨c3, 0, none⟩) m x y) := p2; clear bb2 r2 e2 p2))
    | (go_at_call 15; go_loud (refine (specBooks_any _ _ _ c _ _ _ _ _ es _ _ _ _ x y _ _ _ hb HC.out HR2.out HE2.out (fun j => (he2.out j).1) HBJ.out HP2.out hbm).mono ?_; rintro e w3 ⟨rfl, bb3⟩; have HG3 : Hid (BG w fa len cap c d u ea n ecap es hd pa m pcap x y cl kp w3) := HG2.out.below bb3; clear bb3; replace x0 : w3.cell? ⟨w.heap.size, 0, none⟩ = some (.slice fa len cap) := (HG3.out.xb.cell 0).trans rfl; replace x1 : w3.cell? ⟨w.heap.size, 1, none⟩ = some (.int .i64 d) := (HG3.out.xb.cell 1).trans rfl; replace x2 : w3.cell? ⟨w.heap.size, 2, none⟩ = some (.int .i64 u) := (HG3.out.xb.cell 2).trans rfl; replace x3 : w3.cell? ⟨w.heap.size, 3, none⟩ = some (.slice ea n ecap) := (HG3.out.xb.cell 3).trans rfl; replace x4 : w3.cell? ⟨w.heap.size, 4, none⟩ = some (.int .i64 hd) := (HG3.out.xb.cell 4).trans rfl; replace x5 : w3.cell? ⟨w.heap.size, 5, none⟩ = some (.slice pa m pcap) := (HG3.out.xb.cell 5).trans rfl; replace x6 : w3.cell? ⟨w.heap.size, 6, none⟩ = some (.int .i64 cl) := (HG3.out.xb.cell 6).trans rfl; replace x7 : w3.cell? ⟨w.heap.size, 7, none⟩ = some (.int .i64 kp) := (HG3.out.xb.cell 7).trans rfl))
    | (go_at_call 19; go_loud (refine (toBooks_any _ _ _ c _ _ _ _ _ es _ _ _ _ x y _ _ _ hb HG3.out.cr hbn HBJ.out HG3.out.er hbm HG3.out.pr).mono ?_; rintro e w4 ⟨b1, b2, b3, rfl, r4, e4, p4, bb4⟩; have HG4 : Hid (BG w fa len cap c d u ea n ecap es hd pa m pcap x y cl kp w4) := HG3.out.below bb4; have HR4 : Hid (CR w4 (some ⟨b1, 0, none⟩) len c) := r4; have HE4 : Hid (ER w4 (some ⟨b2, 0, none⟩) n es) := e4; have HP4 : Hid (PR w4 (some ⟨b3, 0, none⟩) m x y) := p4; clear bb4 r4 e4 p4))
    | (go_at_call 20; go_loud (refine (implBooks_any _ _ _ c _ _ _ _ _ es _ _ _ _ x y _ _ _ hb HC.out (HR4.out.alloc _) ((HE.out.below HG4.out.bel h9).alloc' _) (HE4.out.alloc _) (HP4.out.alloc _) hbm).mono ?_; rintro e w5 ⟨rfl, bb5⟩; have HG5 : Hid (BG w fa len cap c d u ea n ecap es hd pa m pcap x y cl kp w5) := (HG4.out.alloc _).below bb5; have HX : Hid (BX w4.heap.size b1 b2 b3 len n m c d u es hd x y cl kp w5) := BX.mk0 HR4.out HE4.out HP4.out bb5; clear bb5)))
  clear x0 x1 x2 x3 x4 x5 x6 x7 HG HG2 HG3 HG4 HR2 HE2 HP2 HR4 HE4 HP4
  have HG6 : Hid (BG w fa len cap c d u ea n ecap es hd pa m pcap x y cl kp w5.drew) := HG5.out.below (Below.refl _ _).drew
  have HX6 : Hid (BX w4.heap.size b1 b2 b3 len n m c d u es hd x y cl kp w5.drew) := HX.out.below (Below.refl _ _).drew
  clear HG5 HX
  obtain ⟨pb, hpb⟩ : ∃ pb, w4.heap.size = pb := ⟨_, rfl⟩
  rw [hpb] at HX6 ⊢
  clear hpb
  refine wp_region_held_drew (S := fun w' => w'.cell? ⟨pb, 0, none⟩ = some (.slice (some ⟨b1, 0, none⟩) len len) ∧ w'.cell? ⟨pb, 1, none⟩ = some (.int .i64 d) ∧ w'.cell? ⟨pb, 2, none⟩ = some (.int .i64 u) ∧ w'.cell? ⟨pb, 3, none⟩ = some (.slice (some ⟨b2, 0, none⟩) n n) ∧ w'.cell? ⟨pb, 4, none⟩ = some (.int .i64 hd) ∧ w'.cell? ⟨pb, 5, none⟩ = some (.slice (some ⟨b3, 0, none⟩) m m) ∧ w'.cell? ⟨pb, 6, none⟩ = some (.int .i64 cl) ∧ w'.cell? ⟨pb, 7, none⟩ = some (.int .i64 kp) ∧ w'.cell? ⟨w.heap.size, 0, none⟩ = some (.slice fa len cap) ∧ w'.cell? ⟨w.heap.size, 1, none⟩ = some (.int .i64 d) ∧ w'.cell? ⟨w.heap.size, 2, none⟩ = some (.int .i64 u) ∧ w'.cell? ⟨w.heap.size, 3, none⟩ = some (.slice ea n ecap) ∧ w'.cell? ⟨w.heap.size, 4, none⟩ = some (.int .i64 hd) ∧ w'.cell? ⟨w.heap.size, 5, none⟩ = some (.slice pa m pcap) ∧ w'.cell? ⟨w.heap.size, 6, none⟩ = some (.int .i64 cl) ∧ w'.cell? ⟨w.heap.size, 7, none⟩ = some (.int .i64 kp)) (by kernel_rfl) (by exact ⟨(HX6.out.yb.cell 0).trans rfl, (HX6.out.yb.cell 1).trans rfl, (HX6.out.yb.cell 2).trans rfl, (HX6.out.yb.cell 3).trans rfl, (HX6.out.yb.cell 4).trans rfl, (HX6.out.yb.cell 5).trans rfl, (HX6.out.yb.cell 6).trans rfl, (HX6.out.yb.cell 7).trans rfl, (HG6.out.xb.cell 0).trans rfl, (HG6.out.xb.cell 1).trans rfl, (HG6.out.xb.cell 2).trans rfl, (HG6.out.xb.cell 3).trans rfl, (HG6.out.xb.cell 4).trans rfl, (HG6.out.xb.cell 5).trans rfl, (HG6.out.xb.cell 6).trans rfl, (HG6.out.xb.cell 7).trans rfl⟩) (fun hHeld => ?_)
  refine wpAnyH_take (i := 0) (oi := { dst := some 22, op := Go.Op.load 32 (Go.Operand.tmp 5), type := 32, pos := "exact.go:7522", after := #[], guard := none }) (v := ?_) rfl (by kernel_rfl) (by kernel_rfl) (by kernel_rfl) (fun _ _ _ h => h) (Or.inl ⟨by rfl, ?_⟩) (by assumption) ?_
  rotate_left
  · (intro w hSw; (try dsimp only at hSw); go_simp <;> try with_reducible rfl)
  try simp only [Act.put, List.setIfInBounds_toArray, List.set_cons_zero, List.set_cons_succ]
  refine wpAnyH_take (i := 1) (oi := { dst := some 23, op := Go.Op.load 61 (Go.Operand.tmp 1), type := 61, pos := "exact.go:7522", after := #[], guard := none }) (v := ?_) rfl (by kernel_rfl) (by kernel_rfl) (by kernel_rfl) (fun _ _ _ h => h) (Or.inl ⟨by rfl, ?_⟩) (by assumption) ?_
  rotate_left
  · (intro w hSw; (try dsimp only at hSw); go_simp <;> try with_reducible rfl)
  try simp only [Act.put, List.setIfInBounds_toArray, List.set_cons_zero, List.set_cons_succ]
  refine wpAnyH_ready (rs := [2]) (by kernel_rfl) (by simp) ?_
  refine AllReadyH.cons (o := { dst := some 24, op := Go.Op.call { callee := Go.Callee.value (Go.Operand.func 19), args := #[Go.Operand.tmp 23], argTypes := #[61] }, type := 32, pos := "exact.go:7522", after := #[{ on := 1, ground := Go.Ground.data }], guard := none }) rfl (fun K hK => ?_) (AllReadyH.nil)
  go_simp
  refine (toBooks_any _ _ _ c _ _ _ _ _ es _ _ _ _ x y _ _ _ hb HG6.out.cr hbn HBJ.out HG6.out.er hbm HG6.out.pr).mono ?_
  rintro e w6 ⟨d1, d2, d3, rfl, r6, e6, p6, bb6⟩
  have HG7 : Hid (BG w fa len cap c d u ea n ecap es hd pa m pcap x y cl kp w6) := HG6.out.below bb6
  have HX7 : Hid (BX pb b1 b2 b3 len n m c d u es hd x y cl kp w6) := HX6.out.below bb6
  have HR6 : Hid (CR w6 (some ⟨d1, 0, none⟩) len c) := r6
  have HE6 : Hid (ER w6 (some ⟨d2, 0, none⟩) n es) := e6
  have HP6 : Hid (PR w6 (some ⟨d3, 0, none⟩) m x y) := p6
  clear bb6 r6 e6 p6
  first | refine hK.out _ _ (by exact ⟨(HX7.out.yb.cell 0).trans rfl, (HX7.out.yb.cell 1).trans rfl, (HX7.out.yb.cell 2).trans rfl, (HX7.out.yb.cell 3).trans rfl, (HX7.out.yb.cell 4).trans rfl, (HX7.out.yb.cell 5).trans rfl, (HX7.out.yb.cell 6).trans rfl, (HX7.out.yb.cell 7).trans rfl, (HG7.out.xb.cell 0).trans rfl, (HG7.out.xb.cell 1).trans rfl, (HG7.out.xb.cell 2).trans rfl, (HG7.out.xb.cell 3).trans rfl, (HG7.out.xb.cell 4).trans rfl, (HG7.out.xb.cell 5).trans rfl, (HG7.out.xb.cell 6).trans rfl, (HG7.out.xb.cell 7).trans rfl⟩) (fun hHeld => ?_) | (go_wp2_with fail; refine hK.out _ _ (by exact ⟨(HX7.out.yb.cell 0).trans rfl, (HX7.out.yb.cell 1).trans rfl, (HX7.out.yb.cell 2).trans rfl, (HX7.out.yb.cell 3).trans rfl, (HX7.out.yb.cell 4).trans rfl, (HX7.out.yb.cell 5).trans rfl, (HX7.out.yb.cell 6).trans rfl, (HX7.out.yb.cell 7).trans rfl, (HG7.out.xb.cell 0).trans rfl, (HG7.out.xb.cell 1).trans rfl, (HG7.out.xb.cell 2).trans rfl, (HG7.out.xb.cell 3).trans rfl, (HG7.out.xb.cell 4).trans rfl, (HG7.out.xb.cell 5).trans rfl, (HG7.out.xb.cell 6).trans rfl, (HG7.out.xb.cell 7).trans rfl⟩) (fun hHeld => ?_))
  clear hK K
  try simp only [Act.put, List.setIfInBounds_toArray, List.set_cons_zero, List.set_cons_succ]
  refine wpAnyH_ready (rs := [3]) (by kernel_rfl) (by simp) ?_
  refine AllReadyH.cons (o := { dst := some 25, op := Go.Op.call { callee := Go.Callee.value (Go.Operand.func 21), args := #[Go.Operand.tmp 22, Go.Operand.tmp 24], argTypes := #[32, 32] }, type := 4, pos := "exact.go:7522", after := #[{ on := 0, ground := Go.Ground.data }, { on := 2, ground := Go.Ground.data }, { on := 2, ground := Go.Ground.chain }], guard := none }) rfl (fun K hK => ?_) (AllReadyH.nil)
  go_simp
  refine (eqBooks_same _ _ _ _ _ c _ _ _ _ _ _ _ es _ _ _ _ _ _ x y _ _ _ hb HX7.out.cr HR6.out hbn HBJ.out HX7.out.er HE6.out hbm HX7.out.pr HP6.out).mono ?_
  rintro e w7 ⟨rfl, bb7⟩
  have HG8 : Hid (BG w fa len cap c d u ea n ecap es hd pa m pcap x y cl kp w7) := HG7.out.below bb7
  have HX8 : Hid (BX pb b1 b2 b3 len n m c d u es hd x y cl kp w7) := HX7.out.below bb7
  clear bb7
  first | refine hK.out _ _ (by exact ⟨(HX8.out.yb.cell 0).trans rfl, (HX8.out.yb.cell 1).trans rfl, (HX8.out.yb.cell 2).trans rfl, (HX8.out.yb.cell 3).trans rfl, (HX8.out.yb.cell 4).trans rfl, (HX8.out.yb.cell 5).trans rfl, (HX8.out.yb.cell 6).trans rfl, (HX8.out.yb.cell 7).trans rfl, (HG8.out.xb.cell 0).trans rfl, (HG8.out.xb.cell 1).trans rfl, (HG8.out.xb.cell 2).trans rfl, (HG8.out.xb.cell 3).trans rfl, (HG8.out.xb.cell 4).trans rfl, (HG8.out.xb.cell 5).trans rfl, (HG8.out.xb.cell 6).trans rfl, (HG8.out.xb.cell 7).trans rfl⟩) (fun hHeld => ?_) | (go_wp2_with fail; refine hK.out _ _ (by exact ⟨(HX8.out.yb.cell 0).trans rfl, (HX8.out.yb.cell 1).trans rfl, (HX8.out.yb.cell 2).trans rfl, (HX8.out.yb.cell 3).trans rfl, (HX8.out.yb.cell 4).trans rfl, (HX8.out.yb.cell 5).trans rfl, (HX8.out.yb.cell 6).trans rfl, (HX8.out.yb.cell 7).trans rfl, (HG8.out.xb.cell 0).trans rfl, (HG8.out.xb.cell 1).trans rfl, (HG8.out.xb.cell 2).trans rfl, (HG8.out.xb.cell 3).trans rfl, (HG8.out.xb.cell 4).trans rfl, (HG8.out.xb.cell 5).trans rfl, (HG8.out.xb.cell 6).trans rfl, (HG8.out.xb.cell 7).trans rfl⟩) (fun hHeld => ?_))
  clear hK K
  try simp only [Act.put, List.setIfInBounds_toArray, List.set_cons_zero, List.set_cons_succ]
  refine wpAnyH_take (i := 4) (oi := { dst := some 26, op := Go.Op.unOp Go.UnOp.not 4 (Go.Operand.tmp 25), type := 4, pos := "exact.go:7522", after := #[{ on := 3, ground := Go.Ground.data }], guard := none }) (v := ?_) rfl (by kernel_rfl) (by kernel_rfl) (by kernel_rfl) (fun _ _ _ h => h) (Or.inl ⟨by rfl, ?_⟩) (by assumption) ?_
  rotate_left
  · (intro w hSw; (try dsimp only at hSw); go_simp <;> try with_reducible rfl)
  try simp only [Act.put, List.setIfInBounds_toArray, List.set_cons_zero, List.set_cons_succ]
  refine wpAnyH_done (by kernel_rfl) ?_ _
  clear hHeld
  go_wp2
  go_returns
  exact ⟨rfl, HG8.out.bel⟩

set_option maxRecDepth 100000 in
theorem lifted (os : Os) (started : os.Started) (H : Type) (enc : TypeId × Value → H) :
    ReturnsInHanded {} Tryd.checked os 5 .any (fun w args => (Rows.fnExactBooksOkSpec.pre enc Tryd.prog Tryd.f5 [] false w args ∧ laidMetH Tryd.prog laid8 w) ∧ sizedMet enc Tryd.prog Tryd.f5 (OpenSpec.ofChange Rows.fnExactBooksOkSpec) false w args)
      (Rows.fnExactBooksOkSpec.post enc Tryd.prog Tryd.f5 false true false false) := by
  refine returnsInHanded_of_change_and (C := Tryd.checked) (X := fun w _ => laidMetH Tryd.prog laid8 w) (fun _ _ _ hh h => h.of_heap hh) own started (by kernel_rfl) Tryd.func5
    (ChangeSpec.witness_shaped (enc := enc) (C := Tryd.checked) (os := os) (X := fun w _ => laidMetH Tryd.prog laid8 w) false (World.doorLaid Tryd.prog 400 os) #[.agg #[.slice none 0 0, .int .i64 0, .int .i64 0, .slice none 0 0, .int .i64 0, .slice none 0 0, .int .i64 0, .int .i64 0]] 8 rfl (World.shaped_of_RefB (by kernel_rfl) (by kernel_rfl)) (by kernel_rfl) (by kernel_rfl) (by kernel_rfl) (door_met8 os _)) ?_
  intro W base args ds gs before hval0 hW _ _ hL _
  have hval : ∀ (j : Nat) t v, Tryd.f5.params[j]? = some t → args[j]? = some v → Value.okWide Tryd.prog W .any base t v := hval0
  have hW' := hW
  obtain ⟨p, q, hA0, hV, rfl, hfz, hnd⟩ := hW
  have hA : DataW.TrodAll enc Tryd.prog W 0 (fun _ => true) true Tryd.f5.params.toList args.toList ds p := hA0
  rw [Tryd.params5] at hA hval
  obtain ⟨v0, vs0, d0, ds0, p0, q0, hargs, rfl, rfl, h0, r0⟩ := trodAll_cons hA
  obtain ⟨rfl, rfl, rfl⟩ := trodAll_nil r0
  obtain rfl : args = #[v0] := by cases args; simp_all
  have hV1 := hV
  obtain ⟨x1, x2, x3, x4, x5, x6, x7, x8, rfl⟩ := eight (trodVars_len hV)
  have k0 := h0
  have lt0 : ∀ x ∈ p0, x.block < W.heap.size := by obtain ⟨m, hm⟩ := k0; exact DataW.trod_lt m _ _ _ hm
  obtain ⟨z0, z1, z2, z3, z4, z5, z6, z7, ky0, ky1, ky2, ky3, ky4, knn, rfl, kg0, kg1, kg2, kg3, kg4⟩ := open_32111 Tryd.underlying61 (by kernel_rfl) ⟨rfl, rfl, rfl, rfl, rfl⟩ ⟨by kernel_rfl, by kernel_rfl, by kernel_rfl, by kernel_rfl, by kernel_rfl⟩ (hval 0 61 v0 rfl rfl) h0
  obtain ⟨fy0, fy1, fy2, fnn, fg0, fg1, fg2⟩ := open_in3 Tryd.underlying55 ⟨rfl, rfl, rfl⟩ ⟨by kernel_rfl, by kernel_rfl, by kernel_rfl⟩ kg0
  obtain ⟨ly0, ly1, lnn, lg0, lg1⟩ := open_in2 Tryd.underlying58 ⟨rfl, rfl⟩ ⟨by kernel_rfl, by kernel_rfl⟩ kg1
  obtain ⟨d, fe1, _, _⟩ := DataW.trod_int Tryd.underlying3 fg1
  obtain rfl : z1 = .int .i64 d := by simpa using fe1
  obtain ⟨u, fe2, _, _⟩ := DataW.trod_int Tryd.underlying3 fg2
  obtain rfl : z2 = .int .i64 u := by simpa using fe2
  obtain ⟨hd, le1, _, _⟩ := DataW.trod_int Tryd.underlying3 lg1
  obtain rfl : z4 = .int .i64 hd := by simpa using le1
  obtain ⟨cl, ke3, _, _⟩ := DataW.trod_int Tryd.underlying3 kg3
  obtain rfl : z6 = .int .i64 cl := by simpa using ke3
  obtain ⟨kp, ke4, _, _⟩ := DataW.trod_int Tryd.underlying3 kg4
  obtain rfl : z7 = .int .i64 kp := by simpa using ke4
  obtain ⟨fa, len, cap, rfl, fT⟩ := slice_of Tryd.underlying53 fg0
  obtain ⟨c, hfl, hfc, hfr⟩ := curs_of Tryd.underlying53 Tryd.underlying163 (by kernel_rfl) ⟨rfl, rfl, rfl⟩ ⟨by kernel_rfl, by kernel_rfl, by kernel_rfl⟩ Tryd.underlying9 Tryd.underlying3 Tryd.underlying3 fT
  obtain ⟨ea, n, ecap, rfl, lT⟩ := slice_of Tryd.underlying56 lg0
  obtain ⟨es, hl, hm, hr⟩ := entries_of Tryd.underlying56 Tryd.underlying167 (by kernel_rfl) ⟨rfl, rfl, rfl, rfl⟩ ⟨by kernel_rfl, by kernel_rfl, by kernel_rfl, by kernel_rfl⟩ Tryd.underlying3 Tryd.underlying3 Tryd.underlying9 lineT lT
  obtain ⟨pa, m, pcap, rfl, pT⟩ := slice_of Tryd.underlying59 kg2
  obtain ⟨x, y, hpn, hpr, _, _⟩ := pairs_of Tryd.underlying59 Tryd.underlying143 (by kernel_rfl) rfl rfl (by kernel_rfl) (by kernel_rfl) Tryd.underlying3 Tryd.underlying3 pT
  clear hA0 hval0
  refine (walk fa len cap c d u ea n ecap es hd pa m pcap x y cl kp W hfl hfc hfr hl hm hr hpn hpr (of_laid8 hL)).mono fun e W' ⟨he, hg⟩ => ?_
  subst he
  exact ⟨_, rfl, _, _, _, [], _, _, hW', (trodAll_cons_mk (shut_bool Tryd.underlying4 _) trodAll_mk0), (trodAll_cons_mk (Below.trod laidOut (by kernel_rfl) (of_decide_eq_true (by kernel_rfl)) k0 hg lt0) trodAll_mk0), Below.trodVars laidOut hg (by kernel_rfl) hV1, hg.frame _, fun h => by cases h⟩

theorem row_holds : Rows.FnExactBooksOkSaid :=
  OpenClaim.holds_of_wide 5 Tryd.f5 rfl rfl rfl rfl rfl rfl rfl ⟨rfl, rfl, rfl, rfl, rfl⟩ rfl rfl rfl rfl rfl (by kernel_rfl) Tryd.func5 (by kernel_rfl)
    (of_decide_eq_true (by kernel_rfl)) (by unfold Func.isWrapper; first | (rw [if_pos (by decide +kernel)]; kernel_rfl) | (rw [if_neg (by decide +kernel)]; exact ⟨rfl, rfl⟩))
    (fun os started H enc _ => lifted os started H enc)

end Go.Proofs.YtapailihjlfkgaaDoor.fnExactBooksOk

namespace Go.Proofs.YtapailihjlfkgaaDoor
open Go
theorem fnExactBooksOk_holds : Rows.FnExactBooksOkCardSaid :=
  Claim7.holds_tied_plain_at .later [] [.sentinel, .sentinel, .sentinel, .sentinel, .sentinel, .sentinel, .sentinel, .sentinel] true (true, "1b3ad8908929a5629ed3bfa3ea198e5e029466e0b3b99bd2dd7cdeac3e79b181") false
    fnExactBooksOk.row_holds (fun _ h => by cases h) (by kernel_rfl) (fun _ h => by cases h) fnExactBooksOk_row_tie rfl ⟨rfl, rfl⟩ (by kernel_rfl) rfl
    (fun f fn hf hfn => by
      obtain rfl : f = 5 := Option.some.inj ((show Tryd.prog.funcNamed "loop.example/g00040/laws.FnExactBooksOk" = some 5 by kernel_rfl).symm.trans hf) |>.symm
      obtain rfl : fn = Tryd.f5 := (Option.some.inj (Tryd.func5.symm.trans hfn)).symm
      exact ⟨by kernel_rfl, fun j t ht => by
        rw [Tryd.params5] at ht
        have hm : t ∈ [61] := by simpa using Array.mem_of_getElem? ht
        have hall : ([61].all fun u => !Tryd.prog.wantsStandIn u) = true := by kernel_rfl
        exact (show Tryd.prog.wantsStandIn t = false by simpa using List.all_eq_true.1 hall t hm)⟩)
    (by kernel_rfl)
#print axioms fnExactBooksOk_holds
end Go.Proofs.YtapailihjlfkgaaDoor
