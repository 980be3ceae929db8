/- Books that are right: plain; the program's test of books that are laid out. -/
import Derived.Test.YtapailihjlfkgaaDoorBoA
namespace Go.Proofs.YtapailihjlfkgaaDoor
open Go Go.ChangeShapes Go.WideShapes Go.ChangeAt Go.RowKit
set_option linter.unusedVariables false
set_option linter.unusedSimpArgs false

/-- A tree of this chart lies at T, all of it behind B. -/
def TreeF (w : World) (B T len : Nat) (c : Nat → C3) : Prop := ∃ base mp N S ns, B ≤ base ∧ TR Tryd.prog w base T mp (tn len c) c N S ns
theorem TreeF.tree {w : World} {B T len : Nat} {c : Nat → C3} (h : TreeF w B T len c) : Tree w T len c := by
  obtain ⟨base, mp, N, S, ns, _, h⟩ := h; exact ⟨base, mp, N, S, ns, h⟩
theorem TreeF.below {w w' : World} {B T len : Nat} {c : Nat → C3} (h : TreeF w B T len c) (k : Below w.heap.size w w') : TreeF w' B T len c := by
  obtain ⟨base, mp, N, S, ns, hB, h⟩ := h; exact ⟨base, mp, N, S, ns, hB, h.below k⟩
theorem TreeF.alloc {w : World} {B T len : Nat} {c : Nat → C3} (h : TreeF w B T len c) (o : Obj) : TreeF (w.alloc o) B T len c := h.below ((Below.refl _ _).alloc (Nat.le_refl _) o)
theorem TreeF.lower {w : World} {B B' T len : Nat} {c : Nat → C3} (h : TreeF w B T len c) (k : B' ≤ B) : TreeF w B' T len c := by
  obtain ⟨base, mp, N, S, ns, hB, h⟩ := h; exact ⟨base, mp, N, S, ns, Nat.le_trans k hB, h⟩
theorem TreeF.other {w : World} {B T len : Nat} {c : Nat → C3} (h : TreeF w B T len c) {b : Nat} (o : Nat) (v : Value) (hb : b < B) : TreeF (w.setCell ⟨b, o, none⟩ v) B T len c := by
  obtain ⟨base, mp, N, S, ns, hB, h⟩ := h
  exact ⟨base, mp, N, S, ns, hB, h.keepFrom (fun x hx => Below.heap_setCell _ _ _ _ (by show x ≠ b; omega))⟩
set_option maxRecDepth 20000 in
set_option maxHeartbeats 2000000 in
theorem layF_any (fa : Option Addr) (len cap : Nat) (c : Nat → C3) (d u : Int) (w : World) (hl : (len : Int) ≤ 1048576) (hc : ∀ j, (c j).code.size ≤ maxLen) (hr : CR w fa len c) (hE : EL w) :
    Calls Tryd.prog 31 #[.agg #[.slice fa len cap, .int .i64 d, .int .i64 u]] w fun e w' => ∃ T, e = .returned (.agg #[.slice fa len cap, .int .i64 d, .int .i64 u, .pointer (some ⟨T, 0, none⟩)]) ∧ TreeF w' w.heap.size T len c ∧ Below w.heap.size w w' := by
  have HR : Hid (CR ((w.alloc (.cells #[.slice fa len cap, .int .i64 d, .int .i64 u] 26 (0, 0))).alloc (.cells #[.slice none 0 0, .int .i64 0, .int .i64 0, .pointer none] 82 (0, 0))).drew fa len c) := ((hr.alloc _).alloc _).drew'
  have HC : Hid (∀ j, (c j).code.size ≤ maxLen) := hc
  have HE : Hid (EL ((w.alloc (.cells #[.slice fa len cap, .int .i64 d, .int .i64 u] 26 (0, 0))).alloc (.cells #[.slice none 0 0, .int .i64 0, .int .i64 0, .pointer none] 82 (0, 0))).drew) := ((hE.alloc' _).alloc' _).drew'
  clear hr hc hE
  go_enter Tryd.func31, Tryd.ntmps31
  go_wp2
  go_region_with (go_at_call 69; go_loud (refine (treeOf_any _ _ _ c _ hl HC.out HR.out HE.out).mono ?_; rintro e w1 ⟨T, mp, N, S, ns, rfl, hT, b1⟩; obtain ⟨C1, b2, xb⟩ := two_drew b1; have X0 : CB w1 w.heap.size #[.slice fa len cap, .int .i64 d, .int .i64 u] 26 := xb; have x0 := X0.cell 0; have x1 := X0.cell 1; have x2 := X0.cell 2; have m0 := C1.cell 0; have m1 := C1.cell 1; have m2 := C1.cell 2; have m3 := C1.cell 3; simp at m0 m1 m2 m3 x0 x1 x2; have g0 := C1.fr 0; have g1 := C1.fr 1; have g2 := C1.fr 2; have g3 := C1.fr 3; have HC1 : Hid (CB w1 (w.heap.size + 1) #[.slice none 0 0, .int .i64 0, .int .i64 0, .pointer none] 82) := C1; have HT : Hid (TR Tryd.prog w1 (w.heap.size + 1 + 1) T mp (tn len c) c N S ns) := (by have e : (((w.alloc (.cells #[.slice fa len cap, .int .i64 d, .int .i64 u] 26 (0, 0))).alloc (.cells #[.slice none 0 0, .int .i64 0, .int .i64 0, .pointer none] 82 (0, 0))).drew).heap.size = w.heap.size + 1 + 1 := (by simp); rw [e] at hT; exact hT); have HB : Hid (Below w.heap.size w w1) := b2; clear b1 b2 C1 hT X0 xb))
  all_goals
    have hX := (((HC1.out.set 0 (.slice fa len cap)).set 1 (.int .i64 d)).set 2 (.int .i64 u)).set 3 (.pointer (some ⟨T, 0, none⟩))
    have hY : TreeF ((((w1.setCell ⟨w.heap.size + 1, 0, none⟩ (.slice fa len cap)).setCell ⟨w.heap.size + 1, 1, none⟩ (.int .i64 d)).setCell ⟨w.heap.size + 1, 2, none⟩ (.int .i64 u)).setCell ⟨w.heap.size + 1, 3, none⟩ (.pointer (some ⟨T, 0, none⟩))) w.heap.size T len c := ⟨_, _, _, _, _, (by first | omega | (simp; omega)), HT.out.keepFrom (fun b hb => by
      rw [Below.heap_setCell _ _ _ _ (by simp; omega), Below.heap_setCell _ _ _ _ (by simp; omega), Below.heap_setCell _ _ _ _ (by simp; omega), Below.heap_setCell _ _ _ _ (by simp; omega)])⟩
    have hZ := (((HB.out.setCell (p := ⟨w.heap.size + 1, 0, none⟩) (by simp) (.slice fa len cap)).setCell (p := ⟨w.heap.size + 1, 1, none⟩) (by simp) (.int .i64 d)).setCell (p := ⟨w.heap.size + 1, 2, none⟩) (by simp) (.int .i64 u)).setCell (p := ⟨w.heap.size + 1, 3, none⟩) (by simp) (.pointer (some ⟨T, 0, none⟩))
    have e0 := hX.cell 0
    have e1 := hX.cell 1
    have e2 := hX.cell 2
    have e3 := hX.cell 3
    simp at e0 e1 e2 e3
    clear hX m0 m1 m2 m3 x0 x1 x2 g0 g1 g2 g3 HC1 HT HB
    try go_wp2
    generalize (World.setCell _ _ _) = W5 at e0 e1 e2 e3 hY hZ ⊢
    refine bodyPost_ret (by simp [results, Tryd.results31, go_sem, e0, e1, e2, e3]; try rfl) rfl ?_
    exact ⟨T, rfl, hY, hZ⟩


noncomputable def boB (len : Nat) (c : Nat → C3) (d u : Int) (n : Nat) (es : Nat → E4) (hd : Int) (m : Nat) (x y : Nat → Int) (cl kp : Int) : Bool :=
  leB len c d u n es hd && (prB m x y && (decide (0 ≤ cl) && (decide (cl ≤ (m : Int)) && (leafB len c kp && ((c kp.toNat).step == 3)))))
theorem leafB_in {len : Nat} {c : Nat → C3} {x : Int} (h : leafB len c x = true) : 0 ≤ x ∧ x < (tn len c : Int) := by
  by_cases q : 0 ≤ x ∧ x < (tn len c : Int)
  · exact q
  · rw [leafB_out q] at h; cases h

set_option maxRecDepth 20000 in
set_option maxHeartbeats 4000000 in
theorem booksRight_any (fa : Option Addr) (len cap : Nat) (c : Nat → C3) (d u : Int) (T : Nat) (ea : Option Addr) (n ecap : Nat) (es : Nat → E4) (hd : Int) (pa : Option Addr) (m pcap : Nat) (x y : Nat → Int) (cl kp : Int) (w : World) (h : Tree w T len c) (hr : ER w ea n es) (hp : PR w pa m x y) (hm : (m : Int) ≤ 1048576) :
    Calls Tryd.prog 81 #[.agg #[.slice fa len cap, .int .i64 d, .int .i64 u, .pointer (some ⟨T, 0, none⟩), .slice ea n ecap, .int .i64 hd, .slice pa m pcap, .int .i64 cl, .int .i64 kp]] w fun e w' => e = .returned (.bool (boB len c d u n es hd m x y cl kp)) ∧ Below w.heap.size w w' := by
  have HT : Hid (Tree w T len c) := h
  have HR : Hid (ER w ea n es) := hr
  have HP : Hid (PR w pa m x y) := hp
  clear h hr hp
  cases h1 : leB len c d u n es hd with
  | false =>
    have HV : Hid (boB len c d u n es hd m x y cl kp = false) := by show _ = _; unfold boB; simp [h1]
    go_enter Tryd.func81, Tryd.ntmps81
    go_wp2_with (first
      | (go_at_call 32; refine (isRightIn_any _ _ _ c _ _ T _ _ _ es _ _ (HT.out.alloc _) (HR.out.alloc _)).mono ?_; rintro e w1 ⟨rfl, b1⟩; rw [h1]; have Xa : CB w1 w.heap.size #[.slice fa len cap, .int .i64 d, .int .i64 u, .pointer (some ⟨T, 0, none⟩), .slice ea n ecap, .int .i64 hd, .slice pa m pcap, .int .i64 cl, .int .i64 kp] 98 := (CB.new _ _).below b1 (by simp); have a0 := Xa.cell 0; have a1 := Xa.cell 1; have a2 := Xa.cell 2; have a3 := Xa.cell 3; have a4 := Xa.cell 4; have a5 := Xa.cell 5; have a6 := Xa.cell 6; have a7 := Xa.cell 7; have a8 := Xa.cell 8; simp at a0 a1 a2 a3 a4 a5 a6 a7 a8; have HX1 : Hid (CB w1 w.heap.size #[.slice fa len cap, .int .i64 d, .int .i64 u, .pointer (some ⟨T, 0, none⟩), .slice ea n ecap, .int .i64 hd, .slice pa m pcap, .int .i64 cl, .int .i64 kp] 98) := Xa; have HT1 : Hid (Tree w1 T len c) := (HT.out.alloc _).below b1; have HP1 : Hid (PR w1 pa m x y) := (HP.out.alloc _).below b1; have HB1 : Hid (Below w.heap.size w w1) := bel_on ((Below.refl _ _).alloc (Nat.le_refl _) _) b1; clear b1 Xa))
    go_returns
    exact ⟨ret_bool' HV.out, HB1.out⟩
  | true =>
  cases h2 : prB m x y with
  | false =>
    have HV : Hid (boB len c d u n es hd m x y cl kp = false) := by show _ = _; unfold boB; simp [h2]
    go_enter Tryd.func81, Tryd.ntmps81
    go_wp2_with (first
      | (go_at_call 32; refine (isRightIn_any _ _ _ c _ _ T _ _ _ es _ _ (HT.out.alloc _) (HR.out.alloc _)).mono ?_; rintro e w1 ⟨rfl, b1⟩; rw [h1]; have Xa : CB w1 w.heap.size #[.slice fa len cap, .int .i64 d, .int .i64 u, .pointer (some ⟨T, 0, none⟩), .slice ea n ecap, .int .i64 hd, .slice pa m pcap, .int .i64 cl, .int .i64 kp] 98 := (CB.new _ _).below b1 (by simp); have a0 := Xa.cell 0; have a1 := Xa.cell 1; have a2 := Xa.cell 2; have a3 := Xa.cell 3; have a4 := Xa.cell 4; have a5 := Xa.cell 5; have a6 := Xa.cell 6; have a7 := Xa.cell 7; have a8 := Xa.cell 8; simp at a0 a1 a2 a3 a4 a5 a6 a7 a8; have HX1 : Hid (CB w1 w.heap.size #[.slice fa len cap, .int .i64 d, .int .i64 u, .pointer (some ⟨T, 0, none⟩), .slice ea n ecap, .int .i64 hd, .slice pa m pcap, .int .i64 cl, .int .i64 kp] 98) := Xa; have HT1 : Hid (Tree w1 T len c) := (HT.out.alloc _).below b1; have HP1 : Hid (PR w1 pa m x y) := (HP.out.alloc _).below b1; have HB1 : Hid (Below w.heap.size w w1) := bel_on ((Below.refl _ _).alloc (Nat.le_refl _) _) b1; clear b1 Xa)
      | (go_at_call 107; go_loud (refine (arePeriods_any _ _ _ x y _ hm HP1.out).mono ?_; rintro e w2 ⟨rfl, b2⟩; rw [h2]; have Xq : CB w2 w.heap.size #[.slice fa len cap, .int .i64 d, .int .i64 u, .pointer (some ⟨T, 0, none⟩), .slice ea n ecap, .int .i64 hd, .slice pa m pcap, .int .i64 cl, .int .i64 kp] 98 := HX1.out.below b2 HX1.out.lt; have q0 := Xq.cell 0; have q1 := Xq.cell 1; have q2 := Xq.cell 2; have q3 := Xq.cell 3; have q4 := Xq.cell 4; have q5 := Xq.cell 5; have q6 := Xq.cell 6; have q7 := Xq.cell 7; have q8 := Xq.cell 8; simp at q0 q1 q2 q3 q4 q5 q6 q7 q8; have HT2 : Hid (Tree w2 T len c) := HT1.out.below b2; have HB2 : Hid (Below w.heap.size w w2) := bel_on HB1.out b2; clear b2 Xq)))
    go_returns
    exact ⟨ret_bool' HV.out, HB2.out⟩
  | true =>
  by_cases h3 : 0 ≤ cl
  case neg =>
    have d3 : decide (0 ≤ cl) = false := by simp <;> omega
    have HV : Hid (boB len c d u n es hd m x y cl kp = false) := by show _ = _; unfold boB; simp [d3]
    go_enter Tryd.func81, Tryd.ntmps81
    go_wp2_with (first
      | (go_at_call 32; refine (isRightIn_any _ _ _ c _ _ T _ _ _ es _ _ (HT.out.alloc _) (HR.out.alloc _)).mono ?_; rintro e w1 ⟨rfl, b1⟩; rw [h1]; have Xa : CB w1 w.heap.size #[.slice fa len cap, .int .i64 d, .int .i64 u, .pointer (some ⟨T, 0, none⟩), .slice ea n ecap, .int .i64 hd, .slice pa m pcap, .int .i64 cl, .int .i64 kp] 98 := (CB.new _ _).below b1 (by simp); have a0 := Xa.cell 0; have a1 := Xa.cell 1; have a2 := Xa.cell 2; have a3 := Xa.cell 3; have a4 := Xa.cell 4; have a5 := Xa.cell 5; have a6 := Xa.cell 6; have a7 := Xa.cell 7; have a8 := Xa.cell 8; simp at a0 a1 a2 a3 a4 a5 a6 a7 a8; have HX1 : Hid (CB w1 w.heap.size #[.slice fa len cap, .int .i64 d, .int .i64 u, .pointer (some ⟨T, 0, none⟩), .slice ea n ecap, .int .i64 hd, .slice pa m pcap, .int .i64 cl, .int .i64 kp] 98) := Xa; have HT1 : Hid (Tree w1 T len c) := (HT.out.alloc _).below b1; have HP1 : Hid (PR w1 pa m x y) := (HP.out.alloc _).below b1; have HB1 : Hid (Below w.heap.size w w1) := bel_on ((Below.refl _ _).alloc (Nat.le_refl _) _) b1; clear b1 Xa)
      | (go_at_call 107; go_loud (refine (arePeriods_any _ _ _ x y _ hm HP1.out).mono ?_; rintro e w2 ⟨rfl, b2⟩; rw [h2]; have Xq : CB w2 w.heap.size #[.slice fa len cap, .int .i64 d, .int .i64 u, .pointer (some ⟨T, 0, none⟩), .slice ea n ecap, .int .i64 hd, .slice pa m pcap, .int .i64 cl, .int .i64 kp] 98 := HX1.out.below b2 HX1.out.lt; have q0 := Xq.cell 0; have q1 := Xq.cell 1; have q2 := Xq.cell 2; have q3 := Xq.cell 3; have q4 := Xq.cell 4; have q5 := Xq.cell 5; have q6 := Xq.cell 6; have q7 := Xq.cell 7; have q8 := Xq.cell 8; simp at q0 q1 q2 q3 q4 q5 q6 q7 q8; have HT2 : Hid (Tree w2 T len c) := HT1.out.below b2; have HB2 : Hid (Below w.heap.size w w2) := bel_on HB1.out b2; clear b2 Xq)))
    go_returns
    exact ⟨ret_bool' HV.out, HB2.out⟩
  have d3 : decide (0 ≤ cl) = true := by simp <;> omega
  by_cases h4 : cl ≤ (m : Int)
  case neg =>
    have d4 : decide (cl ≤ (m : Int)) = false := by simp <;> omega
    have HV : Hid (boB len c d u n es hd m x y cl kp = false) := by show _ = _; unfold boB; simp [d4]
    go_enter Tryd.func81, Tryd.ntmps81
    go_wp2_with (first
      | (go_at_call 32; refine (isRightIn_any _ _ _ c _ _ T _ _ _ es _ _ (HT.out.alloc _) (HR.out.alloc _)).mono ?_; rintro e w1 ⟨rfl, b1⟩; rw [h1]; have Xa : CB w1 w.heap.size #[.slice fa len cap, .int .i64 d, .int .i64 u, .pointer (some ⟨T, 0, none⟩), .slice ea n ecap, .int .i64 hd, .slice pa m pcap, .int .i64 cl, .int .i64 kp] 98 := (CB.new _ _).below b1 (by simp); have a0 := Xa.cell 0; have a1 := Xa.cell 1; have a2 := Xa.cell 2; have a3 := Xa.cell 3; have a4 := Xa.cell 4; have a5 := Xa.cell 5; have a6 := Xa.cell 6; have a7 := Xa.cell 7; have a8 := Xa.cell 8; simp at a0 a1 a2 a3 a4 a5 a6 a7 a8; have HX1 : Hid (CB w1 w.heap.size #[.slice fa len cap, .int .i64 d, .int .i64 u, .pointer (some ⟨T, 0, none⟩), .slice ea n ecap, .int .i64 hd, .slice pa m pcap, .int .i64 cl, .int .i64 kp] 98) := Xa; have HT1 : Hid (Tree w1 T len c) := (HT.out.alloc _).below b1; have HP1 : Hid (PR w1 pa m x y) := (HP.out.alloc _).below b1; have HB1 : Hid (Below w.heap.size w w1) := bel_on ((Below.refl _ _).alloc (Nat.le_refl _) _) b1; clear b1 Xa)
      | (go_at_call 107; go_loud (refine (arePeriods_any _ _ _ x y _ hm HP1.out).mono ?_; rintro e w2 ⟨rfl, b2⟩; rw [h2]; have Xq : CB w2 w.heap.size #[.slice fa len cap, .int .i64 d, .int .i64 u, .pointer (some ⟨T, 0, none⟩), .slice ea n ecap, .int .i64 hd, .slice pa m pcap, .int .i64 cl, .int .i64 kp] 98 := HX1.out.below b2 HX1.out.lt; have q0 := Xq.cell 0; have q1 := Xq.cell 1; have q2 := Xq.cell 2; have q3 := Xq.cell 3; have q4 := Xq.cell 4; have q5 := Xq.cell 5; have q6 := Xq.cell 6; have q7 := Xq.cell 7; have q8 := Xq.cell 8; simp at q0 q1 q2 q3 q4 q5 q6 q7 q8; have HT2 : Hid (Tree w2 T len c) := HT1.out.below b2; have HB2 : Hid (Below w.heap.size w w2) := bel_on HB1.out b2; clear b2 Xq)))
    go_returns
    exact ⟨ret_bool' HV.out, HB2.out⟩
  have d4 : decide (cl ≤ (m : Int)) = true := by simp <;> omega
  cases h5 : leafB len c kp with
  | false =>
    have HV : Hid (boB len c d u n es hd m x y cl kp = false) := by show _ = _; unfold boB; simp [h5]
    go_enter Tryd.func81, Tryd.ntmps81
    go_wp2_with (first
      | (go_at_call 32; refine (isRightIn_any _ _ _ c _ _ T _ _ _ es _ _ (HT.out.alloc _) (HR.out.alloc _)).mono ?_; rintro e w1 ⟨rfl, b1⟩; rw [h1]; have Xa : CB w1 w.heap.size #[.slice fa len cap, .int .i64 d, .int .i64 u, .pointer (some ⟨T, 0, none⟩), .slice ea n ecap, .int .i64 hd, .slice pa m pcap, .int .i64 cl, .int .i64 kp] 98 := (CB.new _ _).below b1 (by simp); have a0 := Xa.cell 0; have a1 := Xa.cell 1; have a2 := Xa.cell 2; have a3 := Xa.cell 3; have a4 := Xa.cell 4; have a5 := Xa.cell 5; have a6 := Xa.cell 6; have a7 := Xa.cell 7; have a8 := Xa.cell 8; simp at a0 a1 a2 a3 a4 a5 a6 a7 a8; have HX1 : Hid (CB w1 w.heap.size #[.slice fa len cap, .int .i64 d, .int .i64 u, .pointer (some ⟨T, 0, none⟩), .slice ea n ecap, .int .i64 hd, .slice pa m pcap, .int .i64 cl, .int .i64 kp] 98) := Xa; have HT1 : Hid (Tree w1 T len c) := (HT.out.alloc _).below b1; have HP1 : Hid (PR w1 pa m x y) := (HP.out.alloc _).below b1; have HB1 : Hid (Below w.heap.size w w1) := bel_on ((Below.refl _ _).alloc (Nat.le_refl _) _) b1; clear b1 Xa)
      | (go_at_call 107; go_loud (refine (arePeriods_any _ _ _ x y _ hm HP1.out).mono ?_; rintro e w2 ⟨rfl, b2⟩; rw [h2]; have Xq : CB w2 w.heap.size #[.slice fa len cap, .int .i64 d, .int .i64 u, .pointer (some ⟨T, 0, none⟩), .slice ea n ecap, .int .i64 hd, .slice pa m pcap, .int .i64 cl, .int .i64 kp] 98 := HX1.out.below b2 HX1.out.lt; have q0 := Xq.cell 0; have q1 := Xq.cell 1; have q2 := Xq.cell 2; have q3 := Xq.cell 3; have q4 := Xq.cell 4; have q5 := Xq.cell 5; have q6 := Xq.cell 6; have q7 := Xq.cell 7; have q8 := Xq.cell 8; simp at q0 q1 q2 q3 q4 q5 q6 q7 q8; have HT2 : Hid (Tree w2 T len c) := HT1.out.below b2; have HB2 : Hid (Below w.heap.size w w2) := bel_on HB1.out b2; clear b2 Xq))
      | (go_at_call 108; refine (HT2.out.leaf _).mono ?_; rintro e w3 ⟨rfl, ew⟩; replace ew := ew.symm; subst ew; rw [h5]))
    go_returns
    exact ⟨ret_bool' HV.out, HB2.out⟩
  | true =>
    have hin := leafB_in h5
    obtain ⟨i, rfl⟩ : ∃ i : Nat, kp = (i : Int) := ⟨kp.toNat, by omega⟩
    have hi : i < tn len c := by omega
    have HV : Hid (boB len c d u n es hd m x y cl (i : Int) = ((c i).step == 3)) := by show _ = _; unfold boB; rw [h1, h2, d3, d4, h5]; simp
    clear hin
    go_enter Tryd.func81, Tryd.ntmps81
    go_wp2_with (first
      | (go_at_call 32; refine (isRightIn_any _ _ _ c _ _ T _ _ _ es _ _ (HT.out.alloc _) (HR.out.alloc _)).mono ?_; rintro e w1 ⟨rfl, b1⟩; rw [h1]; have Xa : CB w1 w.heap.size #[.slice fa len cap, .int .i64 d, .int .i64 u, .pointer (some ⟨T, 0, none⟩), .slice ea n ecap, .int .i64 hd, .slice pa m pcap, .int .i64 cl, .int .i64 (i : Int)] 98 := (CB.new _ _).below b1 (by simp); have a0 := Xa.cell 0; have a1 := Xa.cell 1; have a2 := Xa.cell 2; have a3 := Xa.cell 3; have a4 := Xa.cell 4; have a5 := Xa.cell 5; have a6 := Xa.cell 6; have a7 := Xa.cell 7; have a8 := Xa.cell 8; simp at a0 a1 a2 a3 a4 a5 a6 a7 a8; have HX1 : Hid (CB w1 w.heap.size #[.slice fa len cap, .int .i64 d, .int .i64 u, .pointer (some ⟨T, 0, none⟩), .slice ea n ecap, .int .i64 hd, .slice pa m pcap, .int .i64 cl, .int .i64 (i : Int)] 98) := Xa; have HT1 : Hid (Tree w1 T len c) := (HT.out.alloc _).below b1; have HP1 : Hid (PR w1 pa m x y) := (HP.out.alloc _).below b1; have HB1 : Hid (Below w.heap.size w w1) := bel_on ((Below.refl _ _).alloc (Nat.le_refl _) _) b1; clear b1 Xa)
      | (go_at_call 107; go_loud (refine (arePeriods_any _ _ _ x y _ hm HP1.out).mono ?_; rintro e w2 ⟨rfl, b2⟩; rw [h2]; have Xq : CB w2 w.heap.size #[.slice fa len cap, .int .i64 d, .int .i64 u, .pointer (some ⟨T, 0, none⟩), .slice ea n ecap, .int .i64 hd, .slice pa m pcap, .int .i64 cl, .int .i64 (i : Int)] 98 := HX1.out.below b2 HX1.out.lt; have q0 := Xq.cell 0; have q1 := Xq.cell 1; have q2 := Xq.cell 2; have q3 := Xq.cell 3; have q4 := Xq.cell 4; have q5 := Xq.cell 5; have q6 := Xq.cell 6; have q7 := Xq.cell 7; have q8 := Xq.cell 8; simp at q0 q1 q2 q3 q4 q5 q6 q7 q8; have HT2 : Hid (Tree w2 T len c) := HT1.out.below b2; have HB2 : Hid (Below w.heap.size w w2) := bel_on HB1.out b2; clear b2 Xq))
      | (go_at_call 108; refine (HT2.out.leaf _).mono ?_; rintro e w3 ⟨rfl, ew⟩; replace ew := ew.symm; subst ew; rw [h5])
      | (go_at_call 109; refine (isOf_in _ _ _ c _ _ T i _ 3 _ (HT2.out.alloc _) hi (((CB.new _ _).cell 0).trans rfl)).mono ?_; rintro e w4 ⟨rfl, b4⟩; have HB4 : Hid (Below w.heap.size w w4) := bel_on (HB2.out.alloc HB2.out.size _) b4; clear b4))
    go_returns
    exact ⟨ret_bool' HV.out, HB4.out⟩

end Go.Proofs.YtapailihjlfkgaaDoor
