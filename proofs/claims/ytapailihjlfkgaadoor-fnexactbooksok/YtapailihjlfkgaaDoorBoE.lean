/- The model's BooksOk. -/
import Derived.Test.YtapailihjlfkgaaDoorBoB
import Derived.Test.YtapailihjlfkgaaDoorSg
namespace Go.Proofs.YtapailihjlfkgaaDoor
open Go Go.ChangeShapes Go.WideShapes Go.ChangeAt Go.RowKit
set_option linter.unusedVariables false
set_option linter.unusedSimpArgs false

set_option maxRecDepth 20000 in
set_option maxHeartbeats 4000000 in
theorem specBooks_any (fa : Option Addr) (len cap : Nat) (c : Nat → C3) (d u : Int) (ea : Option Addr) (n ecap : Nat) (es : Nat → E4) (hd : Int) (pa : Option Addr) (m pcap : Nat) (x y : Nat → Int) (cl kp : Int) (w : World) (hl : (len : Int) ≤ 1048576) (hc : ∀ j, (c j).code.size ≤ maxLen) (hr : CR w fa len c) (hL : ER w ea n es) (ht : ∀ j, ((es j).text.size : Int) ≤ 9223372036854775807) (hn : ∀ j, j < n → ((es j).n : Int) ≤ 1048576) (hp : PR w pa m x y) (hm : (m : Int) ≤ 1048576) :
    Calls Tryd.prog 15 #[.agg #[.slice fa len cap, .int .i64 d, .int .i64 u, .slice ea n ecap, .int .i64 hd, .slice pa m pcap, .int .i64 cl, .int .i64 kp]] w fun e w' => e = .returned (.bool (boB len c d u n es hd m x y cl kp)) ∧ Below w.heap.size w w' := by
  have HC : Hid (∀ j, (c j).code.size ≤ maxLen) := hc
  have HR : Hid (CR w fa len c) := hr
  have HL : Hid (ER w ea n es) := hL
  have HTx : Hid (∀ j, ((es j).text.size : Int) ≤ 9223372036854775807) := ht
  have HN : Hid (∀ j, j < n → ((es j).n : Int) ≤ 1048576) := hn
  have HP : Hid (PR w pa m x y) := hp
  clear hc hr hL ht hn hp
  cases h1 : leB len c d u n es hd with
  | false =>
    have HV : Hid (boB len c d u n es hd m x y cl kp = false) := by show _ = _; unfold boB; simp [h1]
    go_enter Tryd.func15, Tryd.ntmps15
    go_wp2_with (first
      | (go_at_call 41; go_loud (refine (specLedger_any _ _ _ c _ _ _ _ _ es _ _ hl HC.out (HR.out.alloc _) (HL.out.alloc _) HTx.out HN.out).mono ?_; rintro e w1 ⟨rfl, b1⟩; rw [h1]; have Xa : CB w1 w.heap.size #[.slice fa len cap, .int .i64 d, .int .i64 u, .slice ea n ecap, .int .i64 hd, .slice pa m pcap, .int .i64 cl, .int .i64 kp] 32 := (CB.new _ _).below b1 (by simp); have a0 := Xa.cell 0; have a1 := Xa.cell 1; have a2 := Xa.cell 2; have a3 := Xa.cell 3; have a4 := Xa.cell 4; have a5 := Xa.cell 5; have a6 := Xa.cell 6; have a7 := Xa.cell 7; simp at a0 a1 a2 a3 a4 a5 a6 a7; have HX1 : Hid (CB w1 w.heap.size #[.slice fa len cap, .int .i64 d, .int .i64 u, .slice ea n ecap, .int .i64 hd, .slice pa m pcap, .int .i64 cl, .int .i64 kp] 32) := Xa; have HR1 : Hid (CR w1 fa len c) := (HR.out.alloc _).below b1; have HP1 : Hid (PR w1 pa m x y) := (HP.out.alloc _).below b1; have HB1 : Hid (Below w.heap.size w w1) := bel_on ((Below.refl _ _).alloc (Nat.le_refl _) _) b1; clear b1 Xa)))
    go_returns
    exact ⟨ret_bool' HV.out, HB1.out⟩
  | true =>
  cases h2 : prB m x y with
  | false =>
    have HV : Hid (boB len c d u n es hd m x y cl kp = false) := by show _ = _; unfold boB; simp [h2]
    go_enter Tryd.func15, Tryd.ntmps15
    go_wp2_with (first
      | (go_at_call 41; go_loud (refine (specLedger_any _ _ _ c _ _ _ _ _ es _ _ hl HC.out (HR.out.alloc _) (HL.out.alloc _) HTx.out HN.out).mono ?_; rintro e w1 ⟨rfl, b1⟩; rw [h1]; have Xa : CB w1 w.heap.size #[.slice fa len cap, .int .i64 d, .int .i64 u, .slice ea n ecap, .int .i64 hd, .slice pa m pcap, .int .i64 cl, .int .i64 kp] 32 := (CB.new _ _).below b1 (by simp); have a0 := Xa.cell 0; have a1 := Xa.cell 1; have a2 := Xa.cell 2; have a3 := Xa.cell 3; have a4 := Xa.cell 4; have a5 := Xa.cell 5; have a6 := Xa.cell 6; have a7 := Xa.cell 7; simp at a0 a1 a2 a3 a4 a5 a6 a7; have HX1 : Hid (CB w1 w.heap.size #[.slice fa len cap, .int .i64 d, .int .i64 u, .slice ea n ecap, .int .i64 hd, .slice pa m pcap, .int .i64 cl, .int .i64 kp] 32) := Xa; have HR1 : Hid (CR w1 fa len c) := (HR.out.alloc _).below b1; have HP1 : Hid (PR w1 pa m x y) := (HP.out.alloc _).below b1; have HB1 : Hid (Below w.heap.size w w1) := bel_on ((Below.refl _ _).alloc (Nat.le_refl _) _) b1; clear b1 Xa))
      | (go_at_call 42; go_loud (refine (l6Year_any _ _ _ x y _ hm HP1.out).mono ?_; rintro e w2 ⟨rfl, b2⟩; rw [h2]; have Xq : CB w2 w.heap.size #[.slice fa len cap, .int .i64 d, .int .i64 u, .slice ea n ecap, .int .i64 hd, .slice pa m pcap, .int .i64 cl, .int .i64 kp] 32 := HX1.out.below b2 HX1.out.lt; have q0 := Xq.cell 0; have q1 := Xq.cell 1; have q2 := Xq.cell 2; have q3 := Xq.cell 3; have q4 := Xq.cell 4; have q5 := Xq.cell 5; have q6 := Xq.cell 6; have q7 := Xq.cell 7; simp at q0 q1 q2 q3 q4 q5 q6 q7; have HX2 : Hid (CB w2 w.heap.size #[.slice fa len cap, .int .i64 d, .int .i64 u, .slice ea n ecap, .int .i64 hd, .slice pa m pcap, .int .i64 cl, .int .i64 kp] 32) := Xq; have HR2 : Hid (CR w2 fa len c) := HR1.out.below b2; have HB2 : Hid (Below w.heap.size w w2) := bel_on HB1.out b2; clear b2 Xq)))
    go_returns
    exact ⟨ret_bool' HV.out, HB2.out⟩
  | true =>
  by_cases h3 : 0 ≤ cl ∧ cl ≤ (m : Int)
  case neg =>
    have HIN : Hid (∀ W, Calls Tryd.prog 43 #[.int .i64 cl, .int .i64 0, .int .i64 (m : Int)] W fun e w' => e = .returned (.bool false) ∧ w' = W) := fun W => in_no _ _ _ W h3
    have d3 : (decide (0 ≤ cl) && decide (cl ≤ (m : Int))) = false := by simp <;> omega
    have HV : Hid (boB len c d u n es hd m x y cl kp = false) := by show _ = _; unfold boB; rw [← Bool.and_assoc (decide (0 ≤ cl)), d3]; simp
    clear d3 h3
    go_enter Tryd.func15, Tryd.ntmps15
    go_wp2_with (first
      | (go_at_call 41; go_loud (refine (specLedger_any _ _ _ c _ _ _ _ _ es _ _ hl HC.out (HR.out.alloc _) (HL.out.alloc _) HTx.out HN.out).mono ?_; rintro e w1 ⟨rfl, b1⟩; rw [h1]; have Xa : CB w1 w.heap.size #[.slice fa len cap, .int .i64 d, .int .i64 u, .slice ea n ecap, .int .i64 hd, .slice pa m pcap, .int .i64 cl, .int .i64 kp] 32 := (CB.new _ _).below b1 (by simp); have a0 := Xa.cell 0; have a1 := Xa.cell 1; have a2 := Xa.cell 2; have a3 := Xa.cell 3; have a4 := Xa.cell 4; have a5 := Xa.cell 5; have a6 := Xa.cell 6; have a7 := Xa.cell 7; simp at a0 a1 a2 a3 a4 a5 a6 a7; have HX1 : Hid (CB w1 w.heap.size #[.slice fa len cap, .int .i64 d, .int .i64 u, .slice ea n ecap, .int .i64 hd, .slice pa m pcap, .int .i64 cl, .int .i64 kp] 32) := Xa; have HR1 : Hid (CR w1 fa len c) := (HR.out.alloc _).below b1; have HP1 : Hid (PR w1 pa m x y) := (HP.out.alloc _).below b1; have HB1 : Hid (Below w.heap.size w w1) := bel_on ((Below.refl _ _).alloc (Nat.le_refl _) _) b1; clear b1 Xa))
      | (go_at_call 42; go_loud (refine (l6Year_any _ _ _ x y _ hm HP1.out).mono ?_; rintro e w2 ⟨rfl, b2⟩; rw [h2]; have Xq : CB w2 w.heap.size #[.slice fa len cap, .int .i64 d, .int .i64 u, .slice ea n ecap, .int .i64 hd, .slice pa m pcap, .int .i64 cl, .int .i64 kp] 32 := HX1.out.below b2 HX1.out.lt; have q0 := Xq.cell 0; have q1 := Xq.cell 1; have q2 := Xq.cell 2; have q3 := Xq.cell 3; have q4 := Xq.cell 4; have q5 := Xq.cell 5; have q6 := Xq.cell 6; have q7 := Xq.cell 7; simp at q0 q1 q2 q3 q4 q5 q6 q7; have HX2 : Hid (CB w2 w.heap.size #[.slice fa len cap, .int .i64 d, .int .i64 u, .slice ea n ecap, .int .i64 hd, .slice pa m pcap, .int .i64 cl, .int .i64 kp] 32) := Xq; have HR2 : Hid (CR w2 fa len c) := HR1.out.below b2; have HB2 : Hid (Below w.heap.size w w2) := bel_on HB1.out b2; clear b2 Xq))
      | (go_at_call 43; go_loud (refine (HIN.out _).mono ?_; rintro e w3 ⟨rfl, ew⟩; replace ew := ew.symm; subst ew)))
    go_returns
    exact ⟨ret_bool' HV.out, HB2.out⟩
  have HIN : Hid (∀ W, Calls Tryd.prog 43 #[.int .i64 cl, .int .i64 0, .int .i64 (m : Int)] W fun e w' => e = .returned (.bool true) ∧ w' = W) := fun W => in_yes _ _ _ W h3.1 h3.2
  have d3 : decide (0 ≤ cl) = true := decide_eq_true h3.1
  have d4 : decide (cl ≤ (m : Int)) = true := decide_eq_true h3.2
  cases h5 : leafB len c kp with
  | false =>
    have HV : Hid (boB len c d u n es hd m x y cl kp = false) := by show _ = _; unfold boB; simp [h5]
    go_enter Tryd.func15, Tryd.ntmps15
    go_wp2_with (first
      | (go_at_call 41; go_loud (refine (specLedger_any _ _ _ c _ _ _ _ _ es _ _ hl HC.out (HR.out.alloc _) (HL.out.alloc _) HTx.out HN.out).mono ?_; rintro e w1 ⟨rfl, b1⟩; rw [h1]; have Xa : CB w1 w.heap.size #[.slice fa len cap, .int .i64 d, .int .i64 u, .slice ea n ecap, .int .i64 hd, .slice pa m pcap, .int .i64 cl, .int .i64 kp] 32 := (CB.new _ _).below b1 (by simp); have a0 := Xa.cell 0; have a1 := Xa.cell 1; have a2 := Xa.cell 2; have a3 := Xa.cell 3; have a4 := Xa.cell 4; have a5 := Xa.cell 5; have a6 := Xa.cell 6; have a7 := Xa.cell 7; simp at a0 a1 a2 a3 a4 a5 a6 a7; have HX1 : Hid (CB w1 w.heap.size #[.slice fa len cap, .int .i64 d, .int .i64 u, .slice ea n ecap, .int .i64 hd, .slice pa m pcap, .int .i64 cl, .int .i64 kp] 32) := Xa; have HR1 : Hid (CR w1 fa len c) := (HR.out.alloc _).below b1; have HP1 : Hid (PR w1 pa m x y) := (HP.out.alloc _).below b1; have HB1 : Hid (Below w.heap.size w w1) := bel_on ((Below.refl _ _).alloc (Nat.le_refl _) _) b1; clear b1 Xa))
      | (go_at_call 42; go_loud (refine (l6Year_any _ _ _ x y _ hm HP1.out).mono ?_; rintro e w2 ⟨rfl, b2⟩; rw [h2]; have Xq : CB w2 w.heap.size #[.slice fa len cap, .int .i64 d, .int .i64 u, .slice ea n ecap, .int .i64 hd, .slice pa m pcap, .int .i64 cl, .int .i64 kp] 32 := HX1.out.below b2 HX1.out.lt; have q0 := Xq.cell 0; have q1 := Xq.cell 1; have q2 := Xq.cell 2; have q3 := Xq.cell 3; have q4 := Xq.cell 4; have q5 := Xq.cell 5; have q6 := Xq.cell 6; have q7 := Xq.cell 7; simp at q0 q1 q2 q3 q4 q5 q6 q7; have HX2 : Hid (CB w2 w.heap.size #[.slice fa len cap, .int .i64 d, .int .i64 u, .slice ea n ecap, .int .i64 hd, .slice pa m pcap, .int .i64 cl, .int .i64 kp] 32) := Xq; have HR2 : Hid (CR w2 fa len c) := HR1.out.below b2; have HB2 : Hid (Below w.heap.size w w2) := bel_on HB1.out b2; clear b2 Xq))
      | (go_at_call 43; go_loud (refine (HIN.out _).mono ?_; rintro e w3 ⟨rfl, ew⟩; replace ew := ew.symm; subst ew))
      | (go_at_call 28; go_loud (refine (specLeaf_any _ _ _ c _ _ hl HC.out HR2.out).mono ?_; rintro e w4 ⟨rfl, b4⟩; rw [h5]; have Xr : CB w4 w.heap.size #[.slice fa len cap, .int .i64 d, .int .i64 u, .slice ea n ecap, .int .i64 hd, .slice pa m pcap, .int .i64 cl, .int .i64 kp] 32 := HX2.out.below b4 HX2.out.lt; have r0 := Xr.cell 0; have r1 := Xr.cell 1; have r2 := Xr.cell 2; have r3 := Xr.cell 3; have r4 := Xr.cell 4; have r5 := Xr.cell 5; have r6 := Xr.cell 6; have r7 := Xr.cell 7; simp at r0 r1 r2 r3 r4 r5 r6 r7; have HR4 : Hid (CR w4 fa len c) := HR2.out.below b4; have HB4 : Hid (Below w.heap.size w w4) := bel_on HB2.out b4; clear b4 Xr)))
    go_returns
    exact ⟨ret_bool' HV.out, HB4.out⟩
  | true =>
    have hin := leafB_in h5
    have htl := (tn_le len c).1
    obtain ⟨i, rfl⟩ : ∃ i : Nat, kp = (i : Int) := ⟨kp.toNat, by omega⟩
    have hi : i < len := by omega
    have hii : (i : Int) < (len : Int) := by omega
    obtain ⟨kb, off, rfl, hkb⟩ := HR.out.addr (by omega)
    have HV : Hid (boB len c d u n es hd m x y cl (i : Int) = ((c i).step == 3)) := by show _ = _; unfold boB; rw [h1, h2, d3, d4, h5]; simp
    clear hin htl
    go_enter Tryd.func15, Tryd.ntmps15
    go_wp2_with (first
      | (go_at_call 41; go_loud (refine (specLedger_any _ _ _ c _ _ _ _ _ es _ _ hl HC.out (HR.out.alloc _) (HL.out.alloc _) HTx.out HN.out).mono ?_; rintro e w1 ⟨rfl, b1⟩; rw [h1]; have Xa : CB w1 w.heap.size #[.slice (some ⟨kb, off, none⟩) len cap, .int .i64 d, .int .i64 u, .slice ea n ecap, .int .i64 hd, .slice pa m pcap, .int .i64 cl, .int .i64 (i : Int)] 32 := (CB.new _ _).below b1 (by simp); have a0 := Xa.cell 0; have a1 := Xa.cell 1; have a2 := Xa.cell 2; have a3 := Xa.cell 3; have a4 := Xa.cell 4; have a5 := Xa.cell 5; have a6 := Xa.cell 6; have a7 := Xa.cell 7; simp at a0 a1 a2 a3 a4 a5 a6 a7; have HX1 : Hid (CB w1 w.heap.size #[.slice (some ⟨kb, off, none⟩) len cap, .int .i64 d, .int .i64 u, .slice ea n ecap, .int .i64 hd, .slice pa m pcap, .int .i64 cl, .int .i64 (i : Int)] 32) := Xa; have HR1 : Hid (CR w1 (some ⟨kb, off, none⟩) len c) := (HR.out.alloc _).below b1; have HP1 : Hid (PR w1 pa m x y) := (HP.out.alloc _).below b1; have HB1 : Hid (Below w.heap.size w w1) := bel_on ((Below.refl _ _).alloc (Nat.le_refl _) _) b1; clear b1 Xa))
      | (go_at_call 42; go_loud (refine (l6Year_any _ _ _ x y _ hm HP1.out).mono ?_; rintro e w2 ⟨rfl, b2⟩; rw [h2]; have Xq : CB w2 w.heap.size #[.slice (some ⟨kb, off, none⟩) len cap, .int .i64 d, .int .i64 u, .slice ea n ecap, .int .i64 hd, .slice pa m pcap, .int .i64 cl, .int .i64 (i : Int)] 32 := HX1.out.below b2 HX1.out.lt; have q0 := Xq.cell 0; have q1 := Xq.cell 1; have q2 := Xq.cell 2; have q3 := Xq.cell 3; have q4 := Xq.cell 4; have q5 := Xq.cell 5; have q6 := Xq.cell 6; have q7 := Xq.cell 7; simp at q0 q1 q2 q3 q4 q5 q6 q7; have HX2 : Hid (CB w2 w.heap.size #[.slice (some ⟨kb, off, none⟩) len cap, .int .i64 d, .int .i64 u, .slice ea n ecap, .int .i64 hd, .slice pa m pcap, .int .i64 cl, .int .i64 (i : Int)] 32) := Xq; have HR2 : Hid (CR w2 (some ⟨kb, off, none⟩) len c) := HR1.out.below b2; have HB2 : Hid (Below w.heap.size w w2) := bel_on HB1.out b2; clear b2 Xq))
      | (go_at_call 43; go_loud (refine (HIN.out _).mono ?_; rintro e w3 ⟨rfl, ew⟩; replace ew := ew.symm; subst ew))
      | (go_at_call 28; go_loud (refine (specLeaf_any _ _ _ c _ _ hl HC.out HR2.out).mono ?_; rintro e w4 ⟨rfl, b4⟩; rw [h5]; have Xr : CB w4 w.heap.size #[.slice (some ⟨kb, off, none⟩) len cap, .int .i64 d, .int .i64 u, .slice ea n ecap, .int .i64 hd, .slice pa m pcap, .int .i64 cl, .int .i64 (i : Int)] 32 := HX2.out.below b4 HX2.out.lt; have r0 := Xr.cell 0; have r1 := Xr.cell 1; have r2 := Xr.cell 2; have r3 := Xr.cell 3; have r4 := Xr.cell 4; have r5 := Xr.cell 5; have r6 := Xr.cell 6; have r7 := Xr.cell 7; simp at r0 r1 r2 r3 r4 r5 r6 r7; have HR4 : Hid (CR w4 (some ⟨kb, off, none⟩) len c) := HR2.out.below b4; have HB4 : Hid (Below w.heap.size w w4) := bel_on HB2.out b4; obtain ⟨y1, y2, y3⟩ := HR4.out.cell hi; clear b4 Xr)))
    go_returns
    exact ⟨ret_bool' HV.out, HB4.out⟩

end Go.Proofs.YtapailihjlfkgaaDoor
