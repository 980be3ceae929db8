/- The contract of the program's ShowMoney: an amount with places is the text 'showI'; else the empty text; nothing that was there is written. -/
import Derived.Test.YtdhpadcihlmhiaaDoorVg
namespace Go.Proofs.YtdhpadcihlmhiaaDoor.Mny
open Go.ChangeShapes Go.WideShapes Go.ChangeAt Go.RowKit
set_option linter.unusedVariables false
set_option linter.unusedSimpArgs false
open Go.Lib

theorem minus_add (l : List UInt8) : (⟨#[45]⟩ : ByteArray) ++ str l = str (45 :: l) := str_append [45] l

set_option maxRecDepth 20000 in
set_option maxHeartbeats 2000000 in
theorem implShow_pos (a P : Int) (p : Nat) (w : World) (h0 : 0 ≤ a) (h1 : a ≤ 100000000000) (hP : P = (p : Int)) (P1 : 1 ≤ P) (P6 : P ≤ 6) (htab : Lib.TabIs Tryd.prog w "internal/strconv.uint64pow10" .u64 Lib.pow10Tab) :
    Calls Tryd.prog 109 #[.int .i64 a, .int .i64 P] w fun e w' => e = .returned (.string (str (showL a.toNat p))) ∧ Below w.heap.size w w' := by
  have HP : Hid (P = (p : Int)) := hP
  have HT : Hid (Lib.TabIs Tryd.prog w "internal/strconv.uint64pow10" .u64 Lib.pow10Tab) := htab
  have eP : (P == 0) = false := by simp; omega
  clear hP htab
  go_enter Tryd.func109, Tryd.ntmps109
  go_wp2_with (first | (go_at_call 92; go_in) | (go_at_call 132; go_in) | (go_at_call 126; refine (itoa_ex _ _ (by omega) (by omega) HT.out).mono ?_; rintro e w1 ⟨A, rfl, HA, a1, a2, b1⟩; have B1 : Hid (Below w.heap.size w w1) := b1; clear b1) | (go_at_call 127; refine (repeat_ex _ _ (by omega) (by omega)).mono ?_; rintro e w2 ⟨Z, rfl, HZ, z1, b2⟩; have B2 : Hid (Below w.heap.size w w2) := B1.out.trans (b2.mono B1.out.size); clear b2))
  · have hP1 : P + 1 - P = 1 := by omega
    have hs1 : (1 : Int) ≤ ((Z ++ A).size : Int) := by rw [ByteArray.size_append]; omega
    have hs2 : ((Z ++ A).size : Int) ≤ 30 := by rw [ByteArray.size_append]; omega
    have HS : Hid (((Z ++ A).size : Int) = P + 1) := by unfold Hid; rw [ByteArray.size_append]; omega
    have HZ1 : Hid ((Z.size : Int) = P + 1 - (A.size : Int)) := z1
    have HD : Hid ((Z ++ A).data.toList = padL a.toNat p) := pad_of HA.out HZ.out (by rw [← HP.out])
    clear z1
    obtain ⟨Dg, hDg⟩ : ∃ Dg, Z ++ A = Dg := ⟨_, rfl⟩
    rw [hDg] at hs1 hs2 HS HD ⊢
    clear hDg
    go_quiet (fail)
    go_wp2
    go_returns
    exact ⟨ret_str ((pieces ⟨#[]⟩ Dg a.toNat p 1 HD.out (by have := HS.out; have := HP.out; omega) (by have := HP.out; omega)).trans (empty_add _)), below_drewN B2.out _⟩
  · obtain ⟨n, hn⟩ : ∃ n : Nat, (A.size : Int) - P = (n : Int) := ⟨((A.size : Int) - P).toNat, by omega⟩
    have hnl : n ≤ A.size := by omega
    have HN : Hid ((A.size : Int) - P = (n : Int)) := hn
    have HD : Hid (A.data.toList = padL a.toNat p) := pad_none HA.out (by rw [← HP.out]; omega)
    go_quiet (fail)
    go_wp2
    go_returns
    exact ⟨ret_str ((pieces ⟨#[]⟩ A a.toNat p n HD.out (by have := HN.out; have := HP.out; omega) (by have := HP.out; omega)).trans (empty_add _)), below_drewN B1.out _⟩

set_option maxRecDepth 20000 in
set_option maxHeartbeats 2000000 in
theorem implShow_neg (a P : Int) (p : Nat) (w : World) (h0 : a < 0) (h1 : -100000000000 ≤ a) (hP : P = (p : Int)) (P1 : 1 ≤ P) (P6 : P ≤ 6) (htab : Lib.TabIs Tryd.prog w "internal/strconv.uint64pow10" .u64 Lib.pow10Tab) :
    Calls Tryd.prog 109 #[.int .i64 a, .int .i64 P] w fun e w' => e = .returned (.string (str (45 :: showL (-a).toNat p))) ∧ Below w.heap.size w w' := by
  have HP : Hid (P = (p : Int)) := hP
  have HT : Hid (Lib.TabIs Tryd.prog w "internal/strconv.uint64pow10" .u64 Lib.pow10Tab) := htab
  have eP : (P == 0) = false := by simp; omega
  clear hP htab
  go_enter Tryd.func109, Tryd.ntmps109
  go_wp2_with (first | (go_at_call 92; go_in) | (go_at_call 132; go_in) | (go_at_call 126; refine (itoa_ex _ _ (by omega) (by omega) HT.out).mono ?_; rintro e w1 ⟨A, rfl, HA, a1, a2, b1⟩; have B1 : Hid (Below w.heap.size w w1) := b1; clear b1) | (go_at_call 127; refine (repeat_ex _ _ (by omega) (by omega)).mono ?_; rintro e w2 ⟨Z, rfl, HZ, z1, b2⟩; have B2 : Hid (Below w.heap.size w w2) := B1.out.trans (b2.mono B1.out.size); clear b2))
  · have hP1 : P + 1 - P = 1 := by omega
    have hs1 : (1 : Int) ≤ ((Z ++ A).size : Int) := by rw [ByteArray.size_append]; omega
    have hs2 : ((Z ++ A).size : Int) ≤ 30 := by rw [ByteArray.size_append]; omega
    have HS : Hid (((Z ++ A).size : Int) = P + 1) := by unfold Hid; rw [ByteArray.size_append]; omega
    have HZ1 : Hid ((Z.size : Int) = P + 1 - (A.size : Int)) := z1
    have HD : Hid ((Z ++ A).data.toList = padL (-a).toNat p) := pad_of HA.out HZ.out (by rw [← HP.out])
    clear z1
    obtain ⟨Dg, hDg⟩ : ∃ Dg, Z ++ A = Dg := ⟨_, rfl⟩
    rw [hDg] at hs1 hs2 HS HD ⊢
    clear hDg
    go_quiet (fail)
    go_wp2
    go_returns
    exact ⟨ret_str ((pieces ⟨#[45]⟩ Dg (-a).toNat p 1 HD.out (by have := HS.out; have := HP.out; omega) (by have := HP.out; omega)).trans (minus_add _)), below_drewN B2.out _⟩
  · obtain ⟨n, hn⟩ : ∃ n : Nat, (A.size : Int) - P = (n : Int) := ⟨((A.size : Int) - P).toNat, by omega⟩
    have hnl : n ≤ A.size := by omega
    have HN : Hid ((A.size : Int) - P = (n : Int)) := hn
    have HD : Hid (A.data.toList = padL (-a).toNat p) := pad_none HA.out (by rw [← HP.out]; omega)
    go_quiet (fail)
    go_wp2
    go_returns
    exact ⟨ret_str ((pieces ⟨#[45]⟩ A (-a).toNat p n HD.out (by have := HN.out; have := HP.out; omega) (by have := HP.out; omega)).trans (minus_add _)), below_drewN B1.out _⟩

set_option maxRecDepth 20000 in
set_option maxHeartbeats 2000000 in
theorem implShow_pos0 (a : Int) (w : World) (h0 : 0 ≤ a) (h1 : a ≤ 100000000000) (htab : Lib.TabIs Tryd.prog w "internal/strconv.uint64pow10" .u64 Lib.pow10Tab) :
    Calls Tryd.prog 109 #[.int .i64 a, .int .i64 0] w fun e w' => e = .returned (.string (str (showL a.toNat 0))) ∧ Below w.heap.size w w' := by
  have HT : Hid (Lib.TabIs Tryd.prog w "internal/strconv.uint64pow10" .u64 Lib.pow10Tab) := htab
  clear htab
  go_enter Tryd.func109, Tryd.ntmps109
  go_wp2_with (first | (go_at_call 92; go_in) | (go_at_call 132; go_in) | (go_at_call 126; refine (itoa_ex _ _ (by omega) (by omega) HT.out).mono ?_; rintro e w1 ⟨A, rfl, HA, a1, a2, b1⟩; have B1 : Hid (Below w.heap.size w w1) := b1; clear b1) | (go_at_call 127; refine (repeat_ex _ _ (by omega) (by omega)).mono ?_; rintro e w2 ⟨Z, rfl, HZ, z1, b2⟩; have B2 : Hid (Below w.heap.size w w2) := B1.out.trans (b2.mono B1.out.size); clear b2))
  go_returns
  have hD := pad_none (p := 0) HA.out (by omega)
  rw [padL_zero] at hD
  have e : A = str (showL a.toNat 0) := by rw [← hD]; apply ByteArray.ext; simp [str]
  exact ⟨ret_str (by rw [e]; exact (empty_add _)), B1.out⟩

set_option maxRecDepth 20000 in
set_option maxHeartbeats 2000000 in
theorem implShow_neg0 (a : Int) (w : World) (h0 : a < 0) (h1 : -100000000000 ≤ a) (htab : Lib.TabIs Tryd.prog w "internal/strconv.uint64pow10" .u64 Lib.pow10Tab) :
    Calls Tryd.prog 109 #[.int .i64 a, .int .i64 0] w fun e w' => e = .returned (.string (str (45 :: showL (-a).toNat 0))) ∧ Below w.heap.size w w' := by
  have HT : Hid (Lib.TabIs Tryd.prog w "internal/strconv.uint64pow10" .u64 Lib.pow10Tab) := htab
  clear htab
  go_enter Tryd.func109, Tryd.ntmps109
  go_wp2_with (first | (go_at_call 92; go_in) | (go_at_call 132; go_in) | (go_at_call 126; refine (itoa_ex _ _ (by omega) (by omega) HT.out).mono ?_; rintro e w1 ⟨A, rfl, HA, a1, a2, b1⟩; have B1 : Hid (Below w.heap.size w w1) := b1; clear b1) | (go_at_call 127; refine (repeat_ex _ _ (by omega) (by omega)).mono ?_; rintro e w2 ⟨Z, rfl, HZ, z1, b2⟩; have B2 : Hid (Below w.heap.size w w2) := B1.out.trans (b2.mono B1.out.size); clear b2))
  go_returns
  have hD := pad_none (p := 0) HA.out (by omega)
  rw [padL_zero] at hD
  have e : A = str (showL (-a).toNat 0) := by rw [← hD]; apply ByteArray.ext; simp [str]
  exact ⟨ret_str (by rw [e]; exact (minus_add _)), B1.out⟩

/-- What ShowMoney answers. -/
def smL (a P : Int) : List UInt8 := if -100000000000 ≤ a ∧ a ≤ 100000000000 ∧ 0 ≤ P ∧ P ≤ 6 then showI (decide (a < 0)) a.natAbs P.toNat else []

theorem sm_ok {a P : Int} (h : -100000000000 ≤ a ∧ a ≤ 100000000000 ∧ 0 ≤ P ∧ P ≤ 6) : smL a P = showI (decide (a < 0)) a.natAbs P.toNat := if_pos h
theorem sm_bad {a P : Int} (h : ¬ (-100000000000 ≤ a ∧ a ≤ 100000000000 ∧ 0 ≤ P ∧ P ≤ 6)) : smL a P = [] := if_neg h
theorem showI_pos {a : Int} {p : Nat} (h : 0 ≤ a) : showI (decide (a < 0)) a.natAbs p = showL a.toNat p := by
  unfold showI; rw [decide_eq_false (by omega), if_neg (by simp), show a.natAbs = a.toNat by omega]
theorem showI_neg {a : Int} {p : Nat} (h : a < 0) : showI (decide (a < 0)) a.natAbs p = 45 :: showL (-a).toNat p := by
  unfold showI; rw [decide_eq_true h, if_pos rfl, show a.natAbs = (-a).toNat by omega]

set_option maxRecDepth 20000 in
theorem implShow_bad (a P : Int) (w : World) (h : ¬ (-100000000000 ≤ a ∧ a ≤ 100000000000 ∧ 0 ≤ P ∧ P ≤ 6)) :
    Calls Tryd.prog 109 #[.int .i64 a, .int .i64 P] w fun e w' => e = .returned (.string (str [])) ∧ Below w.heap.size w w' := by
  rcases (show a < -100000000000 ∨ (-100000000000 ≤ a ∧ 100000000000 < a) ∨ ((-100000000000 ≤ a ∧ a ≤ 100000000000) ∧ (P < 0 ∨ (0 ≤ P ∧ 6 < P))) by omega) with g | ⟨g1, g2⟩ | ⟨⟨g1, g2⟩, g | ⟨g3, g4⟩⟩
  all_goals
    clear h
    try have q1 : decide (a ≤ 100000000000) = false := decide_eq_false (by omega)
    try have q2 : decide (P ≤ 6) = false := decide_eq_false (by omega)
    go_enter Tryd.func109, Tryd.ntmps109
    go_wp2_with (first | (go_at_call 92; go_in) | (go_at_call 132; go_in))
    go_returns
    exact ⟨rfl, Below.refl _ _⟩

theorem implShow_any (a P : Int) (w : World) (htab : Lib.TabIs Tryd.prog w "internal/strconv.uint64pow10" .u64 Lib.pow10Tab) :
    Calls Tryd.prog 109 #[.int .i64 a, .int .i64 P] w fun e w' => e = .returned (.string (str (smL a P))) ∧ Below w.heap.size w w' := by
  by_cases h : -100000000000 ≤ a ∧ a ≤ 100000000000 ∧ 0 ≤ P ∧ P ≤ 6
  · rw [sm_ok h]
    obtain ⟨h1, h2, h3, h4⟩ := h
    by_cases hp : P = 0
    · subst hp
      by_cases ha : a < 0
      · rw [showI_neg ha]; exact implShow_neg0 a w ha h1 htab
      · rw [showI_pos (by omega)]; exact implShow_pos0 a w (by omega) h2 htab
    · by_cases ha : a < 0
      · rw [showI_neg ha]; exact implShow_neg a P P.toNat w ha h1 (by omega) (by omega) h4 htab
      · rw [showI_pos (by omega)]; exact implShow_pos a P P.toNat w (by omega) h2 (by omega) (by omega) h4 htab
  · rw [sm_bad h]; exact implShow_bad a P w h

set_option maxRecDepth 20000 in
theorem specShow_bad (a P : Int) (w : World) (h : ¬ (-100000000000 ≤ a ∧ a ≤ 100000000000 ∧ 0 ≤ P ∧ P ≤ 6)) :
    Calls Tryd.prog 112 #[.int .i64 a, .int .i64 P] w fun e w' => e = .returned (.string (str [])) ∧ ∃ q, w' = w.drewN q := by
  rcases (show a < -100000000000 ∨ (-100000000000 ≤ a ∧ 100000000000 < a) ∨ ((-100000000000 ≤ a ∧ a ≤ 100000000000) ∧ (P < 0 ∨ (0 ≤ P ∧ 6 < P))) by omega) with g | ⟨g1, g2⟩ | ⟨⟨g1, g2⟩, g | ⟨g3, g4⟩⟩
  all_goals
    clear h
    try have q1 : decide (a ≤ 100000000000) = false := decide_eq_false (by omega)
    try have q2 : decide (P ≤ 6) = false := decide_eq_false (by omega)
    go_enter Tryd.func112, Tryd.ntmps112
    go_wp2_with (first | (go_at_call 89; go_in) | (go_at_call 51; go_in))
    go_returns
    exact ⟨rfl, 0, rfl⟩

theorem specShow_any (a P : Int) (w : World) :
    Calls Tryd.prog 112 #[.int .i64 a, .int .i64 P] w fun e w' => e = .returned (.string (str (smL a P))) ∧ ∃ q, w' = w.drewN q := by
  by_cases h : -100000000000 ≤ a ∧ a ≤ 100000000000 ∧ 0 ≤ P ∧ P ≤ 6
  · rw [sm_ok h]
    have := show_any a P.toNat w h.1 h.2.1 (by omega)
    rwa [show ((P.toNat : Nat) : Int) = P by omega] at this
  · rw [sm_bad h]; exact specShow_bad a P w h

end Go.Proofs.YtdhpadcihlmhiaaDoor.Mny
