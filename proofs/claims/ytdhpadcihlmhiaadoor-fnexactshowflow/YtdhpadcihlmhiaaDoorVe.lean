/- The contract of the model's ShowMoney: an amount with places is the text 'showI'; what is no amount, or no number of places, is the empty text. -/
import Derived.Test.YtdhpadcihlmhiaaDoorVd
namespace Go.Proofs.YtdhpadcihlmhiaaDoor.Mny
open Go.ChangeShapes Go.WideShapes Go.ChangeAt Go.RowKit
set_option linter.unusedVariables false
set_option linter.unusedSimpArgs false
open Go.Lib

theorem text_ex (x : Int) (w : World) (h0 : 0 ≤ x) (h1 : x ≤ 200000000000) :
    Calls Tryd.prog 52 #[.int .i64 x] w fun e w' => ∃ (B : ByteArray) (q : Nat), e = .returned (.string B) ∧ Hid (B = str (decDigits x.toNat)) ∧ 1 ≤ B.size ∧ B.size ≤ 100 ∧ w' = w.drewN q := by
  have := text_any x.toNat w (by omega)
  rw [show ((x.toNat : Nat) : Int) = x by omega] at this
  refine this.mono ?_
  rintro e w' ⟨rfl, q, rfl⟩
  have l1 := dec_len_le x.toNat (by omega)
  have l2 : 1 ≤ (decDigits x.toNat).length := by
    cases e : decDigits x.toNat with
    | nil => exact absurd e (dec_ne _)
    | cons => simp
  exact ⟨_, q, rfl, rfl, by rw [str_size]; exact l2, by rw [str_size]; omega, rfl⟩

theorem str_drop (l : List UInt8) (n : Nat) (h : n = (str l).size) : (str l).extract 1 n = str (l.drop 1) := by
  subst h
  apply ByteArray.ext
  apply Array.toList_inj.mp
  rw [extract_data, str_size]
  show ((str l).data.toList.drop 1).take (l.length - 1) = (l.drop 1)
  have : (str l).data.toList = l := by simp [str]
  rw [this, List.take_of_length_le (by simp)]

theorem show_close (a : Int) (p : Nat) (T : Int) (hT : T = ((10 ^ p : Nat) : Int)) (h0 : 0 ≤ a) (hp : p ≠ 0) {A B : ByteArray} (hA : A = str (decDigits (a / T).toNat)) (hB : B = str (decDigits (T + a % T).toNat)) :
    A ++ (⟨#[46]⟩ : ByteArray) ++ B.extract 1 B.size = str (showL a.toNat p) := by
  subst hA hB
  rw [str_drop _ _ rfl]
  have e46 : (⟨#[46]⟩ : ByteArray) = str [46] := rfl
  rw [e46, str_append, str_append]
  unfold showL
  rw [if_neg hp]
  have hpos : 0 < 10 ^ p := Nat.pos_of_ne_zero (by simp)
  obtain ⟨m, hm⟩ : ∃ m : Nat, a = (m : Int) := ⟨a.toNat, by omega⟩
  subst hm hT
  have e1 : ((m : Int) / ((10 ^ p : Nat) : Int)).toNat = m / 10 ^ p := by rw [← Int.natCast_ediv]; exact Int.toNat_natCast _
  have e2 : (((10 ^ p : Nat) : Int) + (m : Int) % ((10 ^ p : Nat) : Int)).toNat = 10 ^ p + m % 10 ^ p := by rw [← Int.natCast_emod, ← Int.natCast_add]; exact Int.toNat_natCast _
  rw [e1, e2, Int.toNat_natCast]
  simp

theorem show_close0 (a : Int) (h0 : 0 ≤ a) {A : ByteArray} (hA : A = str (decDigits a.toNat)) : A = str (showL a.toNat 0) := by
  subst hA; unfold showL; simp

set_option maxRecDepth 20000 in
set_option maxHeartbeats 2000000 in
theorem show_pos0 (a : Int) (w : World) (h0 : 0 ≤ a) (h1 : a ≤ 100000000000) :
    Calls Tryd.prog 112 #[.int .i64 a, .int .i64 0] w fun e w' => e = .returned (.string (str (showL a.toNat 0))) ∧ ∃ q, w' = w.drewN q := by
  go_enter Tryd.func112, Tryd.ntmps112
  go_wp2_with (first | (go_at_call 52; refine (text_ex _ _ (by omega) (by omega)).mono ?_; rintro e w' ⟨A, q, rfl, HA, a1, a2, rfl⟩) | (go_at_call 134; refine (ten_any 0 _ (by omega)).mono ?_; rintro e w' ⟨rfl, rfl⟩) | (go_at_call 89; go_in) | (go_at_call 51; go_in))
  go_returns
  exact ⟨ret_str (show_close0 a h0 HA.out), _, rfl⟩

set_option maxRecDepth 20000 in
set_option maxHeartbeats 2000000 in
theorem show_pos1 (a : Int) (w : World) (h0 : 0 ≤ a) (h1 : a ≤ 100000000000) :
    Calls Tryd.prog 112 #[.int .i64 a, .int .i64 1] w fun e w' => e = .returned (.string (str (showL a.toNat 1))) ∧ ∃ q, w' = w.drewN q := by
  have tok1 : True := trivial
  go_enter Tryd.func112, Tryd.ntmps112
  go_wp2_with (first | (go_at_call 52; have _t := tok1; refine (text_ex _ _ (by omega) (by omega)).mono ?_; rintro e w' ⟨A, q, rfl, HA, a1, a2, rfl⟩; clear tok1) | (go_at_call 52; refine (text_ex _ _ (by omega) (by omega)).mono ?_; rintro e w' ⟨B, q2, rfl, HB, b1, b2, rfl⟩) | (go_at_call 134; refine (ten_any 1 _ (by omega)).mono ?_; rintro e w' ⟨rfl, rfl⟩) | (go_at_call 89; go_in) | (go_at_call 51; go_in))
  go_returns
  exact ⟨ret_str (show_close a 1 10 (by decide) h0 (by decide) HA.out HB.out), _, rfl⟩

set_option maxRecDepth 20000 in
set_option maxHeartbeats 2000000 in
theorem show_pos2 (a : Int) (w : World) (h0 : 0 ≤ a) (h1 : a ≤ 100000000000) :
    Calls Tryd.prog 112 #[.int .i64 a, .int .i64 2] w fun e w' => e = .returned (.string (str (showL a.toNat 2))) ∧ ∃ q, w' = w.drewN q := by
  have tok1 : True := trivial
  go_enter Tryd.func112, Tryd.ntmps112
  go_wp2_with (first | (go_at_call 52; have _t := tok1; refine (text_ex _ _ (by omega) (by omega)).mono ?_; rintro e w' ⟨A, q, rfl, HA, a1, a2, rfl⟩; clear tok1) | (go_at_call 52; refine (text_ex _ _ (by omega) (by omega)).mono ?_; rintro e w' ⟨B, q2, rfl, HB, b1, b2, rfl⟩) | (go_at_call 134; refine (ten_any 2 _ (by omega)).mono ?_; rintro e w' ⟨rfl, rfl⟩) | (go_at_call 89; go_in) | (go_at_call 51; go_in))
  go_returns
  exact ⟨ret_str (show_close a 2 100 (by decide) h0 (by decide) HA.out HB.out), _, rfl⟩

set_option maxRecDepth 20000 in
set_option maxHeartbeats 2000000 in
theorem show_pos3 (a : Int) (w : World) (h0 : 0 ≤ a) (h1 : a ≤ 100000000000) :
    Calls Tryd.prog 112 #[.int .i64 a, .int .i64 3] w fun e w' => e = .returned (.string (str (showL a.toNat 3))) ∧ ∃ q, w' = w.drewN q := by
  have tok1 : True := trivial
  go_enter Tryd.func112, Tryd.ntmps112
  go_wp2_with (first | (go_at_call 52; have _t := tok1; refine (text_ex _ _ (by omega) (by omega)).mono ?_; rintro e w' ⟨A, q, rfl, HA, a1, a2, rfl⟩; clear tok1) | (go_at_call 52; refine (text_ex _ _ (by omega) (by omega)).mono ?_; rintro e w' ⟨B, q2, rfl, HB, b1, b2, rfl⟩) | (go_at_call 134; refine (ten_any 3 _ (by omega)).mono ?_; rintro e w' ⟨rfl, rfl⟩) | (go_at_call 89; go_in) | (go_at_call 51; go_in))
  go_returns
  exact ⟨ret_str (show_close a 3 1000 (by decide) h0 (by decide) HA.out HB.out), _, rfl⟩

set_option maxRecDepth 20000 in
set_option maxHeartbeats 2000000 in
theorem show_pos4 (a : Int) (w : World) (h0 : 0 ≤ a) (h1 : a ≤ 100000000000) :
    Calls Tryd.prog 112 #[.int .i64 a, .int .i64 4] w fun e w' => e = .returned (.string (str (showL a.toNat 4))) ∧ ∃ q, w' = w.drewN q := by
  have tok1 : True := trivial
  go_enter Tryd.func112, Tryd.ntmps112
  go_wp2_with (first | (go_at_call 52; have _t := tok1; refine (text_ex _ _ (by omega) (by omega)).mono ?_; rintro e w' ⟨A, q, rfl, HA, a1, a2, rfl⟩; clear tok1) | (go_at_call 52; refine (text_ex _ _ (by omega) (by omega)).mono ?_; rintro e w' ⟨B, q2, rfl, HB, b1, b2, rfl⟩) | (go_at_call 134; refine (ten_any 4 _ (by omega)).mono ?_; rintro e w' ⟨rfl, rfl⟩) | (go_at_call 89; go_in) | (go_at_call 51; go_in))
  go_returns
  exact ⟨ret_str (show_close a 4 10000 (by decide) h0 (by decide) HA.out HB.out), _, rfl⟩

set_option maxRecDepth 20000 in
set_option maxHeartbeats 2000000 in
theorem show_pos5 (a : Int) (w : World) (h0 : 0 ≤ a) (h1 : a ≤ 100000000000) :
    Calls Tryd.prog 112 #[.int .i64 a, .int .i64 5] w fun e w' => e = .returned (.string (str (showL a.toNat 5))) ∧ ∃ q, w' = w.drewN q := by
  have tok1 : True := trivial
  go_enter Tryd.func112, Tryd.ntmps112
  go_wp2_with (first | (go_at_call 52; have _t := tok1; refine (text_ex _ _ (by omega) (by omega)).mono ?_; rintro e w' ⟨A, q, rfl, HA, a1, a2, rfl⟩; clear tok1) | (go_at_call 52; refine (text_ex _ _ (by omega) (by omega)).mono ?_; rintro e w' ⟨B, q2, rfl, HB, b1, b2, rfl⟩) | (go_at_call 134; refine (ten_any 5 _ (by omega)).mono ?_; rintro e w' ⟨rfl, rfl⟩) | (go_at_call 89; go_in) | (go_at_call 51; go_in))
  go_returns
  exact ⟨ret_str (show_close a 5 100000 (by decide) h0 (by decide) HA.out HB.out), _, rfl⟩

set_option maxRecDepth 20000 in
set_option maxHeartbeats 2000000 in
theorem show_pos6 (a : Int) (w : World) (h0 : 0 ≤ a) (h1 : a ≤ 100000000000) :
    Calls Tryd.prog 112 #[.int .i64 a, .int .i64 6] w fun e w' => e = .returned (.string (str (showL a.toNat 6))) ∧ ∃ q, w' = w.drewN q := by
  have tok1 : True := trivial
  go_enter Tryd.func112, Tryd.ntmps112
  go_wp2_with (first | (go_at_call 52; have _t := tok1; refine (text_ex _ _ (by omega) (by omega)).mono ?_; rintro e w' ⟨A, q, rfl, HA, a1, a2, rfl⟩; clear tok1) | (go_at_call 52; refine (text_ex _ _ (by omega) (by omega)).mono ?_; rintro e w' ⟨B, q2, rfl, HB, b1, b2, rfl⟩) | (go_at_call 134; refine (ten_any 6 _ (by omega)).mono ?_; rintro e w' ⟨rfl, rfl⟩) | (go_at_call 89; go_in) | (go_at_call 51; go_in))
  go_returns
  exact ⟨ret_str (show_close a 6 1000000 (by decide) h0 (by decide) HA.out HB.out), _, rfl⟩

theorem show_pos (a : Int) (p : Nat) (w : World) (h0 : 0 ≤ a) (h1 : a ≤ 100000000000) (hp : p ≤ 6) :
    Calls Tryd.prog 112 #[.int .i64 a, .int .i64 (p : Int)] w fun e w' => e = .returned (.string (str (showL a.toNat p))) ∧ ∃ q, w' = w.drewN q := by
  rcases (show p = 0 ∨ p = 1 ∨ p = 2 ∨ p = 3 ∨ p = 4 ∨ p = 5 ∨ p = 6 by omega) with rfl | rfl | rfl | rfl | rfl | rfl | rfl
  · exact show_pos0 a w h0 h1
  · exact show_pos1 a w h0 h1
  · exact show_pos2 a w h0 h1
  · exact show_pos3 a w h0 h1
  · exact show_pos4 a w h0 h1
  · exact show_pos5 a w h0 h1
  · exact show_pos6 a w h0 h1

theorem showL_len (a p : Nat) (ha : a ≤ 100000000000) (hp : p ≤ 6) : (showL a p).length ≤ 100 := by
  unfold showL
  have l1 := dec_len_le (a / 10 ^ p) (Nat.lt_of_le_of_lt (Nat.div_le_self _ _) (by omega))
  have hpos : 0 < 10 ^ p := Nat.pos_of_ne_zero (by simp)
  have h2 : 10 ^ p ≤ 10 ^ 6 := Nat.pow_le_pow_right (by omega) hp
  have h3 := Nat.mod_lt a hpos
  have l2 := dec_len_le (10 ^ p + a % 10 ^ p) (by omega)
  rw [List.length_append]
  split
  · simp; omega
  · simp; omega

theorem show_neg (a : Int) (p : Nat) (w : World) (h0 : a < 0) (h1 : -100000000000 ≤ a) (hp : p ≤ 6) :
    Calls Tryd.prog 112 #[.int .i64 a, .int .i64 (p : Int)] w fun e w' => e = .returned (.string (str (45 :: showL (-a).toNat p))) ∧ ∃ q, w' = w.drewN q := by
  have hrec : ∀ w : World, Calls Tryd.prog 112 #[.int .i64 (-a), .int .i64 (p : Int)] w fun e w' => ∃ (B : ByteArray) (q : Nat), e = .returned (.string B) ∧ Hid (B = str (showL (-a).toNat p)) ∧ B.size ≤ 100 ∧ w' = w.drewN q := by
    intro w
    refine (show_pos (-a) p w (by omega) (by omega) hp).mono ?_
    rintro e w' ⟨rfl, q, rfl⟩
    exact ⟨_, q, rfl, rfl, by rw [str_size]; exact showL_len _ _ (by omega) hp, rfl⟩
  have HR : Hid (∀ w : World, Calls Tryd.prog 112 #[.int .i64 (-a), .int .i64 (p : Int)] w fun e w' => ∃ (B : ByteArray) (q : Nat), e = .returned (.string B) ∧ Hid (B = str (showL (-a).toNat p)) ∧ B.size ≤ 100 ∧ w' = w.drewN q) := hrec
  obtain ⟨P, hP⟩ : ∃ P : Int, P = (p : Int) := ⟨_, rfl⟩
  rw [← hP] at HR ⊢
  have p0 : 0 ≤ P := by omega
  have p6 : P ≤ 6 := by omega
  clear hrec hP hp
  go_enter Tryd.func112, Tryd.ntmps112
  go_wp2_with (first | (go_at_call 112; refine (HR.out _).mono ?_; rintro e w' ⟨B, q, rfl, HB, b1, rfl⟩) | (go_at_call 89; go_in) | (go_at_call 51; go_in))
  go_returns
  refine ⟨ret_str ?_, _, rfl⟩
  rw [HB.out]
  exact str_append [45] _

theorem show_any (a : Int) (p : Nat) (w : World) (h0 : -100000000000 ≤ a) (h1 : a ≤ 100000000000) (hp : p ≤ 6) :
    Calls Tryd.prog 112 #[.int .i64 a, .int .i64 (p : Int)] w fun e w' => e = .returned (.string (str (showI (decide (a < 0)) a.natAbs p))) ∧ ∃ q, w' = w.drewN q := by
  by_cases h : a < 0
  · have e : showI (decide (a < 0)) a.natAbs p = 45 :: showL (-a).toNat p := by
      unfold showI; rw [decide_eq_true h, if_pos rfl, show a.natAbs = (-a).toNat by omega]
    rw [e]; exact show_neg a p w h h0 hp
  · have e : showI (decide (a < 0)) a.natAbs p = showL a.toNat p := by
      unfold showI; rw [decide_eq_false h, if_neg (by simp), show a.natAbs = a.toNat by omega]
    rw [e]; exact show_pos a p w (by omega) h1 hp

end Go.Proofs.YtdhpadcihlmhiaaDoor.Mny
