/- The contract of the model's ReadMoney: at every text of at most 20 bytes it answers 'rmN' and 'rmB'. -/
import Derived.Test.YtipdcegbfhokfaaRd
import Derived.Test.YtipdcegbfhokfaaSh
namespace Go.Proofs.Ytipdcegbfhokfaa
open Go.ChangeShapes Go.WideShapes Go.ChangeAt Go.RowKit
set_option linter.unusedVariables false
set_option linter.unusedSimpArgs false
open Go.Lib

theorem ret_pq {a b : Int} {c d : Bool} (h : a = b) (k : c = d) : Ending.returned (.tuple #[.int .i64 a, .bool c]) = .returned (.tuple #[.int .i64 b, .bool d]) := by rw [h, k]

theorem byte_lt (s : ByteArray) (k : Nat) (h : k < s.size) : (0 : Int) ≤ (s[k].toNat : Int) ∧ (s[k].toNat : Int) ≤ 255 := by
  have := s[k].toNat_lt; omega

theorem same_t {A F : ByteArray} (h : (!A.toList == F.toList) = true) : A ≠ F := by
  intro e; subst e; simp at h
theorem same_f {A F : ByteArray} (h : (!A.toList == F.toList) = false) : A = F := by
  have h2 : A.toList = F.toList := by simpa using h
  rw [ByteArray.toList_eq, ByteArray.toList_eq] at h2
  apply ByteArray.ext; exact Array.toList_inj.mp h2

theorem str_self (s : ByteArray) : str s.data.toList = s := by
  apply ByteArray.ext; simp [str]
theorem pad_same (s : ByteArray) (N E : Int) : Padded N E E N s.data.toList s := by
  have := padded_start N E s.data.toList
  rwa [str_self] at this
theorem pad_point (s : ByteArray) (N : Int) : Padded N 0 0 N (s.data.toList ++ [46]) (s ++ (⟨#[46]⟩ : ByteArray)) := by
  have := padded_start N 0 (s.data.toList ++ [46])
  rw [← str_append, str_self] at this
  exact this

set_option maxRecDepth 20000 in
set_option maxHeartbeats 4000000 in
theorem specRead_walk (s : ByteArray) (p : Nat) (P : Int) (w : World) (hs : (s.size : Int) ≤ 20) (hP : P = (p : Int)) (P0 : 0 ≤ P) (P6 : P ≤ 6) :
    Calls Try.prog 27 #[.string s, .int .i64 P] w fun e w' => e = .returned (.tuple #[.int .i64 (rmN s.data.toList p), .bool (rmB s.data.toList p)]) ∧ ∃ q, w' = w.drewN q := by
  have HP : Hid (P = (p : Int)) := hP
  have HSH : Hid (∀ (X : Int) (w : World), -100000000000 ≤ X → X ≤ 100000000000 → Calls Try.prog 58 #[.int .i64 X, .int .i64 P] w fun e w' => ∃ (A : ByteArray) (q : Nat), e = .returned (.string A) ∧ Hid (A = str (showI (decide (X < 0)) X.natAbs p)) ∧ w' = w.drewN q) := by
    intro X w x0 x1
    rw [hP]
    refine (show_any X p w x0 x1 (by omega)).mono ?_
    rintro e w' ⟨rfl, q, rfl⟩
    exact ⟨_, q, rfl, rfl, rfl⟩
  clear hP
  go_enter Try.func27, Try.ntmps27
  go_wp2_with (first | (go_at_call 55; go_in))
  go_loop [6, 7, 8] (fun n b i => ∃ (k : Nat) (N B : Int), (k : Int) ≤ (s.size : Int) ∧ i = .int .i64 k ∧ n = .int .i64 N ∧ b = .int .i64 B ∧ 0 ≤ N ∧ N ≤ 100000000000 ∧ -1 ≤ B ∧ B ≤ (k : Int) ∧ Hid (Scanned s k N B)) (fun _ _ i => s.size - (intOf i).toNat)
  case atStart => exact ⟨0, 0, -1, by omega, rfl, rfl, rfl, by omega, by omega, by omega, by omega, scanned_start s⟩
  case round =>
    obtain ⟨k, N, B, hk, rfl, rfl, rfl, n0, n1, b0, b1, HS⟩ := hrel
    by_cases hlt : (k : Int) < (s.size : Int)
    · have hkn : k < s.size := by omega
      have bl := byte_lt s k hkn
      by_cases hd : (48 : Int) ≤ (s[k].toNat : Int) ∧ (s[k].toNat : Int) ≤ 57
      · obtain ⟨d0, d1⟩ := hd
        obtain ⟨s1, s2⟩ := scanned_digit s k N B hkn n0 d0 d1 HS.out
        by_cases hm : N * 10 + ((s[k].toNat : Int) - 48) ≤ 100000000000
        · have S1 : Hid (Scanned s (k + 1) (N * 10 + ((s[k].toNat : Int) - 48)) (if 0 ≤ B then B + 1 else B)) := s1 hm
          clear s1 s2
          by_cases hb : 0 ≤ B
          · rw [if_pos hb] at S1
            go_wp2
            go_round
            case rel => exact ⟨k + 1, _, _, by omega, by go_num, rfl, rfl, by omega, by omega, by omega, by omega, S1⟩
            case measure => simp [intOf]; omega
          · rw [if_neg hb] at S1
            go_wp2
            go_round
            case rel => exact ⟨k + 1, _, _, by omega, by go_num, rfl, rfl, by omega, by omega, by omega, by omega, S1⟩
            case measure => simp [intOf]; omega
        · have S2 : Hid (rmB s.data.toList p = false) := loose_none _ _ (s2 (by omega))
          clear s1 s2
          by_cases hb : 0 ≤ B
          all_goals
            go_wp2
            go_returns
            exact ⟨ret_pq (rm_false S2.out).symm S2.out.symm, 0, rfl⟩
      · by_cases c46 : (s[k].toNat : Int) = 46
        · have e1 : ((s[k].toNat : Int) == 46) = true := by simpa using c46
          have hc : s[k] = 46 := byte_eq (c := 46) (by simpa using c46)
          have l1 : (s[k].toNat : Int) ≤ 46 := by omega
          have l2 : (46 : Int) ≤ (s[k].toNat : Int) := by omega
          have e2 : ((s[k].toNat : Int) == 45) = false := by simp; omega
          by_cases hb : 0 ≤ B
          · have S2 : Hid (rmB s.data.toList p = false) := loose_none _ _ (scanned_bad s k N B hkn (not_isD_byte (hk := hkn) (by omega)) (by omega) (by intro h; rw [hc] at h; exact absurd h.1 (by decide)) HS.out)
            have hbd : decide (B < 0) = false := decide_eq_false (by omega)
            clear hd c46 hc
            go_wp2
            go_returns
            exact ⟨ret_pq (rm_false S2.out).symm S2.out.symm, 0, rfl⟩
          · have S1 : Hid (Scanned s (k + 1) N 0) := scanned_point s k N B hkn (by omega) hc HS.out
            have hbd : decide (B < 0) = true := decide_eq_true (by omega)
            clear hd c46 hc
            go_wp2
            go_round
            case rel => exact ⟨_, _, .int .i64 N, .int .i64 0, .int .i64 ((k : Int) + 1), ⟨k + 1, by omega, by go_num, N, rfl, 0, rfl, by omega, by omega, by omega, by omega, S1⟩, rfl, rfl, rfl, rfl, rfl⟩
            case measure => simp [intOf]; omega
        · have e1 : ((s[k].toNat : Int) == 46) = false := by simpa using c46
          have hc46 : s[k] ≠ 46 := byte_ne (c := 46) (by simpa using c46)
          by_cases c45 : (s[k].toNat : Int) = 45
          · have e2 : ((s[k].toNat : Int) == 45) = true := by simpa using c45
            have hc : s[k] = 45 := byte_eq (c := 45) (by simpa using c45)
            have l1 : (s[k].toNat : Int) ≤ 45 := by omega
            have l2 : (45 : Int) ≤ (s[k].toNat : Int) := by omega
            by_cases hk0 : k = 0
            · have S1 : Hid (Scanned s (k + 1) N B) := scanned_minusk s k N B hkn hk0 hc HS.out
              have e3 : ((k : Int) == 0) = true := by simp; omega
              clear hd c46 hc hc46 c45 hk0
              go_wp2
              go_round
              case rel => exact ⟨_, _, .int .i64 N, .int .i64 B, .int .i64 ((k : Int) + 1), ⟨k + 1, by omega, by go_num, N, rfl, B, rfl, by omega, by omega, by omega, by omega, S1⟩, rfl, rfl, rfl, rfl, rfl⟩
              case measure => simp [intOf]; omega
            · have S2 : Hid (rmB s.data.toList p = false) := loose_none _ _ (scanned_bad s k N B hkn (not_isD_byte (hk := hkn) (by omega)) (fun h => hc46 h.1) (fun h => hk0 h.2) HS.out)
              have e3 : ((k : Int) == 0) = false := by simp; omega
              clear hd c46 hc hc46 c45 hk0
              go_wp2
              go_returns
              exact ⟨ret_pq (rm_false S2.out).symm S2.out.symm, 0, rfl⟩
          · have e2 : ((s[k].toNat : Int) == 45) = false := by simpa using c45
            have hc45 : s[k] ≠ 45 := byte_ne (c := 45) (by simpa using c45)
            have S2 : Hid (rmB s.data.toList p = false) := loose_none _ _ (scanned_bad s k N B hkn (not_isD_byte (hk := hkn) (by omega)) (fun h => hc46 h.1) (fun h => hc45 h.1) HS.out)
            have hr : (s[k].toNat : Int) < 48 ∨ 57 < (s[k].toNat : Int) := by omega
            clear hd c46 hc46 c45 hc45
            rcases hr with hr | hr
            · go_wp2
              go_returns
              exact ⟨ret_pq (rm_false S2.out).symm S2.out.symm, 0, rfl⟩
            · have hd2 : decide ((s[k].toNat : Int) ≤ 57) = false := decide_eq_false (by omega)
              go_wp2
              go_returns
              exact ⟨ret_pq (rm_false S2.out).symm S2.out.symm, 0, rfl⟩
    · have HE : Hid (scan s.data.toList true 0 (-1) = some (N.toNat, B)) := scanned_end s k N B (by omega) HS.out
      clear HS
      by_cases hB0 : B = 0
      · have S2 : Hid (rmB s.data.toList p = false) := loose_b0 s p N (by have := HP.out; omega) (by rw [HE.out, hB0])
        have e1 : (B == 0) = true := by simpa using hB0
        have l1 : 0 ≤ B := by omega
        have l2 : B ≤ 0 := by omega
        clear hB0
        go_wp2
        go_returns
        exact ⟨ret_pq (rm_false S2.out).symm S2.out.symm, 0, rfl⟩
      · have e1 : (B == 0) = false := by simpa using hB0
        have HB0 : Hid (B ≠ 0) := hB0
        clear hB0
        by_cases hBn : B < 0
        · have HBN : Hid (behindN B = 0) := by unfold Hid behindN; rw [if_pos hBn]
          by_cases hP0 : 0 < P
          · have HFU : Hid (fullOf s.data.toList B p = (s.data.toList ++ [46]) ++ zeros (p - behindN B)) := by unfold Hid fullOf; rw [if_pos ⟨hBn, by have := HP.out; omega⟩]
            go_wp2
            go_loop [6, 7, 9] (fun n b f => ∃ (D M : Int) (FS : ByteArray), n = .int .i64 M ∧ b = .int .i64 D ∧ f = .string FS ∧ 0 ≤ D ∧ D ≤ P ∧ 0 ≤ M ∧ M ≤ 100000000000000000 ∧ (FS.size : Int) ≤ 50 + D ∧ Hid (Padded N D 0 M (s.data.toList ++ [46]) FS)) (fun _ b _ => (P - intOf b).toNat)
            case atStart => exact ⟨0, N, _, rfl, rfl, rfl, by omega, by omega, by omega, by omega, (by rw [ByteArray.size_append]; show ((s.size + 1 : Nat) : Int) ≤ _; omega), (pad_point s N)⟩
            case round =>
              obtain ⟨D, M, FS, rfl, rfl, rfl, d0, d1, m0, m1, fs, HPD⟩ := hrel
              by_cases hDP : D < P
              · have hb5 := padded_bd N D 0 M (s.data.toList ++ [46]) FS n0 n1 (by omega) (by omega) HPD.out
                have HPN : Hid (Padded N (D + 1) 0 (M * 10) (s.data.toList ++ [46]) (FS ++ (⟨#[48]⟩ : ByteArray))) := padded_step N D 0 M (s.data.toList ++ [46]) FS d0 HPD.out
                have hsz : ((FS ++ (⟨#[48]⟩ : ByteArray)).size : Int) = (FS.size : Int) + 1 := by rw [ByteArray.size_append]; rfl
                have HSZ : Hid (((FS ++ (⟨#[48]⟩ : ByteArray)).size : Int) = (FS.size : Int) + 1) := hsz
                clear hsz
                obtain ⟨m2, m3⟩ := hb5
                go_wp2
                go_round
                case rel => exact ⟨D + 1, M * 10, _, rfl, rfl, rfl, by omega, by omega, by omega, by omega, by rw [HSZ.out]; omega, HPN⟩
                case measure => simp [intOf]; omega
              · have hV : M = N * (10 : Int) ^ (p - behindN B) := by rw [HPD.out.1]; congr 2; have := HP.out; rw [HBN.out]; omega
                have hFS : FS = str (fullOf s.data.toList B p) := by rw [HPD.out.2, HFU.out]; congr 2; have := HP.out; rw [HBN.out]; congr 1; omega
                by_cases hMm : M ≤ 100000000000
                · have p6 : p ≤ 6 := by have := HP.out; omega
                  have hbp : behindN B ≤ p := by have := HP.out; rw [HBN.out]; omega
                  have HFS : Hid (FS = str (fullOf s.data.toList B p)) := hFS
                  by_cases hsz : (0 : Int) < (s.size : Int)
                  · have hs0 : 0 < s.size := by omega
                    by_cases h45 : (s[0].toNat : Int) = 45
                    · have hsg : signed s.data.toList = true := by rw [signed_byte s hs0]; exact decide_eq_true h45
                      have L := loose_last s p N B M (-M) p6 n0 HE.out HB0.out hbp hV hMm (by rw [if_pos hsg])
                      have HL : Hid _ := L
                      have e5 : ((s[0].toNat : Int) == 45) = true := by simpa using h45
                      clear L hsg hV hFS h45 p6 hbp
                      go_wp2_with (go_at_call 58; refine (HSH.out _ _ (by omega) (by omega)).mono ?_; rintro e w1 ⟨A, q, rfl, HA, rfl⟩)
                      · go_returns
                        have hr := HL.out.2 (by rw [← HA.out, ← HFS.out]; exact same_t (by assumption))
                        exact ⟨ret_pq (rm_false hr).symm hr.symm, _, rfl⟩
                      · go_returns
                        have hr := HL.out.1 (by rw [← HA.out, ← HFS.out]; exact same_f (by assumption))
                        exact ⟨ret_pq hr.2.symm hr.1.symm, _, rfl⟩
                    · have hsg : ¬ signed s.data.toList = true := by rw [signed_byte s hs0]; simpa using h45
                      have L := loose_last s p N B M M p6 n0 HE.out HB0.out hbp hV hMm (by rw [if_neg hsg])
                      have HL : Hid _ := L
                      have e5 : ((s[0].toNat : Int) == 45) = false := by simpa using h45
                      clear L hsg hV hFS h45 p6 hbp
                      go_wp2_with (go_at_call 58; refine (HSH.out _ _ (by omega) (by omega)).mono ?_; rintro e w1 ⟨A, q, rfl, HA, rfl⟩)
                      · go_returns
                        have hr := HL.out.2 (by rw [← HA.out, ← HFS.out]; exact same_t (by assumption))
                        exact ⟨ret_pq (rm_false hr).symm hr.symm, _, rfl⟩
                      · go_returns
                        have hr := HL.out.1 (by rw [← HA.out, ← HFS.out]; exact same_f (by assumption))
                        exact ⟨ret_pq hr.2.symm hr.1.symm, _, rfl⟩
                  · have hsg : ¬ signed s.data.toList = true := by rw [signed_none s (by omega)]; simp
                    have L := loose_last s p N B M M p6 n0 HE.out HB0.out hbp hV hMm (by rw [if_neg hsg])
                    have HL : Hid _ := L
                    clear L hsg hV hFS p6 hbp
                    go_wp2_with (go_at_call 58; refine (HSH.out _ _ (by omega) (by omega)).mono ?_; rintro e w1 ⟨A, q, rfl, HA, rfl⟩)
                    · go_returns
                      have hr := HL.out.2 (by rw [← HA.out, ← HFS.out]; exact same_t (by assumption))
                      exact ⟨ret_pq (rm_false hr).symm hr.symm, _, rfl⟩
                    · go_returns
                      have hr := HL.out.1 (by rw [← HA.out, ← HFS.out]; exact same_f (by assumption))
                      exact ⟨ret_pq hr.2.symm hr.1.symm, _, rfl⟩
                · have S2 : Hid (rmB s.data.toList p = false) := loose_great s p N B M (by have := HP.out; omega) n0 hV (by omega) HE.out
                  clear hV hFS
                  go_wp2
                  go_returns
                  exact ⟨ret_pq (rm_false S2.out).symm S2.out.symm, 0, rfl⟩
          · have HFU : Hid (fullOf s.data.toList B p = s.data.toList ++ zeros (p - behindN B)) := by unfold Hid fullOf; rw [if_neg (by have := HP.out; omega)]; simp
            go_wp2
            go_loop [6, 7, 9] (fun n b f => ∃ (D M : Int) (FS : ByteArray), n = .int .i64 M ∧ b = .int .i64 D ∧ f = .string FS ∧ 0 ≤ D ∧ D ≤ P ∧ 0 ≤ M ∧ M ≤ 100000000000000000 ∧ (FS.size : Int) ≤ 50 + D ∧ Hid (Padded N D 0 M s.data.toList FS)) (fun _ b _ => (P - intOf b).toNat)
            case atStart => exact ⟨0, N, _, rfl, rfl, rfl, by omega, by omega, by omega, by omega, (by omega), (pad_same s N 0)⟩
            case round =>
              obtain ⟨D, M, FS, rfl, rfl, rfl, d0, d1, m0, m1, fs, HPD⟩ := hrel
              by_cases hDP : D < P
              · exfalso; omega
              · have hV : M = N * (10 : Int) ^ (p - behindN B) := by rw [HPD.out.1]; congr 2; have := HP.out; rw [HBN.out]; omega
                have hFS : FS = str (fullOf s.data.toList B p) := by rw [HPD.out.2, HFU.out]; congr 2; have := HP.out; rw [HBN.out]; congr 1; omega
                by_cases hMm : M ≤ 100000000000
                · have p6 : p ≤ 6 := by have := HP.out; omega
                  have hbp : behindN B ≤ p := by have := HP.out; rw [HBN.out]; omega
                  have HFS : Hid (FS = str (fullOf s.data.toList B p)) := hFS
                  by_cases hsz : (0 : Int) < (s.size : Int)
                  · have hs0 : 0 < s.size := by omega
                    by_cases h45 : (s[0].toNat : Int) = 45
                    · have hsg : signed s.data.toList = true := by rw [signed_byte s hs0]; exact decide_eq_true h45
                      have L := loose_last s p N B M (-M) p6 n0 HE.out HB0.out hbp hV hMm (by rw [if_pos hsg])
                      have HL : Hid _ := L
                      have e5 : ((s[0].toNat : Int) == 45) = true := by simpa using h45
                      clear L hsg hV hFS h45 p6 hbp
                      go_wp2_with (go_at_call 58; refine (HSH.out _ _ (by omega) (by omega)).mono ?_; rintro e w1 ⟨A, q, rfl, HA, rfl⟩)
                      · go_returns
                        have hr := HL.out.2 (by rw [← HA.out, ← HFS.out]; exact same_t (by assumption))
                        exact ⟨ret_pq (rm_false hr).symm hr.symm, _, rfl⟩
                      · go_returns
                        have hr := HL.out.1 (by rw [← HA.out, ← HFS.out]; exact same_f (by assumption))
                        exact ⟨ret_pq hr.2.symm hr.1.symm, _, rfl⟩
                    · have hsg : ¬ signed s.data.toList = true := by rw [signed_byte s hs0]; simpa using h45
                      have L := loose_last s p N B M M p6 n0 HE.out HB0.out hbp hV hMm (by rw [if_neg hsg])
                      have HL : Hid _ := L
                      have e5 : ((s[0].toNat : Int) == 45) = false := by simpa using h45
                      clear L hsg hV hFS h45 p6 hbp
                      go_wp2_with (go_at_call 58; refine (HSH.out _ _ (by omega) (by omega)).mono ?_; rintro e w1 ⟨A, q, rfl, HA, rfl⟩)
                      · go_returns
                        have hr := HL.out.2 (by rw [← HA.out, ← HFS.out]; exact same_t (by assumption))
                        exact ⟨ret_pq (rm_false hr).symm hr.symm, _, rfl⟩
                      · go_returns
                        have hr := HL.out.1 (by rw [← HA.out, ← HFS.out]; exact same_f (by assumption))
                        exact ⟨ret_pq hr.2.symm hr.1.symm, _, rfl⟩
                  · have hsg : ¬ signed s.data.toList = true := by rw [signed_none s (by omega)]; simp
                    have L := loose_last s p N B M M p6 n0 HE.out HB0.out hbp hV hMm (by rw [if_neg hsg])
                    have HL : Hid _ := L
                    clear L hsg hV hFS p6 hbp
                    go_wp2_with (go_at_call 58; refine (HSH.out _ _ (by omega) (by omega)).mono ?_; rintro e w1 ⟨A, q, rfl, HA, rfl⟩)
                    · go_returns
                      have hr := HL.out.2 (by rw [← HA.out, ← HFS.out]; exact same_t (by assumption))
                      exact ⟨ret_pq (rm_false hr).symm hr.symm, _, rfl⟩
                    · go_returns
                      have hr := HL.out.1 (by rw [← HA.out, ← HFS.out]; exact same_f (by assumption))
                      exact ⟨ret_pq hr.2.symm hr.1.symm, _, rfl⟩
                · have S2 : Hid (rmB s.data.toList p = false) := loose_great s p N B M (by have := HP.out; omega) n0 hV (by omega) HE.out
                  clear hV hFS
                  go_wp2
                  go_returns
                  exact ⟨ret_pq (rm_false S2.out).symm S2.out.symm, 0, rfl⟩
        · by_cases hBP : B ≤ P
          · have HBN : Hid (behindN B = B.toNat) := by unfold Hid behindN; rw [if_neg hBn]
            have HFU : Hid (fullOf s.data.toList B p = s.data.toList ++ zeros (p - behindN B)) := by unfold Hid fullOf; rw [if_neg (by omega)]; simp
            go_wp2
            go_loop [6, 7, 9] (fun n b f => ∃ (D M : Int) (FS : ByteArray), n = .int .i64 M ∧ b = .int .i64 D ∧ f = .string FS ∧ B ≤ D ∧ D ≤ P ∧ 0 ≤ M ∧ M ≤ 100000000000000000 ∧ (FS.size : Int) ≤ 50 + D ∧ Hid (Padded N D B M s.data.toList FS)) (fun _ b _ => (P - intOf b).toNat)
            case atStart => exact ⟨B, N, _, rfl, rfl, rfl, by omega, by omega, by omega, by omega, (by omega), (pad_same s N B)⟩
            case round =>
              obtain ⟨D, M, FS, rfl, rfl, rfl, d0, d1, m0, m1, fs, HPD⟩ := hrel
              by_cases hDP : D < P
              · have hb5 := padded_bd N D B M s.data.toList FS n0 n1 (by omega) (by omega) HPD.out
                have HPN : Hid (Padded N (D + 1) B (M * 10) s.data.toList (FS ++ (⟨#[48]⟩ : ByteArray))) := padded_step N D B M s.data.toList FS d0 HPD.out
                have hsz : ((FS ++ (⟨#[48]⟩ : ByteArray)).size : Int) = (FS.size : Int) + 1 := by rw [ByteArray.size_append]; rfl
                have HSZ : Hid (((FS ++ (⟨#[48]⟩ : ByteArray)).size : Int) = (FS.size : Int) + 1) := hsz
                clear hsz
                obtain ⟨m2, m3⟩ := hb5
                go_wp2
                go_round
                case rel => exact ⟨D + 1, M * 10, _, rfl, rfl, rfl, by omega, by omega, by omega, by omega, by rw [HSZ.out]; omega, HPN⟩
                case measure => simp [intOf]; omega
              · have hV : M = N * (10 : Int) ^ (p - behindN B) := by rw [HPD.out.1]; congr 2; have := HP.out; rw [HBN.out]; omega
                have hFS : FS = str (fullOf s.data.toList B p) := by rw [HPD.out.2, HFU.out]; congr 2; have := HP.out; rw [HBN.out]; congr 1; omega
                by_cases hMm : M ≤ 100000000000
                · have p6 : p ≤ 6 := by have := HP.out; omega
                  have hbp : behindN B ≤ p := by have := HP.out; rw [HBN.out]; omega
                  have HFS : Hid (FS = str (fullOf s.data.toList B p)) := hFS
                  by_cases hsz : (0 : Int) < (s.size : Int)
                  · have hs0 : 0 < s.size := by omega
                    by_cases h45 : (s[0].toNat : Int) = 45
                    · have hsg : signed s.data.toList = true := by rw [signed_byte s hs0]; exact decide_eq_true h45
                      have L := loose_last s p N B M (-M) p6 n0 HE.out HB0.out hbp hV hMm (by rw [if_pos hsg])
                      have HL : Hid _ := L
                      have e5 : ((s[0].toNat : Int) == 45) = true := by simpa using h45
                      clear L hsg hV hFS h45 p6 hbp
                      go_wp2_with (go_at_call 58; refine (HSH.out _ _ (by omega) (by omega)).mono ?_; rintro e w1 ⟨A, q, rfl, HA, rfl⟩)
                      · go_returns
                        have hr := HL.out.2 (by rw [← HA.out, ← HFS.out]; exact same_t (by assumption))
                        exact ⟨ret_pq (rm_false hr).symm hr.symm, _, rfl⟩
                      · go_returns
                        have hr := HL.out.1 (by rw [← HA.out, ← HFS.out]; exact same_f (by assumption))
                        exact ⟨ret_pq hr.2.symm hr.1.symm, _, rfl⟩
                    · have hsg : ¬ signed s.data.toList = true := by rw [signed_byte s hs0]; simpa using h45
                      have L := loose_last s p N B M M p6 n0 HE.out HB0.out hbp hV hMm (by rw [if_neg hsg])
                      have HL : Hid _ := L
                      have e5 : ((s[0].toNat : Int) == 45) = false := by simpa using h45
                      clear L hsg hV hFS h45 p6 hbp
                      go_wp2_with (go_at_call 58; refine (HSH.out _ _ (by omega) (by omega)).mono ?_; rintro e w1 ⟨A, q, rfl, HA, rfl⟩)
                      · go_returns
                        have hr := HL.out.2 (by rw [← HA.out, ← HFS.out]; exact same_t (by assumption))
                        exact ⟨ret_pq (rm_false hr).symm hr.symm, _, rfl⟩
                      · go_returns
                        have hr := HL.out.1 (by rw [← HA.out, ← HFS.out]; exact same_f (by assumption))
                        exact ⟨ret_pq hr.2.symm hr.1.symm, _, rfl⟩
                  · have hsg : ¬ signed s.data.toList = true := by rw [signed_none s (by omega)]; simp
                    have L := loose_last s p N B M M p6 n0 HE.out HB0.out hbp hV hMm (by rw [if_neg hsg])
                    have HL : Hid _ := L
                    clear L hsg hV hFS p6 hbp
                    go_wp2_with (go_at_call 58; refine (HSH.out _ _ (by omega) (by omega)).mono ?_; rintro e w1 ⟨A, q, rfl, HA, rfl⟩)
                    · go_returns
                      have hr := HL.out.2 (by rw [← HA.out, ← HFS.out]; exact same_t (by assumption))
                      exact ⟨ret_pq (rm_false hr).symm hr.symm, _, rfl⟩
                    · go_returns
                      have hr := HL.out.1 (by rw [← HA.out, ← HFS.out]; exact same_f (by assumption))
                      exact ⟨ret_pq hr.2.symm hr.1.symm, _, rfl⟩
                · have S2 : Hid (rmB s.data.toList p = false) := loose_great s p N B M (by have := HP.out; omega) n0 hV (by omega) HE.out
                  clear hV hFS
                  go_wp2
                  go_returns
                  exact ⟨ret_pq (rm_false S2.out).symm S2.out.symm, 0, rfl⟩
          · have S2 : Hid (rmB s.data.toList p = false) := loose_over s p N B (by have := HP.out; omega) (by have := HP.out; unfold behindN; rw [if_neg hBn]; omega) HE.out
            go_wp2
            go_returns
            exact ⟨ret_pq (rm_false S2.out).symm S2.out.symm, 0, rfl⟩

end Go.Proofs.Ytipdcegbfhokfaa
