/- MakeNumber of the program and of the model. -/
import Derived.Test.YtnglofgcckdbmaaDoorGd
import Derived.Test.YtnglofgcckdbmaaDoorVd
namespace Go.Proofs.YtnglofgcckdbmaaDoor
open Go Go.ChangeShapes Go.WideShapes Go.ChangeAt Go.RowKit
set_option linter.unusedVariables false
set_option linter.unusedSimpArgs false

/-- Two digits. -/
def dd (n : Nat) : List UInt8 := [UInt8.ofNat (48 + n / 10), UInt8.ofNat (48 + n % 10)]
def ddB (n : Nat) : ByteArray := ⟨(dd n).toArray⟩
theorem u8_of {k : Nat} (h : k < 256) : (UInt8.ofNat k).toNat = k := by simp; omega
theorem ba_ext {a b : ByteArray} (h : a.data.toList = b.data.toList) : a = b := by
  cases a; cases b; simp only at h; congr 1; exact Array.toList_inj.1 h
theorem dec_three {n : Nat} (h : n < 100) : Lib.decDigits (100 + n) = 49 :: dd n := by
  rw [Lib.decDigits, dif_neg (by omega), show (100 + n) / 10 = 10 + n / 10 by omega, Lib.decDigits_two (by omega) (by omega), show (100 + n) % 10 = n % 10 by omega, show (10 + n / 10) / 10 = 1 by omega, show (10 + n / 10) % 10 = n / 10 by omega]
  rfl
theorem dec_hun {n : Nat} (h : n < 100) : (Mny.str (Lib.decDigits (100 + n))).size = 3 ∧ (Mny.str (Lib.decDigits (100 + n))).extract 1 3 = ddB n := by
  rw [dec_three h]
  refine ⟨rfl, ba_ext ?_⟩
  rw [ext_l]; rfl
def okB (L R : ByteArray) : Bool := (decide (L.size = 2) && aL capU L.data.toList) && (inB (R.size : Int) 4 26 && aL nbU R.data.toList)
/-- The rest by 97 of what stands ahead of the check. -/
def hdM (L R : ByteArray) : Int := mdL (R.data.toList ++ L.data.toList)
theorem hdM_bd (L R : ByteArray) : 0 ≤ hdM L R ∧ hdM L R ≤ 96 := mdL_bd _
def ckN (L R : ByteArray) : Nat := (98 - (hdM L R * 100) % 97).toNat
theorem ckN_bd (L R : ByteArray) : 2 ≤ ckN L R ∧ ckN L R ≤ 98 := by unfold ckN; omega
def mkV (L R : ByteArray) : ByteArray := if okB L R = true then (L ++ ddB (ckN L R)) ++ R else ⟨#[]⟩
theorem two_l {L : ByteArray} (h : L.size = 2) : ∃ a b, L.data.toList = [a, b] := by
  have hl : L.data.toList.length = 2 := by simp [h]
  match e : L.data.toList, hl with
  | [a, b], _ => exact ⟨a, b, rfl⟩
theorem cat_l (L R : ByteArray) (n : Nat) : ((L ++ ddB n) ++ R).data.toList = L.data.toList ++ dd n ++ R.data.toList := by
  rw [ByteArray.data_append, ByteArray.data_append, Array.toList_append, Array.toList_append]; rfl
theorem dd_dig {n : Nat} (h : n < 100) : digU (UInt8.ofNat (48 + n / 10)) = true ∧ digU (UInt8.ofNat (48 + n % 10)) = true := by
  unfold digU
  rw [u8_of (by omega), u8_of (by omega)]
  exact ⟨inB_y (by omega) (by omega), inB_y (by omega) (by omega)⟩
theorem md_two {l : List UInt8} {n : Nat} (h : n < 100) : mdL (l ++ dd n) = (mdL l * 100 + n) % 97 := by
  obtain ⟨d1, d2⟩ := dd_dig h
  unfold mdL dd
  rw [List.foldl_append]
  simp only [List.foldl_cons, List.foldl_nil]
  generalize List.foldl mdS 0 l = m
  unfold mdS
  rw [d1, d2, u8_of (by omega), u8_of (by omega)]
  simp only [if_true]
  omega
theorem an_cat {L R : ByteArray} {n : Nat} (h2 : L.size = 2) (hn : n < 100) : anP ((L ++ ddB n) ++ R).data.toList = (okB L R && ((hdM L R * 100 + n) % 97 == 1)) := by
  obtain ⟨a, b, hl⟩ := two_l h2
  obtain ⟨d1, d2⟩ := dd_dig hn
  have e : ((L ++ ddB n) ++ R).data.toList = a :: b :: UInt8.ofNat (48 + n / 10) :: UInt8.ofNat (48 + n % 10) :: R.data.toList := by rw [cat_l, hl]; rfl
  have em : mdL (R.data.toList ++ [a, b, UInt8.ofNat (48 + n / 10), UInt8.ofNat (48 + n % 10)]) = (hdM L R * 100 + n) % 97 := by
    rw [show R.data.toList ++ [a, b, UInt8.ofNat (48 + n / 10), UInt8.ofNat (48 + n % 10)] = (R.data.toList ++ L.data.toList) ++ dd n by rw [hl]; simp [dd], md_two hn]; rfl
  have el : (R.data.toList.length : Int) = (R.size : Int) := by simp
  rw [e]
  unfold anP okB
  simp only
  rw [em, el, d1, d2, h2, hl]
  unfold aL
  simp
theorem ck_one {L R : ByteArray} {n : Nat} (h1 : 2 ≤ n) (h2 : n ≤ 98) : ((hdM L R * 100 + (n : Int)) % 97 == 1) = decide (n = ckN L R) := by
  have := hdM_bd L R
  unfold ckN
  by_cases h : (hdM L R * 100 + (n : Int)) % 97 = 1
  · rw [h, decide_eq_true (by omega)]; rfl
  · rw [decide_eq_false (by omega)]; simpa using h

set_option maxHeartbeats 8000000 in
set_option maxRecDepth 1000000 in
theorem implMake_any (L R : ByteArray) (w : World) (hL : (L.size : Int) ≤ 1048576) (hR : (R.size : Int) ≤ 1048576) :
    Calls Tryd.prog 8 #[.string L, .string R] w fun e w' => e = .returned (.string (mkV L R)) ∧ Below w.heap.size w w' := by
  have HLa := hid (fun W => isLand_any L W (by omega))
  have HRe := hid (fun W => isRest_any R W (by omega))
  cases v1 : (decide (L.size = 2) && aL capU L.data.toList)
  · have HM : Hid (mkV L R = ⟨#[]⟩) := hid (by unfold mkV okB; rw [v1]; rfl)
    rw [v1] at HLa
    rw [HM.out]
    clear v1
    go_enter Tryd.func8, Tryd.ntmps8
    go_wp2_with (go_at_call 19; refine (HLa.out _).mono ?_; rintro e wq ⟨rfl, ew⟩; replace ew := ew.symm; subst ew)
    go_returns
    exact ⟨rfl, Below.refl _ _⟩
  cases v2 : (inB (R.size : Int) 4 26 && aL nbU R.data.toList)
  · have HM : Hid (mkV L R = ⟨#[]⟩) := hid (by unfold mkV okB; rw [v1, v2]; rfl)
    rw [v1] at HLa
    rw [v2] at HRe
    rw [HM.out]
    clear v1 v2
    go_enter Tryd.func8, Tryd.ntmps8
    go_wp2_with (first | (go_at_call 19; refine (HLa.out _).mono ?_; rintro e wq ⟨rfl, ew⟩; replace ew := ew.symm; subst ew) | (go_at_call 20; refine (HRe.out _).mono ?_; rintro e wq ⟨rfl, ew⟩; replace ew := ew.symm; subst ew))
    go_returns
    exact ⟨rfl, Below.refl _ _⟩
  have hok : okB L R = true := by unfold okB; rw [v1, v2]; rfl
  have HM : Hid (mkV L R = (L ++ ddB (ckN L R)) ++ R) := hid (if_pos hok)
  simp only [Bool.and_eq_true, decide_eq_true_eq] at v1 v2
  have hrb := inB_t v2.1
  obtain ⟨a, b, hl⟩ := two_l v1.1
  have ecat : ((R ++ L) ++ (⟨#[48, 48]⟩ : ByteArray)).data.toList = (R.data.toList ++ L.data.toList) ++ dd 0 := by
    rw [ByteArray.data_append, ByteArray.data_append, Array.toList_append, Array.toList_append]; rfl
  have hal : aL nbU ((R.data.toList ++ L.data.toList) ++ dd 0) = true := by
    have q1 := v1.2
    have q2 := v2.2
    rw [hl] at q1 ⊢
    unfold aL at q1 q2 ⊢
    simp only [List.all_cons, List.all_nil, Bool.and_true, Bool.and_eq_true] at q1
    obtain ⟨z1, z2⟩ := dd_dig (n := 0) (by omega)
    rw [List.all_append, List.all_append, q2]
    unfold dd
    simp only [List.all_cons, List.all_nil]
    rw [cap_nb q1.1, cap_nb q1.2, dig_nb z1]; first | rfl | (rw [dig_nb z2]; rfl)
  have HNR : Hid (∀ W, Calls Tryd.prog 22 #[.string L, .string ⟨#[48, 48]⟩, .string R] W fun e w' => e = .returned (.int .i64 ((hdM L R * 100) % 97)) ∧ Below W.heap.size W w') := hid (fun W => by
    have := numRem_any L ⟨#[48, 48]⟩ R W (by have : (⟨#[48, 48]⟩ : ByteArray).size = 2 := rfl; omega) (by rw [ecat]; exact hal)
    rw [ecat, md_two (by omega)] at this
    have e : (mdL (R.data.toList ++ L.data.toList) * 100 + ((0 : Nat) : Int)) % 97 = (hdM L R * 100) % 97 := by unfold hdM; omega
    rw [e] at this; exact this)
  have hck := ckN_bd L R
  have HK : Hid ((ckN L R : Int) = 98 - (hdM L R * 100) % 97) := hid (by unfold ckN; omega)
  obtain ⟨k, hk⟩ : ∃ k, ckN L R = k := ⟨_, rfl⟩
  rw [hk] at HK HM hck
  obtain ⟨r, hr⟩ : ∃ r, (hdM L R * 100) % 97 = r := ⟨_, rfl⟩
  rw [hr] at HNR HK
  have hrr : 98 - r = (k : Int) := HK.out.symm
  have hrb2 : 0 ≤ r ∧ r ≤ 96 := by omega
  rw [decide_eq_true v1.1, v1.2] at HLa
  rw [v2.1, v2.2] at HRe
  have HIT := hid (fun W => Tryd.strconv_Itoa_small k (by omega) W)
  have sL : L.size = 2 := v1.1
  clear v1 v2 hok ecat hal hl hr HK
  by_cases h10 : k < 10
  · have HD : Hid ((⟨#[48]⟩ : ByteArray) ++ ⟨(Lib.decDigits k).toArray⟩ = ddB k) := hid (ba_ext (by
      rw [ByteArray.data_append, Array.toList_append, Lib.decDigits_one h10]
      unfold ddB dd
      rw [show k / 10 = 0 by omega, show k % 10 = k by omega]; rfl))
    have hsz : (⟨(Lib.decDigits k).toArray⟩ : ByteArray).size = 1 := by rw [Lib.decDigits_one h10]; rfl
    obtain ⟨T, hT⟩ : ∃ T : ByteArray, (⟨(Lib.decDigits k).toArray⟩ : ByteArray) = T := ⟨_, rfl⟩
    rw [hT] at HD HIT hsz
    clear hT
    rw [HM.out, ← HD.out]
    go_enter Tryd.func8, Tryd.ntmps8
    go_wp2_with (first | (go_at_call 19; refine (HLa.out _).mono ?_; rintro e wq ⟨rfl, ew⟩; replace ew := ew.symm; subst ew) | (go_at_call 20; refine (HRe.out _).mono ?_; rintro e wq ⟨rfl, ew⟩; replace ew := ew.symm; subst ew) | (go_at_call 22; refine (HNR.out _).mono ?_; rintro e w1 ⟨rfl, b1⟩; have HB1 := hid b1; clear b1) | (go_at_call 21; refine (HIT.out _).mono ?_; rintro e wq ⟨rfl, ew⟩; replace ew := ew.symm; subst ew))
    go_returns
    exact ⟨rfl, HB1.out⟩
  · have HD : Hid ((⟨(Lib.decDigits k).toArray⟩ : ByteArray) = ddB k) := hid (by rw [Lib.decDigits_two h10 (by omega)]; rfl)
    have hsz : (⟨(Lib.decDigits k).toArray⟩ : ByteArray).size = 2 := by rw [Lib.decDigits_two h10 (by omega)]; rfl
    obtain ⟨T, hT⟩ : ∃ T : ByteArray, (⟨(Lib.decDigits k).toArray⟩ : ByteArray) = T := ⟨_, rfl⟩
    rw [hT] at HD HIT hsz
    clear hT
    rw [HM.out, ← HD.out]
    go_enter Tryd.func8, Tryd.ntmps8
    go_wp2_with (first | (go_at_call 19; refine (HLa.out _).mono ?_; rintro e wq ⟨rfl, ew⟩; replace ew := ew.symm; subst ew) | (go_at_call 20; refine (HRe.out _).mono ?_; rintro e wq ⟨rfl, ew⟩; replace ew := ew.symm; subst ew) | (go_at_call 22; refine (HNR.out _).mono ?_; rintro e w1 ⟨rfl, b1⟩; have HB1 := hid b1; clear b1) | (go_at_call 21; refine (HIT.out _).mono ?_; rintro e wq ⟨rfl, ew⟩; replace ew := ew.symm; subst ew))
    go_returns
    exact ⟨rfl, HB1.out⟩
end Go.Proofs.YtnglofgcckdbmaaDoor
