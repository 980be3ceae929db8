/- FnMutualWhole's walk, given what its draw hands back. The draw for Mutual, whole. -/
import Derived.Test.YtjlniinahfgakaaMa
import Derived.Test.YtjlniinahfgakaaMg
import Derived.Test.YtjlniinahfgakaaMb
import Derived.Test.YtjlniinahfgakaaMjA
import Derived.BigQuiet
import Derived.Test.YtjlniinahfgakaaDw
import Derived.Test.YtjlniinahfgakaaMjA
namespace Go.Proofs.Ytjlniinahfgakaa
open Go Go.ChangeShapes Go.WideShapes Go.ChangeAt Go.RowKit
set_option linter.unusedVariables false
set_option linter.unusedSimpArgs false

/-- What DrawMutual hands back. -/
def MuD (w : World) (e : Ending) (w' : World) : Prop := ∃ (ca : Option Addr) (N cc : Nat) (c : Nat → Int) (sv : Int) (ad : Option Addr) (m cap : Nat) (ln : Nat → Nat) (z : Nat → Nat → Int), e = .returned (.tuple #[.slice ca N cc, .int .i64 sv, .slice ad m cap]) ∧ ((N : Int) ≤ 1048576 ∧ (m : Int) ≤ 1048576 ∧ ∀ j, j < m → (ln j : Int) ≤ 1048576) ∧ IR w' ca N c ∧ SR w' ad m ln z ∧ Below w.heap.size w w'
theorem smB_of {z : Nat → Int} {M : Nat} {B : Int} (hB : 0 ≤ B) (hM : M ≤ 200) (hB2 : B ≤ 1000000000000) (hz : ∀ j, j < M → -B ≤ z j ∧ z j ≤ B) : SmB z M := fun k hk => by
  have := sm_bound (z := z) (M := B) hB hz 0 k (Nat.zero_le _) hk
  rw [show sm z 0 = 0 from rfl] at this
  have e1 : B * ((k : Int) - ((0 : Nat) : Int)) ≤ 1000000000000 * 200 := Int.mul_le_mul hB2 (by omega) (by omega) (by omega)
  omega
theorem bel_drewN {B : Nat} {A W : World} (h : Below B A W) : ∀ q, Below B A (W.drewN q)
  | 0 => h
  | q + 1 => (bel_drewN h q).drew
theorem sm_zero {z : Nat → Int} : ∀ {n : Nat}, (∀ j, j < n → z j = 0) → sm z n = 0
  | 0, _ => rfl
  | n + 1, h => by rw [sm_succ, sm_zero (fun j hj => h j (by omega)), h n (by omega)]; rfl

set_option maxRecDepth 20000 in
set_option maxHeartbeats 8000000 in
theorem whole_walk (a0 : Option Addr) (len0 cap0 : Nat) (w : World) (hD : (len0 : Int) ≤ 1048576 → Calls Try.prog 19 #[.slice a0 len0 cap0] w (MuD w)) :
    Calls Try.prog 5 #[.slice a0 len0 cap0] w fun e w' => e = .returned (.bool true) ∧ Below w.heap.size w w' := by
  by_cases hbig : (1048576 : Int) < (len0 : Int)
  · go_enter Try.func5, Try.ntmps5
    go_wp2_with (go_at_call 10; refine (big_t _ _ _ _ hbig).mono ?_; rintro e w1 ⟨rfl, ew⟩; replace ew := ew.symm; subst ew)
    go_returns
    exact ⟨rfl, Below.refl _ _⟩
  have hb2 : (len0 : Int) ≤ 1048576 := by omega
  have HDR : Hid (Calls Try.prog 19 #[.slice a0 len0 cap0] w (MuD w)) := hD hb2
  clear hD
  go_enter Try.func5, Try.ntmps5
  go_upto_region 4 with (first
    | (go_at_call 10; refine (big_f _ _ _ _ hb2).mono ?_; rintro e wq ⟨rfl, ew⟩; replace ew := ew.symm; subst ew)
    | (go_at_call 19; refine HDR.out.mono ?_; rintro e w1 ⟨ca, N, cc, c, sv, ad, m, cap, ln, z, rfl, hbd, ir1, sr1, b1⟩; have HIR : Hid (IR w1 ca N c) := ir1; have HSR : Hid (SR w1 ad m ln z) := sr1; have HB1 : Hid (Below w.heap.size w w1) := b1; clear ir1 sr1 b1))
  obtain ⟨hn, hm, hj⟩ := hbd
  have HIM : Hid (Calls Try.prog 20 #[.slice ca N cc, .int .i64 sv, .slice ad m cap] w1 (MuP N c sv m ln z w1)) := implMutual_any ca N cc c sv ad m cap ln z w1 hn hm hj HIR.out HSR.out
  have HSP : Hid (∀ W, Below w1.heap.size w1 W → Calls Try.prog 21 #[.slice ca N cc, .int .i64 sv, .slice ad m cap] W (MuP N c sv m ln z W)) := fun W b => specMutual_any ca N cc c sv ad m cap ln z W hn hm hj (HIR.out.below b) (HSR.out.below b)
  have HTR : Hid (∀ W pl, Below w1.heap.size w1 W → Calls Try.prog 22 #[.slice ca N cc, .int .i64 sv, .slice ad m cap, .int .i64 pl] W (TrP N c sv m ln z pl W)) := fun W pl b => implTrace_any ca N cc c sv ad m cap ln z pl W hn hm hj (HIR.out.below b) (HSR.out.below b)
  clear hj HDR
  obtain ⟨M, hM⟩ : ∃ M, muM N c sv m ln z = M := ⟨_, rfl⟩
  cases hbb : muB N c sv m ln z with
  | false =>
    unfold MuP at HIM HSP
    rw [hM, hbb] at HIM HSP
    clear hbb hM HTR
    go_wp2_with (first
      | (go_at_call 20; refine HIM.out.mono ?_; rintro e w2 ⟨ad2, cap2, rfl, o2, b2⟩; have HB2 : Hid (Below w1.heap.size w1 w2) := b2; clear o2 b2)
      | (go_at_call 21; refine (HSP.out _ HB2.out).mono ?_; rintro e w3 ⟨ad3, cap3, rfl, o3, b3⟩; have HB3 : Hid (Below w.heap.size w w3) := bel_on (bel_on HB1.out HB2.out) b3; clear o3 b3))
    go_returns
    exact ⟨rfl, HB3.out⟩
  | true =>
    have hok : MuOk N c sv m ln z := by
      by_cases g : MuOk N c sv m ln z
      · exact g
      · rw [muB_f g] at hbb; cases hbb
    have eM : M = N := by rw [← hM]; unfold muM; rw [if_pos hbb]
    have hok2 := hok
    obtain ⟨⟨c1, s1, d1⟩, c2⟩ := hok2
    obtain rfl : (m : Int) = sv := s1.2.2.1
    have hm1 : 1 ≤ m := by have := s1.1; omega
    have hm3 : m ≤ 3 := by have := s1.1; omega
    have hmN : m < N := by have := s1.2.1; omega
    have hN2 : N ≤ 200 := c1.1.2
    obtain ⟨XV, hXV⟩ : ∃ XV, hC m N z c m = XV := ⟨_, rfl⟩
    have full : ∀ j, j < m → cmN m N z c j = N - m := fun j hj => cm_full c1 s1 d1 hj
    have fS : sm XV N = sm c N := hXV ▸ hC_sum c1 s1 d1 m (Nat.le_refl _)
    have fL : sm XV m = 0 := sm_zero (fun j hj => hXV ▸ hC_low m j (Nat.le_refl _) hj)
    have fT : ∀ p : Nat, m ≤ p → p < N → sm (trV N c m z (p : Int)) m = XV p - c p := fun p h1 h2 => by
      have h := hC_high full m p (Nat.le_refl _) h1 h2
      rw [hXV] at h
      have e : trV N c m z (p : Int) = fun j => cmV m N z c j (p - m) := by unfold trV; simp
      rw [e]; omega
    have bT : ∀ p : Nat, m ≤ p → p < N → SmB (trV N c m z (p : Int)) m := fun p h1 h2 => smB_of (B := 200000000000) (by omega) (by omega) (by omega) (fun j hj => by
      have e : trV N c m z (p : Int) = fun j => cmV m N z c j (p - m) := by unfold trV; simp
      rw [e]
      have := cmV_bd (n := m) (N := N) (z := z) (c := c) (i := j) (k := p - m) (by rw [full j hj]; omega)
      exact this)
    have HTR2 : Hid (∀ W (p : Nat), m ≤ p → p < N → Below w1.heap.size w1 W → Calls Try.prog 22 #[.slice ca N cc, .int .i64 (m : Int), .slice ad m cap, .int .i64 (p : Int)] W fun e w' => ∃ ad2 cap2, e = .returned (.tuple #[.slice ad2 m cap2, .bool true]) ∧ IR w' ad2 m (trV N c m z (p : Int)) ∧ Below W.heap.size W w') := fun W p h1 h2 b => by
      refine (HTR.out W p b).mono ?_
      have t1 : trB N c (m : Int) m ln z (p : Int) = true := trB_t ⟨hok, by omega, by omega⟩
      have t2 : trM N c (m : Int) m ln z (p : Int) = m := by unfold trM; rw [if_pos t1]
      rintro e w' ⟨a2, cp2, rfl, o, b2⟩
      rw [t1, t2]
      rw [t2] at o
      exact ⟨a2, cp2, rfl, row_IR o (fun j hj => intL_get hj), b2⟩
    have aX : ∀ j, j < N → AmtP (XV j) := hXV ▸ c2.2
    have HS1 : Hid (SmB c N) := smB_of (B := 100000000000) (by omega) hN2 (by omega) (fun j hj => c1.2 j hj)
    have HS2 : Hid (SmB XV N) := smB_of (B := 100000000000) (by omega) hN2 (by omega) (fun j hj => aX j hj)
    have HS3 : Hid (SmB XV m) := smB_of (B := 100000000000) (by omega) (by omega) (by omega) (fun j hj => aX j (by omega))
    have HAC : Hid (∀ j, j < N → AmtP (c j)) := c1.2
    have HAX : Hid (∀ j, j < N → AmtP (XV j)) := aX
    have HFS : Hid (sm XV N = sm c N) := fS
    have HFL : Hid (sm XV m = 0) := fL
    have HFT : Hid (∀ p : Nat, m ≤ p → p < N → sm (trV N c m z (p : Int)) m = XV p - c p) := fT
    have HBT : Hid (∀ p : Nat, m ≤ p → p < N → SmB (trV N c m z (p : Int)) m) := bT
    unfold MuP at HIM HSP
    rw [hM, hbb, hXV] at HIM HSP
    subst eM
    have hMm : ((m : Nat) : Int) ≤ 1048576 := by omega
    clear hbb hM hXV hok c1 s1 d1 c2 full fS fL fT bT aX HTR
    go_wp2_with (first
      | (go_at_call 20; refine HIM.out.mono ?_; rintro e w2 ⟨ad2, cap2, rfl, o2, b2⟩; have HB2 : Hid (Below w1.heap.size w1 w2) := b2; obtain ⟨g2, cp2, e2, _, _, _⟩ := row_get o2 (j := 0) (by omega); simp only [Value.slice.injEq] at e2; obtain ⟨rfl, _, rfl⟩ := e2; have hcap : M ≤ cap2 := own_capM o2; have HO2 : Hid (IR w2 (some ⟨g2, 0, none⟩) M XV) := row_IR o2 (fun j hj => intL_get hj); clear o2 b2)
      | (go_at_call 21; refine (HSP.out _ HB2.out).mono ?_; rintro e w3 ⟨ad3, cap3, rfl, o3, b3⟩; have HB3 : Hid (Below w.heap.size w w3) := bel_on (bel_on HB1.out HB2.out) b3; have HB13 : Hid (Below w1.heap.size w1 w3) := bel_on HB2.out b3; have HI3 : Hid (IR w3 ca M c) := HIR.out.below (bel_on HB2.out b3); have HO3 : Hid (IR w3 (some ⟨g2, 0, none⟩) M XV) := HO2.out.below b3; clear o3 b3; obtain ⟨S, hS⟩ : ∃ S, sm c M = S := ⟨_, rfl⟩; have HS : Hid (sm c M = S) := hS; clear hS; have hcut := cutTo g2 0 M cap2 m (by omega); have tok1 : True := trivial; have tok2 : True := trivial)
      | (go_at_call 13; clear tok1; refine (lsum_any _ _ _ XV _ hn HO3.out HS2.out).mono ?_; rintro e wq ⟨rfl, ew⟩; replace ew := ew.symm; subst ew; rw [HFS.out, HS.out])
      | (go_at_call 13; clear tok2; refine (lsum_any _ _ _ c _ hn HI3.out HS1.out).mono ?_; rintro e wq ⟨rfl, ew⟩; replace ew := ew.symm; subst ew; rw [HS.out])
      | (go_at_call 13; refine (lsum_any _ _ _ XV _ hMm (HO3.out.takeN (by omega)) HS3.out).mono ?_; rintro e wq ⟨rfl, ew⟩; replace ew := ew.symm; subst ew; rw [HFL.out]))
    clear hcut
    go_loopw [10] (fun v wr => ∃ (p : Nat), m ≤ p ∧ p ≤ M ∧ v = .int .i64 (p : Int) ∧ Hid (Below w3.heap.size w3 wr)) (fun v _ => M - (intOf v).toNat)
    case atStart => exact ⟨m, Nat.le_refl _, by omega, rfl, Below.refl _ _⟩
    case round =>
      obtain ⟨p, hp1, hp2, rfl, HW⟩ := hrel
      by_cases hlt : p < M
      · have hlt2 : (p : Int) < (M : Int) := by omega
        obtain ⟨v0, hv0⟩ : ∃ v0, v0 = wr := ⟨_, rfl⟩
        subst hv0
        go_upto_region 14 with (go_at_call 22; refine (HTR2.out _ p hp1 hlt (bel_on HB13.out HW.out)).mono ?_; rintro e w4 ⟨ad4, cap4, rfl, i4, b4⟩; have HI4 : Hid (IR w4 ad4 m (trV M c m z (p : Int))) := i4; have HB4 : Hid (Below w3.heap.size w3 w4) := bel_on HW.out b4; clear i4 b4)
        obtain ⟨T, hT⟩ : ∃ T, XV p - c p = T := ⟨_, rfl⟩
        have hsum : Hid (∀ W, IR W ad4 m (trV M c m z (p : Int)) → Calls Try.prog 13 #[.slice ad4 m cap4] W fun e w' => e = .returned (.int .i64 T) ∧ w' = W) := fun W h => by
          have := lsum_any ad4 m cap4 _ W hMm h (HBT.out p hp1 hlt)
          rw [HFT.out p hp1 hlt, hT] at this; exact this
        have hsum2 : Hid (∀ q, Calls Try.prog 13 #[.slice ad4 m cap4] (w4.drewN q) fun e w' => e = .returned (.int .i64 T) ∧ w' = w4.drewN q) := fun q => hsum.out _ (HI4.out.drewN q)
        obtain ⟨oa, oo, rfl, _⟩ := HI3.out.addr (by omega)
        have r1 := (HI3.out.below HB4.out).cell hlt
        have r2 := (HO3.out.below HB4.out).cell hlt
        rw [Nat.zero_add] at r2
        obtain ⟨x, hx⟩ : ∃ x, XV p = x := ⟨_, rfl⟩
        obtain ⟨y, hy⟩ : ∃ y, c p = y := ⟨_, rfl⟩
        have ax := HAX.out p hlt
        have ay := HAC.out p hlt
        rw [hx] at ax hT r2
        rw [hy] at ay hT r1
        have wT : IntKind.i64.wrap (x - y) = T := by rw [hT, IntWalk.i64_in _ ⟨by unfold AmtP at ax ay; omega, by unfold AmtP at ax ay; omega⟩]
        clear hx hy ax ay hT
        go_quiet (first | (go_at_call 13; exact Calls.quiet_of_same (hsum2.out _)))
        go_wp2
        go_roundw
        case rel => exact ⟨p + 1, by omega, by omega, by go_num, bel_drewN HB4.out _⟩
        case measure => simp [intOf]; omega
      · obtain rfl : p = M := by omega
        have lkk : ¬ (p : Int) < (p : Int) := by omega
        go_wp2
        go_returns
        exact ⟨rfl, bel_on HB3.out HW.out⟩
end Go.Proofs.Ytjlniinahfgakaa

namespace Go.Proofs.Ytjlniinahfgakaa
open Go Go.ChangeShapes Go.WideShapes Go.ChangeAt Go.RowKit
set_option linter.unusedVariables false
set_option linter.unusedSimpArgs false

set_option maxRecDepth 20000 in
set_option maxHeartbeats 1000000 in
theorem drawMutual_any (a0 : Option Addr) (len0 cap0 : Nat) (w : World) (hl : (len0 : Int) ≤ 1048576) (hr : ByteRow w w.heap.size a0 len0) :
    Calls Try.prog 19 #[.slice a0 len0 cap0] w (MuD w) := by
  have HN : Hid (Calls Try.prog 36 #[.slice a0 len0 cap0] w fun e w' => e = .returned (.pointer (some ⟨w.heap.size, 0, none⟩)) ∧ Cursor w' w.heap.size ∧ Below w.heap.size w w') := new_any a0 len0 cap0 w (by omega) hr
  obtain ⟨b, hb⟩ : ∃ b, w.heap.size = b := ⟨_, rfl⟩
  rw [hb] at HN
  have HBB : Hid (w.heap.size = b) := hb
  clear hr hb
  go_enter Try.func19, Try.ntmps19
  go_wp2_with (first
    | (go_at_call 36; refine HN.out.mono ?_; rintro e w1 ⟨rfl, c1, b1⟩; have HC1 : Hid (Cursor w1 b) := c1; have HB1 : Hid (Below w.heap.size w w1) := (HBB.out ▸ b1); clear c1 b1)
    | (go_at_call 62; refine (drawMutualC_any b _ HC1.out).mono ?_; rintro e w2 ⟨ca, N, cc, c, sv, ad, m, cap, ln, z, rfl, hbd, ir, sr, t2⟩; have HF : Hid (MuD w (.returned (.tuple #[.slice ca N cc, .int .i64 sv, .slice ad m cap])) w2) := ⟨ca, N, cc, c, sv, ad, m, cap, ln, z, rfl, hbd, ir, sr, (by have e := HBB.out; subst e; exact HB1.out.trans (t2.below (Nat.le_refl _) HB1.out.size))⟩; clear hbd ir sr t2))
  go_returns
  exact HF.out
end Go.Proofs.Ytjlniinahfgakaa
