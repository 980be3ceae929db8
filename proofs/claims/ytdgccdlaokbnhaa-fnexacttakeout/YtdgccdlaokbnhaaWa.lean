/- Worths: WorthOk of the program answers woB. -/
import Derived.Test.YtdgccdlaokbnhaaWp
namespace Go.Proofs.Ytdgccdlaokbnhaa
open Go.ChangeShapes Go.WideShapes Go.ChangeAt Go.RowKit
set_option linter.unusedVariables false
set_option linter.unusedSimpArgs false


theorem cell_lt {W : World} {b o : Nat} {v : Value} (hc : W.cell? ⟨b, o, none⟩ = some v) : b < W.heap.size := by
  unfold World.cell? at hc
  rcases Nat.lt_or_ge b W.heap.size with g | g
  · exact g
  · simp [Array.getElem?_eq_none g] at hc
theorem with_any (a b c d : Int) (w : World) (h1 : -1000000000000000 ≤ a ∧ a ≤ 1000000000000000) (h2 : -1000000000000000 ≤ b ∧ b ≤ 1000000000000000) (h3 : -1000000000000000 ≤ c ∧ c ≤ 1000000000000000) (h4 : -1000000000000000 ≤ d ∧ d ≤ 1000000000000000) :
    Calls Try.prog 82 #[.agg #[.int .i64 a, .int .i64 b], .agg #[.int .i64 c, .int .i64 d]] w fun e w' => e = .returned (.agg #[.int .i64 (a + c), .int .i64 (b + d)]) ∧ Below w.heap.size w w' := by
  obtain ⟨h1, h1'⟩ := h1
  obtain ⟨h2, h2'⟩ := h2
  obtain ⟨h3, h3'⟩ := h3
  obtain ⟨h4, h4'⟩ := h4
  go_enter Try.func82, Try.ntmps82
  go_wp2
  go_returns
  exact ⟨rfl, by go_grown⟩
theorem with_eq (a b c d x y : Int) (w : World) (h1 : -1000000000000000 ≤ a ∧ a ≤ 1000000000000000) (h2 : -1000000000000000 ≤ b ∧ b ≤ 1000000000000000) (h3 : -1000000000000000 ≤ c ∧ c ≤ 1000000000000000) (h4 : -1000000000000000 ≤ d ∧ d ≤ 1000000000000000) (hx : a + c = x) (hy : b + d = y) :
    Calls Try.prog 82 #[.agg #[.int .i64 a, .int .i64 b], .agg #[.int .i64 c, .int .i64 d]] w fun e w' => e = .returned (.agg #[.int .i64 x, .int .i64 y]) ∧ Below w.heap.size w w' := by
  subst hx; subst hy; exact with_any a b c d w h1 h2 h3 h4

set_option maxRecDepth 20000 in
set_option maxHeartbeats 4000000 in
theorem allOf_any (ad : Option Addr) (n cap : Nat) (c : Nat → LA2) (w : World) (h : n ≤ 300) (hl : ∀ j, j < n → laB (c j) = true) (hr : LAr w ad n c) :
    Calls Try.prog 63 #[.slice ad n cap] w fun e w' => e = .returned (.agg #[.int .i64 (qS c n), .int .i64 (kS c n)]) ∧ Below w.heap.size w w' := by
  have HR : Hid (LAr w ad n c) := hr
  have HL : Hid (∀ j, j < n → laB (c j) = true) := hl
  clear hr hl
  have hn : (n : Int) ≤ 300 := by omega
  go_enter Try.func63, Try.ntmps63
  go_wp2
  go_loopw [9] (fun i wr => ∃ (k : Nat) (Q K : Int), k ≤ n ∧ i = .int .i64 (k : Int) ∧ Hid (qS c k = Q ∧ kS c k = K) ∧ Hid (CB wr (w.heap.size + 1) #[.int .i64 Q, .int .i64 K] 40) ∧ Hid (CB wr w.heap.size #[.int .i64 0, .int .i64 0] 40) ∧ Hid (Below w.heap.size w wr)) (fun i _ => n - (intOf i).toNat)
  case atStart => exact ⟨0, 0, 0, Nat.zero_le _, rfl, ⟨rfl, rfl⟩, CB.newAt (by simp) _ _, (CB.new _ _).alloc _, ((Below.refl _ _).alloc (Nat.le_refl _) _).alloc (by simp) _⟩
  case round =>
    obtain ⟨k, Q, K, hk, rfl, HS, HC, HD, HB⟩ := hrel
    have hsz := HD.out.lt
    have e0 : wr.cell? ⟨w.heap.size + 1, 0, none⟩ = some (.int .i64 Q) := HC.out.cell 0
    have e1 : wr.cell? ⟨w.heap.size + 1, 1, none⟩ = some (.int .i64 K) := HC.out.cell 1
    have f0 := HC.out.fr 0
    have f1 := HC.out.fr 1
    have hsz1 := HC.out.lt
    by_cases hlt : k < n
    · have hlt2 : (k : Int) < (n : Int) := by omega
      obtain ⟨kb, off, rfl, hkb⟩ := HR.out.addr (by omega)
      obtain ⟨c0, c1⟩ := (HR.out.below HB.out).cell hlt
      obtain ⟨b1, b2, b3, b4⟩ := sums_bd k (fun j hj => HL.out j (by omega))
      rw [HS.out.1] at b1 b2
      rw [HS.out.2] at b3 b4
      obtain ⟨⟨g1, g2⟩, g3, g4⟩ := laB_p (HL.out k hlt)
      have HS2 : Hid (qS c (k + 1) = Q + (c k).qty ∧ kS c (k + 1) = K + (c k).cost) := ⟨by simp only [qS]; rw [HS.out.1], by simp only [kS]; rw [HS.out.2]⟩
      generalize (c k).qty = x at c0 g1 g2 HS2
      generalize (c k).cost = y at c1 g3 g4 HS2
      have HBB : Hid (Q ≤ 1000000000000 ∧ 0 ≤ Q ∧ 0 ≤ K ∧ K ≤ 100000000000000) := ⟨by omega, by omega, by omega, by omega⟩
      clear b1 b2 b3 b4
      go_wp2_with (go_at_call 82; refine (with_any _ _ _ _ _ (by have := HBB.out; omega) (by have := HBB.out; omega) (by omega) (by omega)).mono ?_; rintro e w1 ⟨rfl, b1⟩; have X1 : CB w1 (w.heap.size + 1) #[.int .i64 Q, .int .i64 K] 40 := (HC.out.alloc _).below b1 (HC.out.alloc _).lt; have X0 : CB w1 w.heap.size #[.int .i64 0, .int .i64 0] 40 := (HD.out.alloc _).below b1 (HD.out.alloc _).lt; have y0 : w1.cell? ⟨w.heap.size + 1, 0, none⟩ = some (.int .i64 Q) := X1.cell 0; have y1 : w1.cell? ⟨w.heap.size + 1, 1, none⟩ = some (.int .i64 K) := X1.cell 1; have z0 := X1.fr 0; have z1 := X1.fr 1; have HX := hid X1; have HX0 := hid X0; have HB1 : Hid (Below w.heap.size w w1) := bel_on (HB.out.alloc HB.out.size _) b1; clear X1 X0 b1)
      go_roundw
      case rel => exact ⟨k + 1, Q + x, K + y, by omega, by go_num, HS2.out, hid (by simpa using (HX.out.set 0 (.int .i64 (Q + x))).set 1 (.int .i64 (K + y))), (HX0.out.other _ (by omega)).other _ (by omega), (HB1.out.setCell (by simp) _).setCell (by simp) _⟩
      case measure => simp [intOf]; omega
    · obtain rfl : k = n := by omega
      have lkk : ¬ (k : Int) < (k : Int) := by omega
      have d0 : wr.cell? ⟨w.heap.size, 0, none⟩ = some (.int .i64 0) := HD.out.cell 0
      have d1 : wr.cell? ⟨w.heap.size, 1, none⟩ = some (.int .i64 0) := HD.out.cell 1
      have g0 := HD.out.fr 0
      have g1 := HD.out.fr 1
      have ZC : CB ((wr.setCell ⟨w.heap.size, 0, none⟩ (.int .i64 Q)).setCell ⟨w.heap.size, 1, none⟩ (.int .i64 K)) w.heap.size #[.int .i64 Q, .int .i64 K] 40 := by simpa using (HD.out.set 0 (.int .i64 Q)).set 1 (.int .i64 K)
      have ZB : Below w.heap.size w ((wr.setCell ⟨w.heap.size, 0, none⟩ (.int .i64 Q)).setCell ⟨w.heap.size, 1, none⟩ (.int .i64 K)) := (HB.out.setCell (Nat.le_refl _) _).setCell (Nat.le_refl _) _
      have HZ := hid ZC
      have HZB := hid ZB
      clear ZC ZB
      go_wp2
      have ZC := HZ.out
      have ZB := HZB.out
      generalize (wr.setCell ⟨w.heap.size, 0, none⟩ (.int .i64 Q)).setCell ⟨w.heap.size, 1, none⟩ (.int .i64 K) = W9 at ZC ZB ⊢
      have z0 : W9.cell? ⟨w.heap.size, 0, none⟩ = some (.int .i64 Q) := ZC.cell 0
      have z1 : W9.cell? ⟨w.heap.size, 1, none⟩ = some (.int .i64 K) := ZC.cell 1
      refine bodyPost_ret (v := .agg #[.int .i64 Q, .int .i64 K]) (by simp [results, Try.results63, go_sem, z0, z1]; try rfl) rfl ?_
      exact ⟨by rw [HS.out.1, HS.out.2], ZB⟩
theorem allOf_eq (ad : Option Addr) (n cap : Nat) (c : Nat → LA2) (Q K : Int) (w : World) (h : n ≤ 300) (hl : ∀ j, j < n → laB (c j) = true) (hr : LAr w ad n c) (hQ : qS c n = Q) (hK : kS c n = K) :
    Calls Try.prog 63 #[.slice ad n cap] w fun e w' => e = .returned (.agg #[.int .i64 Q, .int .i64 K]) ∧ Below w.heap.size w w' := by
  subst hQ; subst hK; exact allOf_any ad n cap c w h hl hr

theorem mostLays_any (m p : Int) (ad : Option Addr) (n cap : Nat) (off : Int) (w : World) :
    Calls Try.prog 62 #[.agg #[.int .i64 m, .int .i64 p, .slice ad n cap, .int .i64 off]] w fun e w' => e = .returned (.int .i64 (mlN m : Int)) ∧ Below w.heap.size w w' := by
  by_cases h3 : m = 3
  · have HV : Hid ((mlN m : Int) = 1) := hid (by unfold mlN; rw [if_pos (Or.inl h3)]; rfl)
    subst h3
    go_enter Try.func62, Try.ntmps62
    go_wp2
    go_returns
    exact ⟨ret_i HV.out.symm, by go_grown⟩
  by_cases h4 : m = 4
  · have HV : Hid ((mlN m : Int) = 1) := hid (by unfold mlN; rw [if_pos (Or.inr h4)]; rfl)
    subst h4
    go_enter Try.func62, Try.ntmps62
    go_wp2
    go_returns
    exact ⟨ret_i HV.out.symm, by go_grown⟩
  have HV : Hid ((mlN m : Int) = 300) := hid (by unfold mlN; rw [if_neg (by omega)]; rfl)
  have h3' : (m == 3) = false := by simpa using h3
  have h4' : (m == 4) = false := by simpa using h4
  clear h3 h4
  go_enter Try.func62, Try.ntmps62
  go_wp2
  go_returns
  exact ⟨ret_i HV.out.symm, by go_grown⟩
theorem mostLays_eq (m p : Int) (ad : Option Addr) (n cap : Nat) (off : Int) (M : Nat) (w : World) (h : mlN m = M) :
    Calls Try.prog 62 #[.agg #[.int .i64 m, .int .i64 p, .slice ad n cap, .int .i64 off]] w fun e w' => e = .returned (.int .i64 (M : Int)) ∧ Below w.heap.size w w' := by
  subst h; exact mostLays_any m p ad n cap off w
/-- What isPriced answers. -/
def prB (m p off Q K : Int) : Bool := if m = 4 then inB p 0 100000 && inB off (-100000000000) 100000000000 && (K == Q * p) else (inB m 1 3 && (p == 0) && (off == 0))

set_option maxRecDepth 20000 in
set_option maxHeartbeats 4000000 in
theorem isPriced_any (m p : Int) (ad : Option Addr) (n cap : Nat) (off Q K : Int) (w : World) (hQ : 0 ≤ Q) (hQ1 : Q ≤ 1000000000) :
    Calls Try.prog 66 #[.agg #[.int .i64 m, .int .i64 p, .slice ad n cap, .int .i64 off], .agg #[.int .i64 Q, .int .i64 K]] w fun e w' => e = .returned (.bool (prB m p off Q K)) ∧ Below w.heap.size w w' := by
  obtain ⟨v, hv⟩ : ∃ v, prB m p off Q K = v := ⟨_, rfl⟩
  rw [hv]
  by_cases h4 : m = 4
  · subst h4
    cases hp : inB p 0 100000
    · obtain rfl : v = false := by rw [← hv]; simp [prB, hp]
      have HP : Hid (inB p 0 100000 = false) := hp
      have HO : Hid (inB off (-100000000000) 100000000000 = inB off (-100000000000) 100000000000) := rfl
      clear hp hv
      go_enter Try.func66, Try.ntmps66
      go_wp2_with (first | (go_at_call 94; refine (isPrice_eq _ _ _ HP.out).mono ?_; rintro e w1 ⟨rfl, rfl⟩) | (go_at_call 74; refine (isAmt_eq _ _ _ HO.out).mono ?_; rintro e w1 ⟨rfl, rfl⟩))
      go_returns
      exact ⟨rfl, by go_grown⟩
    cases ho : inB off (-100000000000) 100000000000
    · obtain rfl : v = false := by rw [← hv]; simp [prB, hp, ho]
      have HP : Hid (inB p 0 100000 = true) := hp
      have HO : Hid (inB off (-100000000000) 100000000000 = false) := ho
      clear hp ho hv
      go_enter Try.func66, Try.ntmps66
      go_wp2_with (first | (go_at_call 94; refine (isPrice_eq _ _ _ HP.out).mono ?_; rintro e w1 ⟨rfl, rfl⟩) | (go_at_call 74; refine (isAmt_eq _ _ _ HO.out).mono ?_; rintro e w1 ⟨rfl, rfl⟩))
      go_returns
      exact ⟨rfl, by go_grown⟩
    obtain ⟨p0, p1⟩ := inB_t hp
    obtain ⟨R, hR⟩ : ∃ R, Q * p = R := ⟨_, rfl⟩
    have hm0 : 0 ≤ R := by rw [← hR]; exact Int.mul_nonneg hQ p0
    have hm1 : R ≤ 1000000000 * 100000 := by
      have h1 : Q * p ≤ 1000000000 * p := Int.mul_le_mul_of_nonneg_right hQ1 p0
      have h2 : 1000000000 * p ≤ 1000000000 * 100000 := Int.mul_le_mul_of_nonneg_left p1 (by decide)
      omega
    have hv2 : (K == R) = v := by rw [← hv, ← hR]; simp [prB, hp, ho]
    have hw : IntKind.i64.wrap (Q * p) = R := by rw [hR]; exact IntWalk.i64_in (by omega) (by omega)
    have HP : Hid (inB p 0 100000 = true) := hp
    have HO : Hid (inB off (-100000000000) 100000000000 = true) := ho
    clear hp ho hv p0 p1
    clear hR
    have HW := hid hv2
    go_enter Try.func66, Try.ntmps66
    go_wp2_with (first | (go_at_call 94; refine (isPrice_eq _ _ _ HP.out).mono ?_; rintro e w1 ⟨rfl, rfl⟩) | (go_at_call 74; refine (isAmt_eq _ _ _ HO.out).mono ?_; rintro e w1 ⟨rfl, rfl⟩))
    go_returns
    exact ⟨rfl, by go_grown⟩
  · have h4' : (m == 4) = false := by simpa using h4
    by_cases h13 : 1 ≤ m ∧ m ≤ 3
    · have hv2 : ((p == 0) && (off == 0)) = v := by rw [← hv]; unfold prB; rw [if_neg h4, inB_y h13.1 h13.2]; simp
      have HW := hid hv2
      clear hv hv2 h4
      rcases (show m = 1 ∨ m = 2 ∨ m = 3 by omega) with rfl | rfl | rfl
      all_goals clear h13 h4'
      all_goals (cases hp : (p == 0))
      all_goals (go_enter Try.func66, Try.ntmps66; go_wp2; go_returns; exact ⟨ret_bool (by rw [← HW.out, hp]; rfl), by go_grown⟩)
    · obtain rfl : v = false := by
        rw [← hv]; unfold prB; rw [if_neg h4]
        have : inB m 1 3 = false := decide_eq_false h13
        rw [this]; rfl
      have h1 : (m == 1) = false := by simp; omega
      have h2 : (m == 2) = false := by simp; omega
      have h3 : (m == 3) = false := by simp; omega
      clear hv h13 h4
      go_enter Try.func66, Try.ntmps66
      go_wp2
      go_returns
      exact ⟨rfl, by go_grown⟩
theorem isPriced_eq (m p : Int) (ad : Option Addr) (n cap : Nat) (off Q K : Int) (v : Bool) (w : World) (hQ : 0 ≤ Q) (hQ1 : Q ≤ 1000000000) (hv : prB m p off Q K = v) :
    Calls Try.prog 66 #[.agg #[.int .i64 m, .int .i64 p, .slice ad n cap, .int .i64 off], .agg #[.int .i64 Q, .int .i64 K]] w fun e w' => e = .returned (.bool v) ∧ Below w.heap.size w w' := by
  subst hv; exact isPriced_any m p ad n cap off Q K w hQ hQ1
theorem woB_is {m p off : Int} {n : Nat} {c : Nat → LA2} (h : arB (mlN m) n c = true) : woB m p n c off = (inB (qS c n) 0 1000000 && inB (kS c n) 0 100000000000 && prB m p off (qS c n) (kS c n)) := by
  obtain ⟨h1, h2⟩ := arB_p h
  obtain ⟨b1, b2, b3, b4⟩ := sums_bd n h2
  cases hq : inB (qS c n) 0 1000000
  · exact woB_f fun H => by have := H.bd; have := inB_f hq; omega
  cases hk : inB (kS c n) 0 100000000000
  · exact woB_f fun H => by have := H.bd; have := inB_f hk; omega
  have q2 := (inB_t hq).2
  have k2 := (inB_t hk).2
  simp only [Bool.true_and]
  by_cases h4 : m = 4
  · cases hp : inB p 0 100000
    · rw [show prB m p off (qS c n) (kS c n) = false by simp [prB, h4, hp]]
      exact woB_f fun H => by have := (H.std h4).1; have := inB_f hp; omega
    cases ho : inB off (-100000000000) 100000000000
    · rw [show prB m p off (qS c n) (kS c n) = false by simp [prB, h4, hp, ho]]
      exact woB_f fun H => by have := (H.std h4).2.1; have := inB_f ho; omega
    rw [show prB m p off (qS c n) (kS c n) = (kS c n == qS c n * p) by simp [prB, h4, hp, ho]]
    cases he : (kS c n == qS c n * p)
    · exact woB_f fun H => by have := (H.std h4).2.2; simp [this] at he
    · exact woB_t ⟨by omega, h1, h2, fun _ => ⟨inB_t hp, inB_t ho, by simpa using he⟩, fun e => absurd h4 e, q2, k2⟩
  · cases hm : inB m 1 3
    · rw [show prB m p off (qS c n) (kS c n) = false by simp [prB, h4, hm]]
      exact woB_f fun H => by have := H.met; have := inB_f hm; omega
    rw [show prB m p off (qS c n) (kS c n) = ((p == 0) && (off == 0)) by simp [prB, h4, hm]]
    cases hp : (p == 0)
    · exact woB_f fun H => by have := (H.oth h4).1; simp [this] at hp
    cases ho : (off == 0)
    · exact woB_f fun H => by have := (H.oth h4).2; simp [this] at ho
    have := inB_t hm
    exact woB_t ⟨by omega, h1, h2, fun e => absurd e h4, fun _ => ⟨by simpa using hp, by simpa using ho⟩, q2, k2⟩

theorem areLay_eq (M : Nat) (ad : Option Addr) (len cap : Nat) (c : Nat → LA2) (v : Bool) (w : World) (h : (len : Int) ≤ 1048576) (hr : LAr w ad len c) (hv : arB M len c = v) :
    Calls Try.prog 61 #[.slice ad len cap, .int .i64 (M : Int)] w fun e w' => e = .returned (.bool v) ∧ Below w.heap.size w w' := by
  subst hv; exact areLay_any M ad len cap c w h hr
set_option maxRecDepth 20000 in
set_option maxHeartbeats 8000000 in
theorem implWorth_any (m p : Int) (ad : Option Addr) (n cap : Nat) (off : Int) (c : Nat → LA2) (w : World) (h : (n : Int) ≤ 1048576) (hr : LAr w ad n c) :
    Calls Try.prog 18 #[.agg #[.int .i64 m, .int .i64 p, .slice ad n cap, .int .i64 off]] w fun e w' => e = .returned (.bool (woB m p n c off)) ∧ Below w.heap.size w w' := by
  have HR : Hid (LAr w ad n c) := hr
  obtain ⟨v, hv⟩ : ∃ v, woB m p n c off = v := ⟨_, rfl⟩
  rw [hv]
  obtain ⟨M, hM⟩ : ∃ M, mlN m = M := ⟨_, rfl⟩
  have HM : Hid (mlN m = M) := hM
  clear hr
  cases ha : arB (mlN m) n c
  · obtain rfl : v = false := by rw [← hv]; exact woB_ar ha
    rw [hM] at ha
    have HA : Hid (arB M n c = false) := ha
    clear ha hM hv
    go_enter Try.func18, Try.ntmps18
    go_wp2
    have B0 : Below w.heap.size w (w.alloc (.cells #[.int .i64 m, .int .i64 p, .slice ad n cap, .int .i64 off] 26)).drew := ((Below.refl _ _).alloc (Nat.le_refl _) _).drew
    have R0 : LAr (w.alloc (.cells #[.int .i64 m, .int .i64 p, .slice ad n cap, .int .i64 off] 26)).drew ad n c := HR.out.alloc _

    go_region_held3 (fun w' => (w'.cell? ⟨w.heap.size, 0, none⟩ = some (.int .i64 m) ∧ w'.cell? ⟨w.heap.size, 1, none⟩ = some (.int .i64 p) ∧ w'.cell? ⟨w.heap.size, 2, none⟩ = some (.slice ad n cap) ∧ w'.cell? ⟨w.heap.size, 3, none⟩ = some (.int .i64 off)) ∧ Below w.heap.size w w' ∧ LAr w' ad n c)
      (refine ⟨⟨?_, ?_, ?_, ?_⟩, ?_, ?_⟩ <;> first | assumption | (simp [*]; done))
      (first
      | (go_at_call 62; refine (mostLays_eq m p ad n cap off M _ HM.out).mono ?_; rintro e w9 ⟨rfl, b9⟩; have q0 : w9.cell? ⟨w.heap.size, 0, none⟩ = some (.int .i64 m) := keep_cell b9 (by simp [*]); have q1 : w9.cell? ⟨w.heap.size, 1, none⟩ = some (.int .i64 p) := keep_cell b9 (by simp [*]); have q2 : w9.cell? ⟨w.heap.size, 2, none⟩ = some (.slice ad n cap) := keep_cell b9 (by simp [*]); have q3 : w9.cell? ⟨w.heap.size, 3, none⟩ = some (.int .i64 off) := keep_cell b9 (by simp [*]); have q4 : Below w.heap.size w w9 := bel_on (by assumption) b9; have q5 : LAr w9 ad n c := LAr.below (by assumption) b9)
      | (go_at_call 61; refine (areLay_eq M ad n cap c false _ h (by assumption) HA.out).mono ?_; rintro e w9 ⟨rfl, b9⟩; have q0 : w9.cell? ⟨w.heap.size, 0, none⟩ = some (.int .i64 m) := keep_cell b9 (by simp [*]); have q1 : w9.cell? ⟨w.heap.size, 1, none⟩ = some (.int .i64 p) := keep_cell b9 (by simp [*]); have q2 : w9.cell? ⟨w.heap.size, 2, none⟩ = some (.slice ad n cap) := keep_cell b9 (by simp [*]); have q3 : w9.cell? ⟨w.heap.size, 3, none⟩ = some (.int .i64 off) := keep_cell b9 (by simp [*]); have q4 : Below w.heap.size w w9 := bel_on (by assumption) b9; have q5 : LAr w9 ad n c := LAr.below (by assumption) b9))
    go_wp2
    go_returns
    exact ⟨rfl, q4⟩
  have hw := woB_is (p := p) (off := off) ha
  rw [hv] at hw
  obtain ⟨hn0, hlay⟩ := arB_p ha
  have hn3 : n ≤ 300 := Nat.le_trans hn0 mlN_le
  obtain ⟨b1, b2, b3, b4⟩ := sums_bd n hlay
  obtain ⟨Q, hQ⟩ : ∃ Q, qS c n = Q := ⟨_, rfl⟩
  obtain ⟨K, hK⟩ : ∃ K, kS c n = K := ⟨_, rfl⟩
  rw [hQ, hK] at hw
  rw [hQ] at b1 b2
  rw [hK] at b3 b4
  have HQ : Hid (qS c n = Q) := hQ
  have HK : Hid (kS c n = K) := hK
  have HL : Hid (∀ j, j < n → laB (c j) = true) := hlay
  rw [hM] at ha
  have HA : Hid (arB M n c = true) := ha
  have hq0 : 0 ≤ Q := by omega
  have hq1 : Q ≤ 1000000000 := by omega
  have HW : Hid (v = (inB Q 0 1000000 && inB K 0 100000000000 && prB m p off Q K)) := hw
  clear ha hM hv hw hQ hK hlay b1 b2 b3 b4 hn0
  go_enter Try.func18, Try.ntmps18
  go_wp2
  have B0 : Below w.heap.size w (w.alloc (.cells #[.int .i64 m, .int .i64 p, .slice ad n cap, .int .i64 off] 26)).drew := ((Below.refl _ _).alloc (Nat.le_refl _) _).drew
  have R0 : LAr (w.alloc (.cells #[.int .i64 m, .int .i64 p, .slice ad n cap, .int .i64 off] 26)).drew ad n c := HR.out.alloc _

  go_region_held3 (fun w' => (w'.cell? ⟨w.heap.size, 0, none⟩ = some (.int .i64 m) ∧ w'.cell? ⟨w.heap.size, 1, none⟩ = some (.int .i64 p) ∧ w'.cell? ⟨w.heap.size, 2, none⟩ = some (.slice ad n cap) ∧ w'.cell? ⟨w.heap.size, 3, none⟩ = some (.int .i64 off)) ∧ Below w.heap.size w w' ∧ LAr w' ad n c)
    (refine ⟨⟨?_, ?_, ?_, ?_⟩, ?_, ?_⟩ <;> first | assumption | (simp [*]; done))
    (first
    | (go_at_call 62; refine (mostLays_eq m p ad n cap off M _ HM.out).mono ?_; rintro e w9 ⟨rfl, b9⟩; have q0 : w9.cell? ⟨w.heap.size, 0, none⟩ = some (.int .i64 m) := keep_cell b9 (by simp [*]); have q1 : w9.cell? ⟨w.heap.size, 1, none⟩ = some (.int .i64 p) := keep_cell b9 (by simp [*]); have q2 : w9.cell? ⟨w.heap.size, 2, none⟩ = some (.slice ad n cap) := keep_cell b9 (by simp [*]); have q3 : w9.cell? ⟨w.heap.size, 3, none⟩ = some (.int .i64 off) := keep_cell b9 (by simp [*]); have q4 : Below w.heap.size w w9 := bel_on (by assumption) b9; have q5 : LAr w9 ad n c := LAr.below (by assumption) b9)
    | (go_at_call 61; refine (areLay_eq M ad n cap c true _ h (by assumption) HA.out).mono ?_; rintro e w9 ⟨rfl, b9⟩; have q0 : w9.cell? ⟨w.heap.size, 0, none⟩ = some (.int .i64 m) := keep_cell b9 (by simp [*]); have q1 : w9.cell? ⟨w.heap.size, 1, none⟩ = some (.int .i64 p) := keep_cell b9 (by simp [*]); have q2 : w9.cell? ⟨w.heap.size, 2, none⟩ = some (.slice ad n cap) := keep_cell b9 (by simp [*]); have q3 : w9.cell? ⟨w.heap.size, 3, none⟩ = some (.int .i64 off) := keep_cell b9 (by simp [*]); have q4 : Below w.heap.size w w9 := bel_on (by assumption) b9; have q5 : LAr w9 ad n c := LAr.below (by assumption) b9))
  cases h1 : inB Q 0 1000000
  · have H1 : Hid (inB Q 0 1000000 = false) := hid h1
    have H2 : Hid (inB K 0 100000000000 = inB K 0 100000000000) := hid rfl
    have H3 : Hid (prB m p off Q K = prB m p off Q K) := hid rfl
    obtain rfl : v = false := by rw [HW.out, H1.out, H2.out, H3.out]; simp
    clear HW
    try clear h1
    try clear h2
    try clear h3
    go_wp2_with (first
        | (go_at_call 63; refine (allOf_eq ad n cap c Q K _ hn3 HL.out (by assumption) HQ.out HK.out).mono ?_; rintro e wA ⟨rfl, bA⟩; have r0 : wA.cell? ⟨w.heap.size, 0, none⟩ = some (.int .i64 m) := keep_cell bA q0; have r1 : wA.cell? ⟨w.heap.size, 1, none⟩ = some (.int .i64 p) := keep_cell bA q1; have r2 : wA.cell? ⟨w.heap.size, 2, none⟩ = some (.slice ad n cap) := keep_cell bA q2; have r3 : wA.cell? ⟨w.heap.size, 3, none⟩ = some (.int .i64 off) := keep_cell bA q3; have hltA := cell_lt r0; have HBA : Hid (Below w.heap.size w wA) := hid (bel_on (by assumption) bA); clear bA)
        | (go_at_call 64; refine (isQty_eq _ _ _ H1.out).mono ?_; rintro e w1 ⟨rfl, rfl⟩)
        | (go_at_call 65; refine (isAmt0_eq _ _ _ H2.out).mono ?_; rintro e w1 ⟨rfl, rfl⟩)
        | (go_at_call 66; refine (isPriced_eq m p ad n cap off Q K _ _ hq0 hq1 H3.out).mono ?_; rintro e wB ⟨rfl, bB⟩; have HBB : Hid (Below w.heap.size w wB) := hid (bel_on (HBA.out.alloc HBA.out.size _) bB); clear bB))
    go_returns
    exact ⟨rfl, HBA.out.alloc HBA.out.size _⟩
  cases h2 : inB K 0 100000000000
  · have H1 : Hid (inB Q 0 1000000 = true) := hid h1
    have H2 : Hid (inB K 0 100000000000 = false) := hid h2
    have H3 : Hid (prB m p off Q K = prB m p off Q K) := hid rfl
    obtain rfl : v = false := by rw [HW.out, H1.out, H2.out, H3.out]; simp
    clear HW
    try clear h1
    try clear h2
    try clear h3
    go_wp2_with (first
        | (go_at_call 63; refine (allOf_eq ad n cap c Q K _ hn3 HL.out (by assumption) HQ.out HK.out).mono ?_; rintro e wA ⟨rfl, bA⟩; have r0 : wA.cell? ⟨w.heap.size, 0, none⟩ = some (.int .i64 m) := keep_cell bA q0; have r1 : wA.cell? ⟨w.heap.size, 1, none⟩ = some (.int .i64 p) := keep_cell bA q1; have r2 : wA.cell? ⟨w.heap.size, 2, none⟩ = some (.slice ad n cap) := keep_cell bA q2; have r3 : wA.cell? ⟨w.heap.size, 3, none⟩ = some (.int .i64 off) := keep_cell bA q3; have hltA := cell_lt r0; have HBA : Hid (Below w.heap.size w wA) := hid (bel_on (by assumption) bA); clear bA)
        | (go_at_call 64; refine (isQty_eq _ _ _ H1.out).mono ?_; rintro e w1 ⟨rfl, rfl⟩)
        | (go_at_call 65; refine (isAmt0_eq _ _ _ H2.out).mono ?_; rintro e w1 ⟨rfl, rfl⟩)
        | (go_at_call 66; refine (isPriced_eq m p ad n cap off Q K _ _ hq0 hq1 H3.out).mono ?_; rintro e wB ⟨rfl, bB⟩; have HBB : Hid (Below w.heap.size w wB) := hid (bel_on (HBA.out.alloc HBA.out.size _) bB); clear bB))
    go_returns
    exact ⟨rfl, HBA.out.alloc HBA.out.size _⟩
  cases h3 : prB m p off Q K
  · have H1 : Hid (inB Q 0 1000000 = true) := hid h1
    have H2 : Hid (inB K 0 100000000000 = true) := hid h2
    have H3 : Hid (prB m p off Q K = false) := hid h3
    obtain rfl : v = false := by rw [HW.out, H1.out, H2.out, H3.out]; simp
    clear HW
    try clear h1
    try clear h2
    try clear h3
    go_wp2_with (first
        | (go_at_call 63; refine (allOf_eq ad n cap c Q K _ hn3 HL.out (by assumption) HQ.out HK.out).mono ?_; rintro e wA ⟨rfl, bA⟩; have r0 : wA.cell? ⟨w.heap.size, 0, none⟩ = some (.int .i64 m) := keep_cell bA q0; have r1 : wA.cell? ⟨w.heap.size, 1, none⟩ = some (.int .i64 p) := keep_cell bA q1; have r2 : wA.cell? ⟨w.heap.size, 2, none⟩ = some (.slice ad n cap) := keep_cell bA q2; have r3 : wA.cell? ⟨w.heap.size, 3, none⟩ = some (.int .i64 off) := keep_cell bA q3; have hltA := cell_lt r0; have HBA : Hid (Below w.heap.size w wA) := hid (bel_on (by assumption) bA); clear bA)
        | (go_at_call 64; refine (isQty_eq _ _ _ H1.out).mono ?_; rintro e w1 ⟨rfl, rfl⟩)
        | (go_at_call 65; refine (isAmt0_eq _ _ _ H2.out).mono ?_; rintro e w1 ⟨rfl, rfl⟩)
        | (go_at_call 66; refine (isPriced_eq m p ad n cap off Q K _ _ hq0 hq1 H3.out).mono ?_; rintro e wB ⟨rfl, bB⟩; have HBB : Hid (Below w.heap.size w wB) := hid (bel_on (HBA.out.alloc HBA.out.size _) bB); clear bB))
    go_returns
    exact ⟨rfl, HBB.out⟩
  · have H1 : Hid (inB Q 0 1000000 = true) := hid h1
    have H2 : Hid (inB K 0 100000000000 = true) := hid h2
    have H3 : Hid (prB m p off Q K = true) := hid h3
    obtain rfl : v = true := by rw [HW.out, H1.out, H2.out, H3.out]; simp
    clear HW
    try clear h1
    try clear h2
    try clear h3
    go_wp2_with (first
        | (go_at_call 63; refine (allOf_eq ad n cap c Q K _ hn3 HL.out (by assumption) HQ.out HK.out).mono ?_; rintro e wA ⟨rfl, bA⟩; have r0 : wA.cell? ⟨w.heap.size, 0, none⟩ = some (.int .i64 m) := keep_cell bA q0; have r1 : wA.cell? ⟨w.heap.size, 1, none⟩ = some (.int .i64 p) := keep_cell bA q1; have r2 : wA.cell? ⟨w.heap.size, 2, none⟩ = some (.slice ad n cap) := keep_cell bA q2; have r3 : wA.cell? ⟨w.heap.size, 3, none⟩ = some (.int .i64 off) := keep_cell bA q3; have hltA := cell_lt r0; have HBA : Hid (Below w.heap.size w wA) := hid (bel_on (by assumption) bA); clear bA)
        | (go_at_call 64; refine (isQty_eq _ _ _ H1.out).mono ?_; rintro e w1 ⟨rfl, rfl⟩)
        | (go_at_call 65; refine (isAmt0_eq _ _ _ H2.out).mono ?_; rintro e w1 ⟨rfl, rfl⟩)
        | (go_at_call 66; refine (isPriced_eq m p ad n cap off Q K _ _ hq0 hq1 H3.out).mono ?_; rintro e wB ⟨rfl, bB⟩; have HBB : Hid (Below w.heap.size w wB) := hid (bel_on (HBA.out.alloc HBA.out.size _) bB); clear bB))
    go_returns
    exact ⟨rfl, HBB.out⟩

end Go.Proofs.Ytdgccdlaokbnhaa
