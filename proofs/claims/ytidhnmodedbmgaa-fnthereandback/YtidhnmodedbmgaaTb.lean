/- There and back: what the law asks of Convert, and the law's walk. -/
import Derived.Test.YtidhnmodedbmgaaDw
import Derived.Test.YtidhnmodedbmgaaCx
import Derived.Test.YtidhnmodedbmgaaGd
import Derived.Test.YtidhnmodedbmgaaCo
namespace Go.Proofs.Ytidhnmodedbmgaa
open Go.ChangeShapes Go.WideShapes Go.ChangeAt Go.RowKit
set_option linter.unusedVariables false
set_option linter.unusedSimpArgs false

theorem md_facts {a n d : Int} (h : mdB a n d 3 = true) : mdV a n d 3 = dv (a * n) d 3 ∧ (-100000000000 ≤ a ∧ a ≤ 100000000000) ∧ (0 ≤ n ∧ n ≤ 10000000) ∧ (1 ≤ d ∧ d ≤ 10000000) := by
  have e : mdV a n d 3 = dv (a * n) d 3 := by unfold mdV; rw [if_pos h]
  unfold mdB at h; simp at h
  exact ⟨e, by omega, by omega, by omega⟩

/-- What a way there that is told gives. -/
theorem cv_some {v1 v2 : Int × Int} {a p q x : Int} (h : cv (some v1) (some v2) a p q = some x) : inB a (-100000000000) 100000000000 = true ∧ ((p = q ∧ x = a) ∨ (p ≠ q ∧ mdB a v1.1 v1.2 3 = true ∧ mdB (mdV a v1.1 v1.2 3) v2.2 v2.1 3 = true ∧ x = mdV (mdV a v1.1 v1.2 3) v2.2 v2.1 3)) := by
  unfold cv at h
  simp only at h
  split at h
  · rename_i ha
    refine ⟨ha, ?_⟩
    split at h
    · rename_i hp; cases h; exact .inl ⟨hp, rfl⟩
    · rename_i hp
      split at h
      · rename_i h1
        split at h
        · rename_i h2; cases h; exact .inr ⟨hp, h1, h2, rfl⟩
        · cases h
      · cases h
  · cases h

theorem told_of {o1 o2 : Option (Int × Int)} {a p q x : Int} (h : cv o1 o2 a p q = some x) : ∃ v1 v2, o1 = some v1 ∧ o2 = some v2 := by
  cases o1 with
  | none => simp [cv] at h
  | some v1 => cases o2 with
    | none => simp [cv] at h
    | some v2 => exact ⟨v1, v2, rfl, rfl⟩

theorem floor_one {D n d : Int} (hD : 0 ≤ D) (hd : 1 ≤ d) (hn : 0 ≤ n) (h : 2 * (D * d) ≤ n + d) : 2 * D ≤ n.tdiv d + 3 := by
  have e : n.tdiv d = n / d := Int.tdiv_eq_ediv_of_nonneg hn
  have h2 : (2 * D - 1) * d ≤ n := by rw [Int.sub_mul, Int.mul_assoc]; omega
  have h3 : 2 * D - 1 ≤ n / d := Int.le_ediv_of_mul_le (by omega) h2
  omega

theorem abs_mul_pos {x d t : Int} (hd : 1 ≤ d) (h1 : x * d ≤ t) (h2 : -t ≤ x * d) : absI x * d ≤ t := by
  unfold absI; split
  · exact h1
  · rw [Int.neg_mul]; omega

theorem there_back {m : Int} {len : Nat} {r : Nat → R4} {a q d x y : Int} {v : Int × Int} (h1 : cvO m len r a 0 q d = some x) (h2 : cvO m len r x q 0 d = some y) (ho : rateO m len r q d = some v) :
    2 * absI (y - a) ≤ v.1.tdiv v.2 + 3 ∧ 1 ≤ v.2 ∧ v.2 ≤ 10000000 ∧ 0 ≤ v.1 ∧ v.1 ≤ 10000000 ∧ (-100000000000 ≤ a ∧ a ≤ 100000000000) ∧ (-100000000000 ≤ y ∧ y ≤ 100000000000) := by
  unfold cvO at h1 h2
  obtain ⟨u1, u2, e1, e2⟩ := told_of h1
  have eu : u1 = (1, 1) := rateO_zero e1
  subst eu
  rw [ho] at e2
  cases e2
  rw [e1, ho] at h1 h2
  obtain ⟨ha, c1⟩ := cv_some h1
  obtain ⟨hx, c2⟩ := cv_some h2
  have ha' := inB_iff.1 ha
  have hx' := inB_iff.1 hx
  rcases c1 with ⟨hq, rfl⟩ | ⟨hq, k1, k2, kx⟩
  · have hv : v = (1, 1) := by subst hq; exact rateO_zero ho
    subst hv
    rcases c2 with ⟨_, rfl⟩ | ⟨hq2, _⟩
    · refine ⟨?_, by decide, by decide, by decide, by decide, ha', ha'⟩
      have : absI (y - y) = 0 := by simp [absI]
      rw [this]; decide
    · exact absurd hq.symm hq2
  · rcases c2 with ⟨hq2, _⟩ | ⟨hq2, j1, j2, jy⟩
    · exact absurd hq2.symm hq
    · have m1 := md_11 ha
      simp only at k1 k2 kx j1 j2 jy
      rw [m1.2] at k2 kx
      have m2 := md_11 (md_amt j1)
      rw [m2.2] at jy
      have f1 := md_facts k2
      have f2 := md_facts j1
      have hy := inB_iff.1 (md_amt j1)
      rw [← jy] at hy
      obtain ⟨n, dn⟩ := v
      simp only at *
      have ex : x = dv (a * dn) n 3 := by rw [kx]; exact f1.1
      have ey : y = dv (x * n) dn 3 := by rw [jy]; exact f2.1
      obtain ⟨t, ht⟩ : ∃ t, x * n = t := ⟨_, rfl⟩
      obtain ⟨s, hs⟩ : ∃ s, y * dn = s := ⟨_, rfl⟩
      obtain ⟨p, hp⟩ : ∃ p, a * dn = p := ⟨_, rfl⟩
      have n1 := near3 p n t f1.2.2.2.1 (by rw [← hp, ← ex]; exact ht)
      have n2 := near3 t dn s f2.2.2.2.1 (by rw [← ht, ← ey]; exact hs)
      refine ⟨floor_one (n := n) (d := dn) (by unfold absI; split <;> omega) f2.2.2.2.1 (by omega) ?_, f2.2.2.2.1, f2.2.2.2.2, by omega, f1.2.2.2.2, ha', hy⟩
      have e3 : (y - a) * dn = s - p := by rw [Int.sub_mul, hs, hp]
      by_cases g : 0 ≤ y - a
      · have : absI (y - a) * dn = s - p := by unfold absI; rw [if_pos g]; exact e3
        rw [this]; omega
      · have : absI (y - a) * dn = p - s := by unfold absI; rw [if_neg g, Int.neg_mul, e3]; omega
        rw [this]; omega

theorem convS {ad : Option Addr} {len cap : Nat} {r : Nat → R4} {m a p q d x : Int} (w : World) (h : (len : Int) ≤ 1048576) (hr : RR w ad len r) (hc : cvO m len r a p q d = some x) :
    Calls Try.prog 12 #[.slice ad len cap, .int .i64 m, .int .i64 a, .int .i64 p, .int .i64 q, .int .i64 d] w fun e w' => e = .returned (.tuple #[.int .i64 x, .bool true]) ∧ Below w.heap.size w w' := by
  have := implConvert_any ad len cap r m a p q d w h hr
  rw [hc] at this; exact this
theorem convN {ad : Option Addr} {len cap : Nat} {r : Nat → R4} {m a p q d : Int} (w : World) (h : (len : Int) ≤ 1048576) (hr : RR w ad len r) (hc : cvO m len r a p q d = none) :
    Calls Try.prog 12 #[.slice ad len cap, .int .i64 m, .int .i64 a, .int .i64 p, .int .i64 q, .int .i64 d] w fun e w' => e = .returned (.tuple #[.int .i64 0, .bool false]) ∧ Below w.heap.size w w' := by
  have := implConvert_any ad len cap r m a p q d w h hr
  rw [hc] at this; exact this
theorem specN {ad : Option Addr} {len cap : Nat} {r : Nat → R4} {m a p q d : Int} (w : World) (h : (len : Int) ≤ 1048576) (hr : RR w ad len r) (hc : cvO m len r a p q d = none) :
    Calls Try.prog 14 #[.slice ad len cap, .int .i64 m, .int .i64 a, .int .i64 p, .int .i64 q, .int .i64 d] w fun e w' => e = .returned (.tuple #[.int .i64 0, .bool false]) ∧ Below w.heap.size w w' := by
  have := specConvert_any ad len cap r m a p q d w h hr
  rw [hc] at this; exact this
theorem rateS {ad : Option Addr} {len cap : Nat} {r : Nat → R4} {m q d n1 d1 : Int} (w : World) (h : (len : Int) ≤ 1048576) (hr : RR w ad len r) (hc : rateO m len r q d = some (n1, d1)) :
    Calls Try.prog 13 #[.slice ad len cap, .int .i64 m, .int .i64 q, .int .i64 d] w fun e w' => e = .returned (.tuple #[.int .i64 n1, .int .i64 d1, .bool true]) ∧ Below w.heap.size w w' := by
  have := implRateAt_any ad len cap r m q d w h hr
  rw [hc] at this; exact this

set_option maxRecDepth 8000 in
set_option maxHeartbeats 2000000 in
theorem there_walk (ad : Option Addr) (len cap : Nat) (w : World) (hl : len ≤ 1048576) (hr : ByteRow w w.heap.size ad len) :
    Calls Try.prog 3 #[.slice ad len cap] w fun e w' => e = .returned (.bool true) ∧ Below w.heap.size w w' := by
  have HR : Hid (ByteRow w w.heap.size ad len) := hr
  have hd : decide ((1048576 : Int) < (len : Int)) = false := decide_eq_false (by omega)
  have hl2 : len ≤ 9223372036854775000 := by omega
  clear hr hl
  go_enter Try.func3, Try.ntmps3
  go_wp2_with (first
    | (go_at_call 10; refine (big_f _ _ _ _ hd).mono ?_; rintro e w1 ⟨rfl, ew⟩; replace ew := ew.symm; subst ew)
    | (go_at_call 11; refine (drawConvert_any _ _ _ _ hl2 HR.out).mono ?_; rintro e w2 ⟨g, n, cp, r, m, a, p, q, d, rfl, hn, hrr, b2⟩; have R2 : Hid (RR w2 (some ⟨g, 0, none⟩) n r) := hrr; have B2 : Hid (Below w.heap.size w w2) := b2; have hn2 : (n : Int) ≤ 1048576 := (by omega); clear b2 hrr))
  cases hc1 : cvO m n r a 0 q d with
  | none =>
    refine (convN _ hn2 R2.out hc1).mono ?_
    rintro e w3 ⟨rfl, b3⟩
    have R3 : Hid (RR w3 (some ⟨g, 0, none⟩) n r) := R2.out.below b3
    have B3 : Hid (Below w.heap.size w w3) := bel_on B2.out b3
    clear b3
    go_wp2_with (first
      | (go_at_call 13; refine (implRateAt_any _ _ _ r _ _ _ _ hn2 R3.out).mono ?_; rintro e w4 ⟨rfl, b4⟩; have R4h : Hid (RR w4 (some ⟨g, 0, none⟩) n r) := R3.out.below b4; have B4 : Hid (Below w.heap.size w w4) := bel_on B3.out b4; clear b4)
      | (go_at_call 14; refine (specN _ hn2 R4h.out hc1).mono ?_; rintro e w5 ⟨rfl, b5⟩; have B5 : Hid (Below w.heap.size w w5) := bel_on B4.out b5; clear b5))
    go_returns
    exact ⟨rfl, B5.out⟩
  | some x =>
    obtain ⟨v1, v, _, ho⟩ := told_of (show cv (rateO m n r 0 d) (rateO m n r q d) a 0 q = some x from hc1)
    cases hc2 : cvO m n r x q 0 d with
    | none =>
      obtain ⟨nn, dd⟩ := v
      refine (convS _ hn2 R2.out hc1).mono ?_
      rintro e w3 ⟨rfl, b3⟩
      have R3 : Hid (RR w3 (some ⟨g, 0, none⟩) n r) := R2.out.below b3
      have B3 : Hid (Below w.heap.size w w3) := bel_on B2.out b3
      clear b3
      go_wp2_with (first
        | (go_at_call 13; refine (rateS _ hn2 R3.out ho).mono ?_; rintro e w4 ⟨rfl, b4⟩; have R4h : Hid (RR w4 (some ⟨g, 0, none⟩) n r) := R3.out.below b4; have B4 : Hid (Below w.heap.size w w4) := bel_on B3.out b4; clear b4)
        | (go_at_call 12; refine (convN _ hn2 R4h.out hc2).mono ?_; rintro e w5 ⟨rfl, b5⟩; have R5 : Hid (RR w5 (some ⟨g, 0, none⟩) n r) := R4h.out.below b5; have B5 : Hid (Below w.heap.size w w5) := bel_on B4.out b5; clear b5)
        | (go_at_call 14; refine (specN _ hn2 R5.out hc2).mono ?_; rintro e w6 ⟨rfl, b6⟩; have B6 : Hid (Below w.heap.size w w6) := bel_on B5.out b6; clear b6))
      go_returns
      exact ⟨rfl, B6.out⟩
    | some y =>
      have TB := there_back hc1 hc2 ho
      obtain ⟨nn, dd⟩ := v
      simp only at TB
      obtain ⟨k1, k2, k3, k4, k5, ⟨a1, a2⟩, y1, y2⟩ := TB
      obtain ⟨o, hoo⟩ : ∃ o, y - a = o := ⟨_, rfl⟩
      obtain ⟨z, hz⟩ : ∃ z, absI o = z := ⟨_, rfl⟩
      obtain ⟨k, hk⟩ : ∃ k, nn.tdiv dd = k := ⟨_, rfl⟩
      rw [hoo, hz, hk] at k1
      have o1 : -9223372036854775000 ≤ o := by omega
      have z1 : 0 ≤ z ∧ z ≤ 200000000000 := by rw [← hz]; unfold absI; split <;> omega
      have kb : 0 ≤ k ∧ k ≤ 10000000 := by
        rw [← hk, Int.tdiv_eq_ediv_of_nonneg k4]
        exact ⟨Int.ediv_nonneg k4 (by omega), Int.le_trans (Int.ediv_le_self dd k4) k5⟩
      have q0 : ¬ dd = 0 := by omega
      have q1 : (dd == 0) = false := by simpa using q0
      have wr0 : IntKind.i64.wrap (y - a) = o := by rw [hoo]; exact IntWalk.i64_in _ (by omega)
      have wr2 : IntKind.i64.wrap (2 * z) = 2 * z := IntWalk.i64_in _ (by omega)
      have wr3 : IntKind.i64.wrap (nn.tdiv dd) = k := by rw [hk]; exact IntWalk.i64_in _ (by omega)
      have wr4 : IntKind.i64.wrap (k + 3) = k + 3 := IntWalk.i64_in _ (by omega)
      have t1 : decide (2 * z ≤ k + 3) = true := decide_eq_true k1
      refine (convS _ hn2 R2.out hc1).mono ?_
      rintro e w3 ⟨rfl, b3⟩
      have R3 : Hid (RR w3 (some ⟨g, 0, none⟩) n r) := R2.out.below b3
      have B3 : Hid (Below w.heap.size w w3) := bel_on B2.out b3
      clear b3
      go_wp2_with (first
        | (go_at_call 13; refine (rateS _ hn2 R3.out ho).mono ?_; rintro e w4 ⟨rfl, b4⟩; have R4h : Hid (RR w4 (some ⟨g, 0, none⟩) n r) := R3.out.below b4; have B4 : Hid (Below w.heap.size w w4) := bel_on B3.out b4; clear b4)
        | (go_at_call 12; refine (convS _ hn2 R4h.out hc2).mono ?_; rintro e w5 ⟨rfl, b5⟩; have B5 : Hid (Below w.heap.size w w5) := bel_on B4.out b5; clear b5))
      go_quiet ((go_at_call 15; refine Calls.quiet_of_same (abs_eq _ o1 hz)))
      go_wp2
      go_returns
      exact ⟨rfl, bdQ B5.out _⟩

end Go.Proofs.Ytidhnmodedbmgaa
