/- The model's Balance: it answers balV. -/
import Derived.Test.YtgnhpjlfdkpaiaaSa
import Derived.Deep.Cut
namespace Go.Proofs.Ytgnhpjlfdkpaiaa
open Go.ChangeShapes Go.WideShapes Go.ChangeAt Go.RowKit
set_option linter.unusedVariables false
set_option linter.unusedSimpArgs false

theorem ylP_ok {f t : Int} {es : Nat → E4} {k m : Nat} (h : ∀ i, i < k → enS (es i)) (hm : m ≤ 60) (h2 : ∀ i, i < m → lnS ((es k).ls i)) : (ylP f t es k m).length ≤ 60 * k + 60 ∧ ∀ x ∈ ylP f t es k m, lnS x := by
  obtain ⟨a, b⟩ := ylS_ok (f := f) (t := t) h
  unfold ylP
  split
  · refine ⟨by rw [List.length_append, rowL_len]; omega, fun x hx => ?_⟩
    rcases List.mem_append.1 hx with g | g
    · exact b x g
    · obtain ⟨i, hi, rfl⟩ := rowL_mem g; exact h2 i hi
  · exact ⟨by omega, b⟩
theorem balP_small {ac dm cu f t : Int} {es : Nat → E4} {k m : Nat} (hk : k ≤ 1000) (h : ∀ i, i < k → enS (es i)) (hm : m ≤ 60) (h2 : ∀ i, i < m → lnS ((es k).ls i)) :
    (-7000000000000000 ≤ (balL ac dm cu (ylP f t es k m)).1 ∧ (balL ac dm cu (ylP f t es k m)).1 ≤ 7000000000000000) ∧ (-7000000000000000 ≤ (balL ac dm cu (ylP f t es k m)).2 ∧ (balL ac dm cu (ylP f t es k m)).2 ≤ 7000000000000000) := by
  obtain ⟨a, b⟩ := ylP_ok (f := f) (t := t) h hm h2
  have := balL_bound ac dm cu _ b
  omega
theorem ret_two {a b c d : Int} (h : (c, d) = (a, b)) : Ending.returned (.tuple #[.int .i64 a, .int .i64 b]) = .returned (.tuple #[.int .i64 c, .int .i64 d]) := by cases h; rfl
theorem hit_yes {ac dm cu : Int} {l : L5} (h1 : ac = -1 ∨ ac = l.acc) (h2 : dm = -1 ∨ dm = l.dim) (h3 : cu = -1 ∨ cu = l.cur) : hitB ac dm cu l = true := by unfold hitB askB; simp [h1, h2, h3]
theorem hit_no {ac dm cu : Int} {l : L5} (h : ¬ (ac = -1 ∨ ac = l.acc) ∨ ¬ (dm = -1 ∨ dm = l.dim) ∨ ¬ (cu = -1 ∨ cu = l.cur)) : hitB ac dm cu l = false := by
  unfold hitB askB
  rcases h with h | h | h <;> simp [h]

set_option maxRecDepth 20000 in
set_option maxHeartbeats 16000000 in
theorem specBal_any (ad : Option Addr) (n cap : Nat) (es : Nat → E4) (hd ac dm cu f t : Int) (w : World) (hr : ER w ad n es) :
    Calls Try.prog 15 #[.agg #[.slice ad n cap, .int .i64 hd], .int .i64 ac, .int .i64 dm, .int .i64 cu, .int .i64 f, .int .i64 t] w fun e w' => e = .returned (.tuple #[.int .i64 (balV ac dm cu f t n es).1, .int .i64 (balV ac dm cu f t n es).2]) ∧ Below w.heap.size w w' := by
  have HR : Hid (ER w ad n es) := hr
  clear hr
  by_cases h : (n : Int) ≤ 1000
  rotate_left
  · have HF : Hid (balV ac dm cu f t n es = (0, 0)) := balV_f (smB_f (fun q => by omega))
    go_enter Try.func15, Try.ntmps15
    go_wp2
    go_returns
    exact ⟨ret_two HF.out, by go_grown⟩
  have X0 : Hid (CB (w.alloc (.cells #[.slice ad n cap, .int .i64 hd] 44 (0, 0))) w.heap.size #[.slice ad n cap, .int .i64 hd] 44) := CB.new _ _
  go_enter Try.func15, Try.ntmps15
  go_wp2
  go_loopw [14, 15, 16] (fun u v i wr => ∃ (k : Nat) (A B : Int), k ≤ n ∧ i = .int .i64 (k : Int) ∧ u = .int .i64 A ∧ v = .int .i64 B ∧ Hid (balL ac dm cu (ylS f t es k) = (A, B)) ∧ Hid (∀ i, i < k → enS (es i)) ∧ wr.cell? ⟨w.heap.size, 0, none⟩ = some (.slice ad n cap) ∧ Below w.heap.size w wr) (fun _ _ i _ => n - (intOf i).toNat)
  case atStart => exact ⟨0, 0, 0, Nat.zero_le _, rfl, rfl, rfl, rfl, fun i hi => by omega, (X0.out.cell 0).trans rfl, by go_grown⟩
  case round =>
    obtain ⟨k, A, B, hk, rfl, rfl, rfl, HAB, HA, yb, hB⟩ := hrel
    obtain ⟨W1, hW1⟩ : ∃ W1, W1 = wr := ⟨_, rfl⟩
    subst hW1
    have HB : Hid (Below w.heap.size w W1) := hB
    by_cases hlt : k < n
    · obtain ⟨kb, off, rfl, hkb⟩ := HR.out.addr (by omega)
      obtain ⟨c1, c2, c3, la, lca, c4, hl⟩ := (HR.out.below hB).cell hlt
      have HLR : Hid (LR W1 la (es k).n (es k).ls) := hl
      clear hl hB
      have HBa : Hid (Below W1.heap.size W1 (W1.alloc (.cells #[.int .i64 (es k).day, .int .i64 (es k).ref, .string (es k).text, .slice la (es k).n lca] 30 (0, 0)))) := (Below.refl _ _).alloc (Nat.le_refl _) _
      by_cases g : ((es k).n : Int) ≤ 60
      rotate_left
      · have HF : Hid (balV ac dm cu f t n es = (0, 0)) := balV_f (smB_f (fun q => g (by have := (q.2 k hlt).1; omega)))
        go_wp2
        go_returns
        exact ⟨ret_two HF.out, bel_on HB.out HBa.out⟩
      have XE : Hid (CB (W1.alloc (.cells #[.int .i64 (es k).day, .int .i64 (es k).ref, .string (es k).text, .slice la (es k).n lca] 30 (0, 0))) W1.heap.size #[.int .i64 (es k).day, .int .i64 (es k).ref, .string (es k).text, .slice la (es k).n lca] 30) := CB.new _ _
      have YB : Hid ((W1.alloc (.cells #[.int .i64 (es k).day, .int .i64 (es k).ref, .string (es k).text, .slice la (es k).n lca] 30 (0, 0))).cell? ⟨w.heap.size, 0, none⟩ = some (.slice (some ⟨kb, off, none⟩) n cap)) := keep_cell HBa.out yb
      have HAB0 : Hid (balL ac dm cu (ylP f t es k 0) = (A, B)) := by show _ = _; rw [ylP_zero]; exact HAB.out
      clear HAB
      go_wp2
      go_loopw [14, 15, 18] (fun u v j wi => ∃ (m : Nat) (A B : Int), m ≤ (es k).n ∧ j = .int .i64 (m : Int) ∧ u = .int .i64 A ∧ v = .int .i64 B ∧ Hid (balL ac dm cu (ylP f t es k m) = (A, B)) ∧ Hid (∀ i, i < m → lnS ((es k).ls i)) ∧ wi.cell? ⟨W1.heap.size, 0, none⟩ = some (.int .i64 (es k).day) ∧ wi.cell? ⟨W1.heap.size, 3, none⟩ = some (.slice la (es k).n lca) ∧ wi.cell? ⟨w.heap.size, 0, none⟩ = some (.slice (some ⟨kb, off, none⟩) n cap) ∧ Below W1.heap.size W1 wi) (fun _ _ j _ => (es k).n - (intOf j).toNat)
      case atStart => exact ⟨0, A, B, Nat.zero_le _, rfl, rfl, rfl, HAB0, fun i hi => by omega, (XE.out.cell 0).trans rfl, (XE.out.cell 3).trans rfl, YB.out, HBa.out⟩
      case round =>
        clear HAB0 XE YB yb
        obtain ⟨m, A, B, hm, rfl, rfl, rfl, HAB, HM, y0, y3, yb, hBi⟩ := hrel
        have HBi : Hid (Below W1.heap.size W1 wr) := hBi
        by_cases hmt : m < (es k).n
        · obtain ⟨lb, lo, rfl, _⟩ := HLR.out.addr (by omega)
          obtain ⟨x0, x1, x2, x3, x4⟩ := (HLR.out.below hBi).cell hmt
          clear hBi
          have hab : ((-7000000000000000 ≤ A ∧ A ≤ 7000000000000000) ∧ (-7000000000000000 ≤ B ∧ B ≤ 7000000000000000)) := by
            have := balP_small (ac := ac) (dm := dm) (cu := cu) (f := f) (t := t) (es := es) (k := k) (m := m) (by omega) HA.out (by omega) HM.out
            rw [HAB.out] at this; exact this
          obtain ⟨⟨a1, a2⟩, b1, b2⟩ := hab
          have HBj : Hid (Below W1.heap.size W1 (wr.alloc (.cells #[.int .i64 ((es k).ls m).acc, .int .i64 ((es k).ls m).dim, .int .i64 ((es k).ls m).cur, .int .i64 ((es k).ls m).amt, .int .i64 ((es k).ls m).base] 32 (0, 0)))) := HBi.out.alloc HBi.out.size _
          have Y0 : Hid ((wr.alloc (.cells #[.int .i64 ((es k).ls m).acc, .int .i64 ((es k).ls m).dim, .int .i64 ((es k).ls m).cur, .int .i64 ((es k).ls m).amt, .int .i64 ((es k).ls m).base] 32 (0, 0))).cell? ⟨W1.heap.size, 0, none⟩ = some (.int .i64 (es k).day)) := keep_cell ((Below.refl _ _).alloc (Nat.le_refl _) _) y0
          have Y3 : Hid ((wr.alloc (.cells #[.int .i64 ((es k).ls m).acc, .int .i64 ((es k).ls m).dim, .int .i64 ((es k).ls m).cur, .int .i64 ((es k).ls m).amt, .int .i64 ((es k).ls m).base] 32 (0, 0))).cell? ⟨W1.heap.size, 3, none⟩ = some (.slice (some ⟨lb, lo, none⟩) (es k).n lca)) := keep_cell ((Below.refl _ _).alloc (Nat.le_refl _) _) y3
          have YB : Hid ((wr.alloc (.cells #[.int .i64 ((es k).ls m).acc, .int .i64 ((es k).ls m).dim, .int .i64 ((es k).ls m).cur, .int .i64 ((es k).ls m).amt, .int .i64 ((es k).ls m).base] 32 (0, 0))).cell? ⟨w.heap.size, 0, none⟩ = some (.slice (some ⟨kb, off, none⟩) n cap)) := keep_cell ((Below.refl _ _).alloc (Nat.le_refl _) _) yb
          have q0 := Y0.out
          by_cases ga : amtP ((es k).ls m).amt
          rotate_left
          · have ha := amB_f ga
            have HF : Hid (balV ac dm cu f t n es = (0, 0)) := balV_f (smB_f (fun q => ga ((q.2 k hlt).2 m hmt).1))
            go_wp2_with (go_at_call 34; refine (l1Amt_any _ _).mono ?_; rintro e w' ⟨rfl, ew⟩; replace ew := ew.symm; subst ew; rw [ha])
            go_returns
            exact ⟨ret_two HF.out, bel_on HB.out HBj.out⟩
          by_cases gb : amtP ((es k).ls m).base
          rotate_left
          · have ha := amB_t ga
            have hb := amB_f gb
            have HF : Hid (balV ac dm cu f t n es = (0, 0)) := balV_f (smB_f (fun q => gb ((q.2 k hlt).2 m hmt).2))
            go_wp2_with (go_at_call 34; refine (l1Amt_any _ _).mono ?_; rintro e w' ⟨rfl, ew⟩; replace ew := ew.symm; subst ew; first | rw [ha] | rw [hb])
            go_returns
            exact ⟨ret_two HF.out, bel_on HB.out HBj.out⟩
          have ha := amB_t ga
          have hb := amB_t gb
          have HL : Hid (∀ i, i < m + 1 → lnS ((es k).ls i)) := fun i hi => by
            by_cases hik : i = m
            · rw [hik]; exact ⟨ga, gb⟩
            · exact HM.out i (by omega)
          have ga1 := ga.1
          have ga2 := ga.2
          have gb1 := gb.1
          have gb2 := gb.2
          clear ga gb
          by_cases hd2 : f ≤ (es k).day ∧ (es k).day ≤ t
          rotate_left
          · have hdy : decide (f ≤ (es k).day ∧ (es k).day ≤ t) = false := decide_eq_false hd2
            have HN : Hid (balL ac dm cu (ylP f t es k (m + 1)) = (A, B)) := by show _ = _; rw [ylP_out hd2 (m := m)]; exact HAB.out
            clear hd2
            go_wp2_with (first | (go_at_call 34; refine (l1Amt_any _ _).mono ?_; rintro e w' ⟨rfl, ew⟩; replace ew := ew.symm; subst ew; first | rw [ha] | rw [hb]) | (go_at_call 30; refine (l1InB _ _ _ _).mono ?_; rintro e w' ⟨rfl, ew⟩; replace ew := ew.symm; subst ew; rw [hdy]))
            go_roundw
            case rel => exact ⟨m + 1, A, B, by omega, by go_num, rfl, rfl, HN, HL, Y0.out, Y3.out, YB.out, HBj.out⟩
            case measure => simp [intOf]; omega
          have hdy : decide (f ≤ (es k).day ∧ (es k).day ≤ t) = true := decide_eq_true hd2
          have HS : Hid (ylP f t es k (m + 1) = ylP f t es k m ++ [(es k).ls m]) := ylP_in hd2
          clear hd2
          go_upto_region 17 with (go_at_call 34; refine (l1Amt_any _ _).mono ?_; rintro e w' ⟨rfl, ew⟩; replace ew := ew.symm; subst ew; first | rw [ha] | rw [hb])
          by_cases q0 : ac = -1
          · have r0 : (ac == -1) = true := by simpa using q0
            have s0 : decide (ac = -1) = true := by simpa using q0
            by_cases q1 : dm = -1
            · have r1 : (dm == -1) = true := by simpa using q1
              have s1 : decide (dm = -1) = true := by simpa using q1
              by_cases q2 : cu = -1
              · have r2 : (cu == -1) = true := by simpa using q2
                have s2 : decide (cu = -1) = true := by simpa using q2
                have HN : Hid (balL ac dm cu (ylP f t es k (m + 1)) = (A + ((es k).ls m).amt, B + ((es k).ls m).base)) := by show _ = _; rw [HS.out, balL_snoc_hit (hit_yes (.inl q0) (.inl q1) (.inl q2)), HAB.out]
                clear HS HAB q0 q1 q2
                go_wp2_with (go_at_call 30; refine (l1InB _ _ _ _).mono ?_; rintro e w' ⟨rfl, ew⟩; replace ew := ew.symm; subst ew; rw [hdy])
                go_roundw
                case rel => exact ⟨m + 1, _, _, by omega, by go_num, rfl, rfl, HN, HL, Y0.out, Y3.out, YB.out, HBj.out⟩
                case measure => simp [intOf]; omega
              have r2 : (cu == -1) = false := by simpa using q2
              have s2 : decide (cu = -1) = false := by simpa using q2
              by_cases p2 : cu = ((es k).ls m).cur
              · have t2 : (cu == ((es k).ls m).cur) = true := by simpa using p2
                have HN : Hid (balL ac dm cu (ylP f t es k (m + 1)) = (A + ((es k).ls m).amt, B + ((es k).ls m).base)) := by show _ = _; rw [HS.out, balL_snoc_hit (hit_yes (.inl q0) (.inl q1) (.inr p2)), HAB.out]
                clear HS HAB q0 q1 p2 q2
                go_wp2_with (go_at_call 30; refine (l1InB _ _ _ _).mono ?_; rintro e w' ⟨rfl, ew⟩; replace ew := ew.symm; subst ew; rw [hdy])
                go_roundw
                case rel => exact ⟨m + 1, _, _, by omega, by go_num, rfl, rfl, HN, HL, Y0.out, Y3.out, YB.out, HBj.out⟩
                case measure => simp [intOf]; omega
              have t2 : (cu == ((es k).ls m).cur) = false := by simpa using p2
              have HN : Hid (balL ac dm cu (ylP f t es k (m + 1)) = (A, B)) := by show _ = _; rw [HS.out, balL_snoc_not (hit_no (.inr (.inr (fun z => z.elim q2 p2)))), HAB.out]
              clear HS HAB q0 q1 p2 q2
              go_wp2_with (go_at_call 30; refine (l1InB _ _ _ _).mono ?_; rintro e w' ⟨rfl, ew⟩; replace ew := ew.symm; subst ew; rw [hdy])
              go_roundw
              case rel => exact ⟨m + 1, A, B, by omega, by go_num, rfl, rfl, HN, HL, Y0.out, Y3.out, YB.out, HBj.out⟩
              case measure => simp [intOf]; omega
            have r1 : (dm == -1) = false := by simpa using q1
            have s1 : decide (dm = -1) = false := by simpa using q1
            by_cases p1 : dm = ((es k).ls m).dim
            · have t1 : (dm == ((es k).ls m).dim) = true := by simpa using p1
              by_cases q2 : cu = -1
              · have r2 : (cu == -1) = true := by simpa using q2
                have s2 : decide (cu = -1) = true := by simpa using q2
                have HN : Hid (balL ac dm cu (ylP f t es k (m + 1)) = (A + ((es k).ls m).amt, B + ((es k).ls m).base)) := by show _ = _; rw [HS.out, balL_snoc_hit (hit_yes (.inl q0) (.inr p1) (.inl q2)), HAB.out]
                clear HS HAB q0 p1 q1 q2
                go_wp2_with (go_at_call 30; refine (l1InB _ _ _ _).mono ?_; rintro e w' ⟨rfl, ew⟩; replace ew := ew.symm; subst ew; rw [hdy])
                go_roundw
                case rel => exact ⟨m + 1, _, _, by omega, by go_num, rfl, rfl, HN, HL, Y0.out, Y3.out, YB.out, HBj.out⟩
                case measure => simp [intOf]; omega
              have r2 : (cu == -1) = false := by simpa using q2
              have s2 : decide (cu = -1) = false := by simpa using q2
              by_cases p2 : cu = ((es k).ls m).cur
              · have t2 : (cu == ((es k).ls m).cur) = true := by simpa using p2
                have HN : Hid (balL ac dm cu (ylP f t es k (m + 1)) = (A + ((es k).ls m).amt, B + ((es k).ls m).base)) := by show _ = _; rw [HS.out, balL_snoc_hit (hit_yes (.inl q0) (.inr p1) (.inr p2)), HAB.out]
                clear HS HAB q0 p1 q1 p2 q2
                go_wp2_with (go_at_call 30; refine (l1InB _ _ _ _).mono ?_; rintro e w' ⟨rfl, ew⟩; replace ew := ew.symm; subst ew; rw [hdy])
                go_roundw
                case rel => exact ⟨m + 1, _, _, by omega, by go_num, rfl, rfl, HN, HL, Y0.out, Y3.out, YB.out, HBj.out⟩
                case measure => simp [intOf]; omega
              have t2 : (cu == ((es k).ls m).cur) = false := by simpa using p2
              have HN : Hid (balL ac dm cu (ylP f t es k (m + 1)) = (A, B)) := by show _ = _; rw [HS.out, balL_snoc_not (hit_no (.inr (.inr (fun z => z.elim q2 p2)))), HAB.out]
              clear HS HAB q0 p1 q1 p2 q2
              go_wp2_with (go_at_call 30; refine (l1InB _ _ _ _).mono ?_; rintro e w' ⟨rfl, ew⟩; replace ew := ew.symm; subst ew; rw [hdy])
              go_roundw
              case rel => exact ⟨m + 1, A, B, by omega, by go_num, rfl, rfl, HN, HL, Y0.out, Y3.out, YB.out, HBj.out⟩
              case measure => simp [intOf]; omega
            have t1 : (dm == ((es k).ls m).dim) = false := by simpa using p1
            have HN : Hid (balL ac dm cu (ylP f t es k (m + 1)) = (A, B)) := by show _ = _; rw [HS.out, balL_snoc_not (hit_no (.inr (.inl (fun z => z.elim q1 p1)))), HAB.out]
            clear HS HAB q0 p1 q1
            go_wp2_with (go_at_call 30; refine (l1InB _ _ _ _).mono ?_; rintro e w' ⟨rfl, ew⟩; replace ew := ew.symm; subst ew; rw [hdy])
            go_roundw
            case rel => exact ⟨m + 1, A, B, by omega, by go_num, rfl, rfl, HN, HL, Y0.out, Y3.out, YB.out, HBj.out⟩
            case measure => simp [intOf]; omega
          have r0 : (ac == -1) = false := by simpa using q0
          have s0 : decide (ac = -1) = false := by simpa using q0
          by_cases p0 : ac = ((es k).ls m).acc
          · have t0 : (ac == ((es k).ls m).acc) = true := by simpa using p0
            by_cases q1 : dm = -1
            · have r1 : (dm == -1) = true := by simpa using q1
              have s1 : decide (dm = -1) = true := by simpa using q1
              by_cases q2 : cu = -1
              · have r2 : (cu == -1) = true := by simpa using q2
                have s2 : decide (cu = -1) = true := by simpa using q2
                have HN : Hid (balL ac dm cu (ylP f t es k (m + 1)) = (A + ((es k).ls m).amt, B + ((es k).ls m).base)) := by show _ = _; rw [HS.out, balL_snoc_hit (hit_yes (.inr p0) (.inl q1) (.inl q2)), HAB.out]
                clear HS HAB p0 q0 q1 q2
                go_wp2_with (go_at_call 30; refine (l1InB _ _ _ _).mono ?_; rintro e w' ⟨rfl, ew⟩; replace ew := ew.symm; subst ew; rw [hdy])
                go_roundw
                case rel => exact ⟨m + 1, _, _, by omega, by go_num, rfl, rfl, HN, HL, Y0.out, Y3.out, YB.out, HBj.out⟩
                case measure => simp [intOf]; omega
              have r2 : (cu == -1) = false := by simpa using q2
              have s2 : decide (cu = -1) = false := by simpa using q2
              by_cases p2 : cu = ((es k).ls m).cur
              · have t2 : (cu == ((es k).ls m).cur) = true := by simpa using p2
                have HN : Hid (balL ac dm cu (ylP f t es k (m + 1)) = (A + ((es k).ls m).amt, B + ((es k).ls m).base)) := by show _ = _; rw [HS.out, balL_snoc_hit (hit_yes (.inr p0) (.inl q1) (.inr p2)), HAB.out]
                clear HS HAB p0 q0 q1 p2 q2
                go_wp2_with (go_at_call 30; refine (l1InB _ _ _ _).mono ?_; rintro e w' ⟨rfl, ew⟩; replace ew := ew.symm; subst ew; rw [hdy])
                go_roundw
                case rel => exact ⟨m + 1, _, _, by omega, by go_num, rfl, rfl, HN, HL, Y0.out, Y3.out, YB.out, HBj.out⟩
                case measure => simp [intOf]; omega
              have t2 : (cu == ((es k).ls m).cur) = false := by simpa using p2
              have HN : Hid (balL ac dm cu (ylP f t es k (m + 1)) = (A, B)) := by show _ = _; rw [HS.out, balL_snoc_not (hit_no (.inr (.inr (fun z => z.elim q2 p2)))), HAB.out]
              clear HS HAB p0 q0 q1 p2 q2
              go_wp2_with (go_at_call 30; refine (l1InB _ _ _ _).mono ?_; rintro e w' ⟨rfl, ew⟩; replace ew := ew.symm; subst ew; rw [hdy])
              go_roundw
              case rel => exact ⟨m + 1, A, B, by omega, by go_num, rfl, rfl, HN, HL, Y0.out, Y3.out, YB.out, HBj.out⟩
              case measure => simp [intOf]; omega
            have r1 : (dm == -1) = false := by simpa using q1
            have s1 : decide (dm = -1) = false := by simpa using q1
            by_cases p1 : dm = ((es k).ls m).dim
            · have t1 : (dm == ((es k).ls m).dim) = true := by simpa using p1
              by_cases q2 : cu = -1
              · have r2 : (cu == -1) = true := by simpa using q2
                have s2 : decide (cu = -1) = true := by simpa using q2
                have HN : Hid (balL ac dm cu (ylP f t es k (m + 1)) = (A + ((es k).ls m).amt, B + ((es k).ls m).base)) := by show _ = _; rw [HS.out, balL_snoc_hit (hit_yes (.inr p0) (.inr p1) (.inl q2)), HAB.out]
                clear HS HAB p0 q0 p1 q1 q2
                go_wp2_with (go_at_call 30; refine (l1InB _ _ _ _).mono ?_; rintro e w' ⟨rfl, ew⟩; replace ew := ew.symm; subst ew; rw [hdy])
                go_roundw
                case rel => exact ⟨m + 1, _, _, by omega, by go_num, rfl, rfl, HN, HL, Y0.out, Y3.out, YB.out, HBj.out⟩
                case measure => simp [intOf]; omega
              have r2 : (cu == -1) = false := by simpa using q2
              have s2 : decide (cu = -1) = false := by simpa using q2
              by_cases p2 : cu = ((es k).ls m).cur
              · have t2 : (cu == ((es k).ls m).cur) = true := by simpa using p2
                have HN : Hid (balL ac dm cu (ylP f t es k (m + 1)) = (A + ((es k).ls m).amt, B + ((es k).ls m).base)) := by show _ = _; rw [HS.out, balL_snoc_hit (hit_yes (.inr p0) (.inr p1) (.inr p2)), HAB.out]
                clear HS HAB p0 q0 p1 q1 p2 q2
                go_wp2_with (go_at_call 30; refine (l1InB _ _ _ _).mono ?_; rintro e w' ⟨rfl, ew⟩; replace ew := ew.symm; subst ew; rw [hdy])
                go_roundw
                case rel => exact ⟨m + 1, _, _, by omega, by go_num, rfl, rfl, HN, HL, Y0.out, Y3.out, YB.out, HBj.out⟩
                case measure => simp [intOf]; omega
              have t2 : (cu == ((es k).ls m).cur) = false := by simpa using p2
              have HN : Hid (balL ac dm cu (ylP f t es k (m + 1)) = (A, B)) := by show _ = _; rw [HS.out, balL_snoc_not (hit_no (.inr (.inr (fun z => z.elim q2 p2)))), HAB.out]
              clear HS HAB p0 q0 p1 q1 p2 q2
              go_wp2_with (go_at_call 30; refine (l1InB _ _ _ _).mono ?_; rintro e w' ⟨rfl, ew⟩; replace ew := ew.symm; subst ew; rw [hdy])
              go_roundw
              case rel => exact ⟨m + 1, A, B, by omega, by go_num, rfl, rfl, HN, HL, Y0.out, Y3.out, YB.out, HBj.out⟩
              case measure => simp [intOf]; omega
            have t1 : (dm == ((es k).ls m).dim) = false := by simpa using p1
            have HN : Hid (balL ac dm cu (ylP f t es k (m + 1)) = (A, B)) := by show _ = _; rw [HS.out, balL_snoc_not (hit_no (.inr (.inl (fun z => z.elim q1 p1)))), HAB.out]
            clear HS HAB p0 q0 p1 q1
            go_wp2_with (go_at_call 30; refine (l1InB _ _ _ _).mono ?_; rintro e w' ⟨rfl, ew⟩; replace ew := ew.symm; subst ew; rw [hdy])
            go_roundw
            case rel => exact ⟨m + 1, A, B, by omega, by go_num, rfl, rfl, HN, HL, Y0.out, Y3.out, YB.out, HBj.out⟩
            case measure => simp [intOf]; omega
          have t0 : (ac == ((es k).ls m).acc) = false := by simpa using p0
          have HN : Hid (balL ac dm cu (ylP f t es k (m + 1)) = (A, B)) := by show _ = _; rw [HS.out, balL_snoc_not (hit_no (.inl (fun z => z.elim q0 p0))), HAB.out]
          clear HS HAB  p0 q0
          go_wp2_with (go_at_call 30; refine (l1InB _ _ _ _).mono ?_; rintro e w' ⟨rfl, ew⟩; replace ew := ew.symm; subst ew; rw [hdy])
          go_roundw
          case rel => exact ⟨m + 1, A, B, by omega, by go_num, rfl, rfl, HN, HL, Y0.out, Y3.out, YB.out, HBj.out⟩
          case measure => simp [intOf]; omega
        · obtain rfl : m = (es k).n := by omega
          have HN : Hid (balL ac dm cu (ylS f t es (k + 1)) = (A, B)) := HAB.out
          clear hBi
          go_wp2
          go_roundw
          case rel => exact ⟨k + 1, A, B, by omega, by go_num, rfl, rfl, HN, fun i hi => by
            by_cases hik : i = k
            · rw [hik]; exact ⟨by omega, HM.out⟩
            · exact HA.out i (by omega), yb, bel_on HB.out HBi.out⟩
          case measure => simp [intOf]; omega
    · obtain rfl : k = n := by omega
      have HF : Hid (balV ac dm cu f t k es = (A, B)) := by show _ = _; rw [balV_t (smB_t ⟨by omega, HA.out⟩)]; exact HAB.out
      clear hB HAB
      go_wp2
      go_returns
      exact ⟨ret_two HF.out, HB.out⟩

end Go.Proofs.Ytgnhpjlfdkpaiaa
