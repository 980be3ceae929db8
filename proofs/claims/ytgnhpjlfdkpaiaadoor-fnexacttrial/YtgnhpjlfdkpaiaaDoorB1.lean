/- Sums over the lines of entries. Nothing of the program. Contracts of the small tests that sums need: an amount, within bounds, asked for. The model's Balance: it answers balV. -/
import Derived.Test.YtgnhpjlfdkpaiaaDoorLr
import Derived.Test.YtgnhpjlfdkpaiaaDoorLt
import Derived.Deep.Cut
namespace Go.Proofs.YtgnhpjlfdkpaiaaDoor
set_option linter.unusedVariables false

def amtP (x : Int) : Prop := -100000000000 ≤ x ∧ x ≤ 100000000000
instance (x : Int) : Decidable (amtP x) := by unfold amtP; infer_instance
/-- A line whose two numbers are amounts. -/
def lnS (l : L5) : Prop := amtP l.amt ∧ amtP l.base
/-- An entry whose lines are few and can be summed. -/
def enS (e : E4) : Prop := e.n ≤ 60 ∧ ∀ k, k < e.n → lnS (e.ls k)
/-- Entries that can be summed. -/
noncomputable def smB (n : Nat) (es : Nat → E4) : Bool := @decide (n ≤ 1000 ∧ ∀ i, i < n → enS (es i)) (Classical.propDecidable _)
theorem smB_t {n : Nat} {es : Nat → E4} (h : n ≤ 1000 ∧ ∀ i, i < n → enS (es i)) : smB n es = true := @decide_eq_true _ (Classical.propDecidable _) h
theorem smB_f {n : Nat} {es : Nat → E4} (h : ¬ (n ≤ 1000 ∧ ∀ i, i < n → enS (es i))) : smB n es = false := @decide_eq_false _ (Classical.propDecidable _) h
theorem smB_out {n : Nat} {es : Nat → E4} (h : smB n es = true) : n ≤ 1000 ∧ ∀ i, i < n → enS (es i) := @of_decide_eq_true _ (Classical.propDecidable _) h

def askB (a x : Int) : Bool := decide (a = -1 ∨ a = x)
def hitB (ac dm cu : Int) (l : L5) : Bool := askB ac l.acc && askB dm l.dim && askB cu l.cur
def addL (ac dm cu : Int) (s : Int × Int) (l : L5) : Int × Int := if hitB ac dm cu l = true then (s.1 + l.amt, s.2 + l.base) else s
/-- What the lines that are asked for come to. -/
def balL (ac dm cu : Int) (l : List L5) : Int × Int := l.foldl (addL ac dm cu) (0, 0)
theorem balL_nil (ac dm cu : Int) : balL ac dm cu [] = (0, 0) := rfl
theorem balL_snoc (ac dm cu : Int) (l : List L5) (x : L5) : balL ac dm cu (l ++ [x]) = addL ac dm cu (balL ac dm cu l) x := by unfold balL; rw [List.foldl_append]; rfl
theorem addL_hit {ac dm cu : Int} {s : Int × Int} {l : L5} (h : hitB ac dm cu l = true) : addL ac dm cu s l = (s.1 + l.amt, s.2 + l.base) := by unfold addL; rw [if_pos h]
theorem addL_not {ac dm cu : Int} {s : Int × Int} {l : L5} (h : hitB ac dm cu l = false) : addL ac dm cu s l = s := by unfold addL; rw [h]; rfl
theorem balL_snoc_hit {ac dm cu : Int} {l : List L5} {x : L5} (h : hitB ac dm cu x = true) : balL ac dm cu (l ++ [x]) = ((balL ac dm cu l).1 + x.amt, (balL ac dm cu l).2 + x.base) := by rw [balL_snoc, addL_hit h]
theorem balL_snoc_not {ac dm cu : Int} {l : List L5} {x : L5} (h : hitB ac dm cu x = false) : balL ac dm cu (l ++ [x]) = balL ac dm cu l := by rw [balL_snoc, addL_not h]

theorem fold_bound (ac dm cu : Int) : ∀ (l : List L5) (s : Int × Int), (∀ x ∈ l, lnS x) → (s.1 - 100000000000 * (l.length : Int) ≤ (l.foldl (addL ac dm cu) s).1 ∧ (l.foldl (addL ac dm cu) s).1 ≤ s.1 + 100000000000 * (l.length : Int)) ∧ (s.2 - 100000000000 * (l.length : Int) ≤ (l.foldl (addL ac dm cu) s).2 ∧ (l.foldl (addL ac dm cu) s).2 ≤ s.2 + 100000000000 * (l.length : Int))
  | [], s, h => by simp
  | x :: l, s, h => by
    have i1 := fold_bound ac dm cu l (addL ac dm cu s x) (fun y hy => h y (by simp [hy]))
    have hx := h x (by simp)
    unfold lnS amtP at hx
    rw [List.foldl_cons]
    have e : (addL ac dm cu s x).1 ≤ s.1 + 100000000000 ∧ s.1 - 100000000000 ≤ (addL ac dm cu s x).1 ∧ (addL ac dm cu s x).2 ≤ s.2 + 100000000000 ∧ s.2 - 100000000000 ≤ (addL ac dm cu s x).2 := by
      unfold addL; split <;> omega
    simp only [List.length_cons]
    omega
theorem balL_bound (ac dm cu : Int) (l : List L5) (h : ∀ x ∈ l, lnS x) : (-100000000000 * (l.length : Int) ≤ (balL ac dm cu l).1 ∧ (balL ac dm cu l).1 ≤ 100000000000 * (l.length : Int)) ∧ (-100000000000 * (l.length : Int) ≤ (balL ac dm cu l).2 ∧ (balL ac dm cu l).2 ≤ 100000000000 * (l.length : Int)) := by
  have := fold_bound ac dm cu l (0, 0) h
  unfold balL
  omega

/-- The lines of a row, the first k. -/
def rowL (ls : Nat → L5) : Nat → List L5
  | 0 => []
  | k + 1 => rowL ls k ++ [ls k]
theorem rowL_len (ls : Nat → L5) : ∀ k, (rowL ls k).length = k
  | 0 => rfl
  | k + 1 => by simp [rowL, rowL_len ls k]
theorem rowL_mem {ls : Nat → L5} : ∀ {k : Nat} {x : L5}, x ∈ rowL ls k → ∃ i, i < k ∧ x = ls i
  | 0, x, h => by simp [rowL] at h
  | k + 1, x, h => by
    simp only [rowL, List.mem_append, List.mem_singleton] at h
    rcases h with h | rfl
    · obtain ⟨i, hi, e⟩ := rowL_mem h; exact ⟨i, by omega, e⟩
    · exact ⟨k, by omega, rfl⟩
/-- The lines of the first k entries with days from f to t. -/
def ylS (f t : Int) (es : Nat → E4) : Nat → List L5
  | 0 => []
  | k + 1 => if f ≤ (es k).day ∧ (es k).day ≤ t then ylS f t es k ++ rowL (es k).ls (es k).n else ylS f t es k
theorem ylS_in {f t : Int} {es : Nat → E4} {k : Nat} (h : f ≤ (es k).day ∧ (es k).day ≤ t) : ylS f t es (k + 1) = ylS f t es k ++ rowL (es k).ls (es k).n := by simp [ylS, h]
theorem ylS_out {f t : Int} {es : Nat → E4} {k : Nat} (h : ¬ (f ≤ (es k).day ∧ (es k).day ≤ t)) : ylS f t es (k + 1) = ylS f t es k := by simp only [ylS, if_neg h]
theorem ylS_ok {f t : Int} {es : Nat → E4} : ∀ {n : Nat}, (∀ i, i < n → enS (es i)) → (ylS f t es n).length ≤ 60 * n ∧ ∀ x ∈ ylS f t es n, lnS x
  | 0, h => by simp [ylS]
  | k + 1, h => by
    obtain ⟨h1, h2⟩ := ylS_ok (f := f) (t := t) (n := k) (fun i hi => h i (by omega))
    obtain ⟨h3, h4⟩ := h k (by omega)
    by_cases hd : f ≤ (es k).day ∧ (es k).day ≤ t
    · rw [ylS_in hd]
      refine ⟨by rw [List.length_append, rowL_len]; omega, fun x hx => ?_⟩
      rcases List.mem_append.1 hx with g | g
      · exact h2 x g
      · obtain ⟨i, hi, rfl⟩ := rowL_mem g; exact h4 i hi
    · rw [ylS_out hd]; exact ⟨by omega, h2⟩
theorem ylS_mem {f t : Int} {es : Nat → E4} : ∀ {n : Nat} {x : L5}, x ∈ ylS f t es n → ∃ i k, i < n ∧ k < (es i).n ∧ x = (es i).ls k
  | 0, x, h => by simp [ylS] at h
  | m + 1, x, h => by
    by_cases hd : f ≤ (es m).day ∧ (es m).day ≤ t
    · rw [ylS_in hd] at h
      rcases List.mem_append.1 h with g | g
      · obtain ⟨i, k, hi, hk, e⟩ := ylS_mem g; exact ⟨i, k, by omega, hk, e⟩
      · obtain ⟨k, hk, e⟩ := rowL_mem g; exact ⟨m, k, by omega, hk, e⟩
    · rw [ylS_out hd] at h
      obtain ⟨i, k, hi, hk, e⟩ := ylS_mem h; exact ⟨i, k, by omega, hk, e⟩
/-- The lines up to entry i, and of entry i the first k: where one is within the days. -/
def ylP (f t : Int) (es : Nat → E4) (i k : Nat) : List L5 := if f ≤ (es i).day ∧ (es i).day ≤ t then ylS f t es i ++ rowL (es i).ls k else ylS f t es i
theorem ylP_zero (f t : Int) (es : Nat → E4) (i : Nat) : ylP f t es i 0 = ylS f t es i := by unfold ylP; split <;> simp [rowL]
theorem ylP_full (f t : Int) (es : Nat → E4) (i : Nat) : ylP f t es i (es i).n = ylS f t es (i + 1) := rfl
theorem ylP_in {f t : Int} {es : Nat → E4} {i k : Nat} (h : f ≤ (es i).day ∧ (es i).day ≤ t) : ylP f t es i (k + 1) = ylP f t es i k ++ [(es i).ls k] := by unfold ylP; rw [if_pos h, if_pos h, rowL, List.append_assoc]
theorem ylP_out {f t : Int} {es : Nat → E4} {i k m : Nat} (h : ¬ (f ≤ (es i).day ∧ (es i).day ≤ t)) : ylP f t es i k = ylP f t es i m := by unfold ylP; rw [if_neg h, if_neg h]
theorem ylS_mono {f t : Int} {es : Nat → E4} : ∀ {n m : Nat}, n ≤ m → ∃ r, ylS f t es m = ylS f t es n ++ r
  | n, 0, h => ⟨[], by obtain rfl : n = 0 := by omega
                       simp⟩
  | n, m + 1, h => by
    by_cases hn : n = m + 1
    · subst hn; exact ⟨[], by simp⟩
    · obtain ⟨r, hr⟩ := ylS_mono (f := f) (t := t) (es := es) (n := n) (m := m) (by omega)
      by_cases hd : f ≤ (es m).day ∧ (es m).day ≤ t
      · exact ⟨r ++ rowL (es m).ls (es m).n, by rw [ylS_in hd, hr, List.append_assoc]⟩
      · exact ⟨r, by rw [ylS_out hd, hr]⟩
theorem rowL_mono {ls : Nat → L5} : ∀ {n m : Nat}, n ≤ m → ∃ r, rowL ls m = rowL ls n ++ r
  | n, 0, h => ⟨[], by obtain rfl : n = 0 := by omega
                       simp⟩
  | n, m + 1, h => by
    by_cases hn : n = m + 1
    · subst hn; exact ⟨[], by simp⟩
    · obtain ⟨r, hr⟩ := rowL_mono (ls := ls) (n := n) (m := m) (by omega)
      exact ⟨r ++ [ls m], by rw [rowL, hr, List.append_assoc]⟩
theorem ylP_pre {f t : Int} {es : Nat → E4} {i k n : Nat} (hi : i < n) (hk : k ≤ (es i).n) : ∃ r, ylS f t es n = ylP f t es i k ++ r := by
  obtain ⟨r, hr⟩ := ylS_mono (f := f) (t := t) (es := es) (n := i + 1) (m := n) (by omega)
  by_cases hd : f ≤ (es i).day ∧ (es i).day ≤ t
  · obtain ⟨q, hq⟩ := rowL_mono (ls := (es i).ls) hk
    exact ⟨q ++ r, by rw [hr, ylS_in hd, hq]; unfold ylP; rw [if_pos hd]; simp [List.append_assoc]⟩
  · exact ⟨r, by rw [hr, ylS_out hd]; unfold ylP; rw [if_neg hd]⟩
/-- What Balance tells. -/
noncomputable def balV (ac dm cu f t : Int) (n : Nat) (es : Nat → E4) : Int × Int := if smB n es = true then balL ac dm cu (ylS f t es n) else (0, 0)
theorem balV_t {ac dm cu f t : Int} {n : Nat} {es : Nat → E4} (h : smB n es = true) : balV ac dm cu f t n es = balL ac dm cu (ylS f t es n) := by unfold balV; rw [if_pos h]
theorem balV_f {ac dm cu f t : Int} {n : Nat} {es : Nat → E4} (h : smB n es = false) : balV ac dm cu f t n es = (0, 0) := by unfold balV; rw [h]; rfl
theorem bal_small {ac dm cu f t : Int} {n : Nat} {es : Nat → E4} (hn : n ≤ 1000) (h : ∀ i, i < n → enS (es i)) (l : List L5) (hl : ∃ r, ylS f t es n = l ++ r) :
    (-6000000000000000 ≤ (balL ac dm cu l).1 ∧ (balL ac dm cu l).1 ≤ 6000000000000000) ∧ (-6000000000000000 ≤ (balL ac dm cu l).2 ∧ (balL ac dm cu l).2 ≤ 6000000000000000) := by
  obtain ⟨r, hr⟩ := hl
  obtain ⟨h1, h2⟩ := ylS_ok (f := f) (t := t) h
  have h3 := balL_bound ac dm cu l (fun x hx => h2 x (by rw [hr]; simp [hx]))
  have h4 : l.length ≤ 60000 := by rw [hr, List.length_append] at h1; omega
  omega

end Go.Proofs.YtgnhpjlfdkpaiaaDoor


namespace Go.Proofs.YtgnhpjlfdkpaiaaDoor
open Go.ChangeShapes Go.WideShapes Go.ChangeAt Go.RowKit
set_option linter.unusedVariables false
set_option linter.unusedSimpArgs false

def amB (x : Int) : Bool := decide (-100000000000 ≤ x ∧ x ≤ 100000000000)
theorem amB_t {x : Int} (h : amtP x) : amB x = true := decide_eq_true h
theorem amB_f {x : Int} (h : ¬ amtP x) : amB x = false := decide_eq_false h
theorem sret_bool {a b : Bool} (h : b = a) : Ending.returned (.bool a) = .returned (.bool b) := by rw [h]
theorem isAmt_any (x : Int) (w : World) : Calls Tryd.prog 126 #[.int .i64 x] w fun e w' => e = .returned (.bool (amB x)) ∧ w' = w := by
  go_enter Tryd.func126, Tryd.ntmps126
  go_wp2
  all_goals go_returns
  all_goals exact ⟨sret_bool (by unfold amB; rw [Bool.eq_iff_iff]; simp; try omega), rfl⟩
theorem isAsked_any (a x : Int) (w : World) : Calls Tryd.prog 75 #[.int .i64 a, .int .i64 x] w fun e w' => e = .returned (.bool (askB a x)) ∧ w' = w := by
  by_cases h : a = -1
  · subst h
    go_enter Tryd.func75, Tryd.ntmps75
    go_wp2
    go_returns
    exact ⟨sret_bool (by unfold askB; simp), rfl⟩
  · have h2 : (a == -1) = false := by simpa using h
    go_enter Tryd.func75, Tryd.ntmps75
    go_wp2
    go_returns
    exact ⟨sret_bool (by unfold askB; rw [Bool.eq_iff_iff]; simp [h]), rfl⟩
theorem l1InB (x lo hi : Int) (w : World) : Calls Tryd.prog 82 #[.int .i64 x, .int .i64 lo, .int .i64 hi] w fun e w' => e = .returned (.bool (decide (lo ≤ x ∧ x ≤ hi))) ∧ w' = w := by
  go_enter Tryd.func82, Tryd.ntmps82
  go_wp2
  all_goals go_returns
  all_goals exact ⟨sret_bool (by rw [Bool.eq_iff_iff]; simp; try omega), rfl⟩
theorem l1Amt_any (x : Int) (w : World) : Calls Tryd.prog 139 #[.int .i64 x] w fun e w' => e = .returned (.bool (amB x)) ∧ w' = w := by
  go_enter Tryd.func139, Tryd.ntmps139
  go_wp2_with (go_at_call 82; refine (l1InB _ _ _ _).mono ?_; rintro e w3 ⟨rfl, ew⟩; replace ew := ew.symm; subst ew)
  go_returns
  exact ⟨sret_bool (by unfold amB; rw [Bool.eq_iff_iff]; simp), rfl⟩

set_option maxRecDepth 20000 in
set_option maxHeartbeats 4000000 in
theorem isSummable_any (ad : Option Addr) (n cap : Nat) (es : Nat → E4) (hd : Int) (w : World) (hr : ER w ad n es) :
    Calls Tryd.prog 73 #[.agg #[.slice ad n cap, .int .i64 hd]] w fun e w' => e = .returned (.bool (smB n es)) ∧ Below w.heap.size w w' := by
  have HR : Hid (ER w ad n es) := hr
  clear hr
  by_cases h : (n : Int) ≤ 1000
  rotate_left
  · have HF : Hid (smB n es = false) := smB_f (fun q => by omega)
    go_enter Tryd.func73, Tryd.ntmps73
    go_wp2
    go_returns
    exact ⟨sret_bool HF.out, by go_grown⟩
  go_enter Tryd.func73, Tryd.ntmps73
  go_wp2
  go_loopw [14] (fun i wr => ∃ k : Nat, k ≤ n ∧ i = .int .i64 (k : Int) ∧ Hid (∀ i, i < k → enS (es i)) ∧ Below w.heap.size w wr) (fun i _ => n - (intOf i).toNat)
  case atStart => exact ⟨0, Nat.zero_le _, rfl, fun i hi => by omega, by go_grown⟩
  case round =>
    obtain ⟨k, hk, rfl, HA, hB⟩ := hrel
    obtain ⟨W1, hW1⟩ : ∃ W1, W1 = wr := ⟨_, rfl⟩
    subst hW1
    have HB : Hid (Below w.heap.size w W1) := hB
    by_cases hlt : k < n
    · obtain ⟨kb, off, rfl, hkb⟩ := HR.out.addr (by omega)
      obtain ⟨c1, c2, c3, la, lca, c4, hl⟩ := (HR.out.below hB).cell hlt
      have HLR : Hid (LR W1 la (es k).n (es k).ls) := hl
      clear hl hB
      by_cases g : ((es k).n : Int) ≤ 60
      rotate_left
      · have HF : Hid (smB n es = false) := smB_f (fun q => g (by have := (q.2 k hlt).1; omega))
        have HBa : Hid (Below w.heap.size w (W1.alloc (.cells #[.int .i64 (es k).day, .int .i64 (es k).ref, .string (es k).text, .slice la (es k).n lca] 32 (0, 0)))) := HB.out.alloc HB.out.size _
        go_wp2
        go_returns
        exact ⟨sret_bool HF.out, HBa.out⟩
      have HBa : Hid (Below W1.heap.size W1 (W1.alloc (.cells #[.int .i64 (es k).day, .int .i64 (es k).ref, .string (es k).text, .slice la (es k).n lca] 32 (0, 0)))) := (Below.refl _ _).alloc (Nat.le_refl _) _
      go_wp2
      go_loopw [25] (fun j wi => ∃ m : Nat, m ≤ (es k).n ∧ j = .int .i64 (m : Int) ∧ Hid (∀ i, i < m → lnS ((es k).ls i)) ∧ Below W1.heap.size W1 wi) (fun j _ => (es k).n - (intOf j).toNat)
      case atStart => exact ⟨0, Nat.zero_le _, rfl, fun i hi => by omega, HBa.out⟩
      case round =>
        obtain ⟨m, hm, rfl, HM, hBi⟩ := hrel
        have HBi : Hid (Below W1.heap.size W1 wr) := hBi
        by_cases hmt : m < (es k).n
        · obtain ⟨lb, lo, rfl, _⟩ := HLR.out.addr (by omega)
          obtain ⟨x0, x1, x2, x3, x4⟩ := (HLR.out.below hBi).cell hmt
          clear hBi
          have HBj : Hid (Below W1.heap.size W1 (wr.alloc (.cells #[.int .i64 ((es k).ls m).acc, .int .i64 ((es k).ls m).dim, .int .i64 ((es k).ls m).cur, .int .i64 ((es k).ls m).amt, .int .i64 ((es k).ls m).base] 56 (0, 0)))) := HBi.out.alloc HBi.out.size _
          by_cases ga : amtP ((es k).ls m).amt
          rotate_left
          · have ha := amB_f ga
            have HF : Hid (smB n es = false) := smB_f (fun q => ga ((q.2 k hlt).2 m hmt).1)
            go_wp2_with (go_at_call 126; refine (isAmt_any _ _).mono ?_; rintro e w' ⟨rfl, ew⟩; replace ew := ew.symm; subst ew; rw [ha])
            go_returns
            exact ⟨sret_bool HF.out, bel_on HB.out HBj.out⟩
          by_cases gb : amtP ((es k).ls m).base
          rotate_left
          · have ha := amB_t ga
            have hb := amB_f gb
            have HF : Hid (smB n es = false) := smB_f (fun q => gb ((q.2 k hlt).2 m hmt).2)
            go_wp2_with (go_at_call 126; refine (isAmt_any _ _).mono ?_; rintro e w' ⟨rfl, ew⟩; replace ew := ew.symm; subst ew; first | rw [ha] | rw [hb])
            go_returns
            exact ⟨sret_bool HF.out, bel_on HB.out HBj.out⟩
          have ha := amB_t ga
          have hb := amB_t gb
          have HL : Hid (lnS ((es k).ls m)) := ⟨ga, gb⟩
          go_wp2_with (go_at_call 126; refine (isAmt_any _ _).mono ?_; rintro e w' ⟨rfl, ew⟩; replace ew := ew.symm; subst ew; first | rw [ha] | rw [hb])
          go_roundw
          case rel => exact ⟨m + 1, by omega, by go_num, fun i hi => by
            by_cases hik : i = m
            · rw [hik]; exact HL.out
            · exact HM.out i (by omega), HBj.out⟩
          case measure => simp [intOf]; omega
        · obtain rfl : m = (es k).n := by omega
          clear hBi
          go_wp2
          go_roundw
          case rel => exact ⟨k + 1, by omega, by go_num, fun i hi => by
            by_cases hik : i = k
            · rw [hik]; exact ⟨by omega, HM.out⟩
            · exact HA.out i (by omega), bel_on HB.out HBi.out⟩
          case measure => simp [intOf]; omega
    · obtain rfl : k = n := by omega
      have HF : Hid (smB k es = true) := smB_t ⟨by omega, HA.out⟩
      clear hB
      go_wp2
      go_returns
      exact ⟨sret_bool HF.out, HB.out⟩

end Go.Proofs.YtgnhpjlfdkpaiaaDoor


namespace Go.Proofs.YtgnhpjlfdkpaiaaDoor
open Go.ChangeShapes Go.WideShapes Go.ChangeAt Go.RowKit
set_option linter.unusedVariables false
set_option linter.unusedSimpArgs false

theorem ylP_ok {f t : Int} {es : Nat → E4} {k m : Nat} (h : ∀ i, i < k → enS (es i)) (hm : m ≤ 60) (h2 : ∀ i, i < m → lnS ((es k).ls i)) : (ylP f t es k m).length ≤ 60 * k + 60 ∧ ∀ x ∈ ylP f t es k m, lnS x := by
  obtain ⟨a, b⟩ := ylS_ok (f := f) (t := t) h
  unfold ylP
  split
  · refine ⟨by rw [List.length_append, rowL_len]; omega, fun x hx => ?_⟩
    rcases List.mem_append.1 hx with g | g
    · exact b x g
    · obtain ⟨i, hi, rfl⟩ := rowL_mem g; exact h2 i hi
  · exact ⟨by omega, b⟩
theorem balP_small {ac dm cu f t : Int} {es : Nat → E4} {k m : Nat} (hk : k ≤ 1000) (h : ∀ i, i < k → enS (es i)) (hm : m ≤ 60) (h2 : ∀ i, i < m → lnS ((es k).ls i)) :
    (-7000000000000000 ≤ (balL ac dm cu (ylP f t es k m)).1 ∧ (balL ac dm cu (ylP f t es k m)).1 ≤ 7000000000000000) ∧ (-7000000000000000 ≤ (balL ac dm cu (ylP f t es k m)).2 ∧ (balL ac dm cu (ylP f t es k m)).2 ≤ 7000000000000000) := by
  obtain ⟨a, b⟩ := ylP_ok (f := f) (t := t) h hm h2
  have := balL_bound ac dm cu _ b
  omega
theorem ret_two {a b c d : Int} (h : (c, d) = (a, b)) : Ending.returned (.tuple #[.int .i64 a, .int .i64 b]) = .returned (.tuple #[.int .i64 c, .int .i64 d]) := by cases h; rfl
theorem hit_yes {ac dm cu : Int} {l : L5} (h1 : ac = -1 ∨ ac = l.acc) (h2 : dm = -1 ∨ dm = l.dim) (h3 : cu = -1 ∨ cu = l.cur) : hitB ac dm cu l = true := by unfold hitB askB; simp [h1, h2, h3]
theorem hit_no {ac dm cu : Int} {l : L5} (h : ¬ (ac = -1 ∨ ac = l.acc) ∨ ¬ (dm = -1 ∨ dm = l.dim) ∨ ¬ (cu = -1 ∨ cu = l.cur)) : hitB ac dm cu l = false := by
  unfold hitB askB
  rcases h with h | h | h <;> simp [h]

set_option maxRecDepth 20000 in
set_option maxHeartbeats 16000000 in
theorem specBal_any (ad : Option Addr) (n cap : Nat) (es : Nat → E4) (hd ac dm cu f t : Int) (w : World) (hr : ER w ad n es) :
    Calls Tryd.prog 109 #[.agg #[.slice ad n cap, .int .i64 hd], .int .i64 ac, .int .i64 dm, .int .i64 cu, .int .i64 f, .int .i64 t] w fun e w' => e = .returned (.tuple #[.int .i64 (balV ac dm cu f t n es).1, .int .i64 (balV ac dm cu f t n es).2]) ∧ Below w.heap.size w w' := by
  have HR : Hid (ER w ad n es) := hr
  clear hr
  by_cases h : (n : Int) ≤ 1000
  rotate_left
  · have HF : Hid (balV ac dm cu f t n es = (0, 0)) := balV_f (smB_f (fun q => by omega))
    go_enter Tryd.func109, Tryd.ntmps109
    go_wp2
    go_returns
    exact ⟨ret_two HF.out, by go_grown⟩
  have X0 : Hid (CB (w.alloc (.cells #[.slice ad n cap, .int .i64 hd] 29 (0, 0))) w.heap.size #[.slice ad n cap, .int .i64 hd] 29) := CB.new _ _
  go_enter Tryd.func109, Tryd.ntmps109
  go_wp2
  go_loopw [14, 15, 16] (fun u v i wr => ∃ (k : Nat) (A B : Int), k ≤ n ∧ i = .int .i64 (k : Int) ∧ u = .int .i64 A ∧ v = .int .i64 B ∧ Hid (balL ac dm cu (ylS f t es k) = (A, B)) ∧ Hid (∀ i, i < k → enS (es i)) ∧ wr.cell? ⟨w.heap.size, 0, none⟩ = some (.slice ad n cap) ∧ Below w.heap.size w wr) (fun _ _ i _ => n - (intOf i).toNat)
  case atStart => exact ⟨0, 0, 0, Nat.zero_le _, rfl, rfl, rfl, rfl, fun i hi => by omega, (X0.out.cell 0).trans rfl, by go_grown⟩
  case round =>
    obtain ⟨k, A, B, hk, rfl, rfl, rfl, HAB, HA, yb, hB⟩ := hrel
    obtain ⟨W1, hW1⟩ : ∃ W1, W1 = wr := ⟨_, rfl⟩
    subst hW1
    have HB : Hid (Below w.heap.size w W1) := hB
    by_cases hlt : k < n
    · obtain ⟨kb, off, rfl, hkb⟩ := HR.out.addr (by omega)
      obtain ⟨c1, c2, c3, la, lca, c4, hl⟩ := (HR.out.below hB).cell hlt
      have HLR : Hid (LR W1 la (es k).n (es k).ls) := hl
      clear hl hB
      have HBa : Hid (Below W1.heap.size W1 (W1.alloc (.cells #[.int .i64 (es k).day, .int .i64 (es k).ref, .string (es k).text, .slice la (es k).n lca] 32 (0, 0)))) := (Below.refl _ _).alloc (Nat.le_refl _) _
      by_cases g : ((es k).n : Int) ≤ 60
      rotate_left
      · have HF : Hid (balV ac dm cu f t n es = (0, 0)) := balV_f (smB_f (fun q => g (by have := (q.2 k hlt).1; omega)))
        go_wp2
        go_returns
        exact ⟨ret_two HF.out, bel_on HB.out HBa.out⟩
      have XE : Hid (CB (W1.alloc (.cells #[.int .i64 (es k).day, .int .i64 (es k).ref, .string (es k).text, .slice la (es k).n lca] 32 (0, 0))) W1.heap.size #[.int .i64 (es k).day, .int .i64 (es k).ref, .string (es k).text, .slice la (es k).n lca] 32) := CB.new _ _
      have YB : Hid ((W1.alloc (.cells #[.int .i64 (es k).day, .int .i64 (es k).ref, .string (es k).text, .slice la (es k).n lca] 32 (0, 0))).cell? ⟨w.heap.size, 0, none⟩ = some (.slice (some ⟨kb, off, none⟩) n cap)) := keep_cell HBa.out yb
      have HAB0 : Hid (balL ac dm cu (ylP f t es k 0) = (A, B)) := by show _ = _; rw [ylP_zero]; exact HAB.out
      clear HAB
      go_wp2
      go_loopw [14, 15, 18] (fun u v j wi => ∃ (m : Nat) (A B : Int), m ≤ (es k).n ∧ j = .int .i64 (m : Int) ∧ u = .int .i64 A ∧ v = .int .i64 B ∧ Hid (balL ac dm cu (ylP f t es k m) = (A, B)) ∧ Hid (∀ i, i < m → lnS ((es k).ls i)) ∧ wi.cell? ⟨W1.heap.size, 0, none⟩ = some (.int .i64 (es k).day) ∧ wi.cell? ⟨W1.heap.size, 3, none⟩ = some (.slice la (es k).n lca) ∧ wi.cell? ⟨w.heap.size, 0, none⟩ = some (.slice (some ⟨kb, off, none⟩) n cap) ∧ Below W1.heap.size W1 wi) (fun _ _ j _ => (es k).n - (intOf j).toNat)
      case atStart => exact ⟨0, A, B, Nat.zero_le _, rfl, rfl, rfl, HAB0, fun i hi => by omega, (XE.out.cell 0).trans rfl, (XE.out.cell 3).trans rfl, YB.out, HBa.out⟩
      case round =>
        clear HAB0 XE YB yb
        obtain ⟨m, A, B, hm, rfl, rfl, rfl, HAB, HM, y0, y3, yb, hBi⟩ := hrel
        have HBi : Hid (Below W1.heap.size W1 wr) := hBi
        by_cases hmt : m < (es k).n
        · obtain ⟨lb, lo, rfl, _⟩ := HLR.out.addr (by omega)
          obtain ⟨x0, x1, x2, x3, x4⟩ := (HLR.out.below hBi).cell hmt
          clear hBi
          have hab : ((-7000000000000000 ≤ A ∧ A ≤ 7000000000000000) ∧ (-7000000000000000 ≤ B ∧ B ≤ 7000000000000000)) := by
            have := balP_small (ac := ac) (dm := dm) (cu := cu) (f := f) (t := t) (es := es) (k := k) (m := m) (by omega) HA.out (by omega) HM.out
            rw [HAB.out] at this; exact this
          obtain ⟨⟨a1, a2⟩, b1, b2⟩ := hab
          have HBj : Hid (Below W1.heap.size W1 (wr.alloc (.cells #[.int .i64 ((es k).ls m).acc, .int .i64 ((es k).ls m).dim, .int .i64 ((es k).ls m).cur, .int .i64 ((es k).ls m).amt, .int .i64 ((es k).ls m).base] 56 (0, 0)))) := HBi.out.alloc HBi.out.size _
          have Y0 : Hid ((wr.alloc (.cells #[.int .i64 ((es k).ls m).acc, .int .i64 ((es k).ls m).dim, .int .i64 ((es k).ls m).cur, .int .i64 ((es k).ls m).amt, .int .i64 ((es k).ls m).base] 56 (0, 0))).cell? ⟨W1.heap.size, 0, none⟩ = some (.int .i64 (es k).day)) := keep_cell ((Below.refl _ _).alloc (Nat.le_refl _) _) y0
          have Y3 : Hid ((wr.alloc (.cells #[.int .i64 ((es k).ls m).acc, .int .i64 ((es k).ls m).dim, .int .i64 ((es k).ls m).cur, .int .i64 ((es k).ls m).amt, .int .i64 ((es k).ls m).base] 56 (0, 0))).cell? ⟨W1.heap.size, 3, none⟩ = some (.slice (some ⟨lb, lo, none⟩) (es k).n lca)) := keep_cell ((Below.refl _ _).alloc (Nat.le_refl _) _) y3
          have YB : Hid ((wr.alloc (.cells #[.int .i64 ((es k).ls m).acc, .int .i64 ((es k).ls m).dim, .int .i64 ((es k).ls m).cur, .int .i64 ((es k).ls m).amt, .int .i64 ((es k).ls m).base] 56 (0, 0))).cell? ⟨w.heap.size, 0, none⟩ = some (.slice (some ⟨kb, off, none⟩) n cap)) := keep_cell ((Below.refl _ _).alloc (Nat.le_refl _) _) yb
          have q0 := Y0.out
          by_cases ga : amtP ((es k).ls m).amt
          rotate_left
          · have ha := amB_f ga
            have HF : Hid (balV ac dm cu f t n es = (0, 0)) := balV_f (smB_f (fun q => ga ((q.2 k hlt).2 m hmt).1))
            go_wp2_with (go_at_call 139; refine (l1Amt_any _ _).mono ?_; rintro e w' ⟨rfl, ew⟩; replace ew := ew.symm; subst ew; rw [ha])
            go_returns
            exact ⟨ret_two HF.out, bel_on HB.out HBj.out⟩
          by_cases gb : amtP ((es k).ls m).base
          rotate_left
          · have ha := amB_t ga
            have hb := amB_f gb
            have HF : Hid (balV ac dm cu f t n es = (0, 0)) := balV_f (smB_f (fun q => gb ((q.2 k hlt).2 m hmt).2))
            go_wp2_with (go_at_call 139; refine (l1Amt_any _ _).mono ?_; rintro e w' ⟨rfl, ew⟩; replace ew := ew.symm; subst ew; first | rw [ha] | rw [hb])
            go_returns
            exact ⟨ret_two HF.out, bel_on HB.out HBj.out⟩
          have ha := amB_t ga
          have hb := amB_t gb
          have HL : Hid (∀ i, i < m + 1 → lnS ((es k).ls i)) := fun i hi => by
            by_cases hik : i = m
            · rw [hik]; exact ⟨ga, gb⟩
            · exact HM.out i (by omega)
          have ga1 := ga.1
          have ga2 := ga.2
          have gb1 := gb.1
          have gb2 := gb.2
          clear ga gb
          by_cases hd2 : f ≤ (es k).day ∧ (es k).day ≤ t
          rotate_left
          · have hdy : decide (f ≤ (es k).day ∧ (es k).day ≤ t) = false := decide_eq_false hd2
            have HN : Hid (balL ac dm cu (ylP f t es k (m + 1)) = (A, B)) := by show _ = _; rw [ylP_out hd2 (m := m)]; exact HAB.out
            clear hd2
            go_wp2_with (first | (go_at_call 139; refine (l1Amt_any _ _).mono ?_; rintro e w' ⟨rfl, ew⟩; replace ew := ew.symm; subst ew; first | rw [ha] | rw [hb]) | (go_at_call 82; refine (l1InB _ _ _ _).mono ?_; rintro e w' ⟨rfl, ew⟩; replace ew := ew.symm; subst ew; rw [hdy]))
            go_roundw
            case rel => exact ⟨m + 1, A, B, by omega, by go_num, rfl, rfl, HN, HL, Y0.out, Y3.out, YB.out, HBj.out⟩
            case measure => simp [intOf]; omega
          have hdy : decide (f ≤ (es k).day ∧ (es k).day ≤ t) = true := decide_eq_true hd2
          have HS : Hid (ylP f t es k (m + 1) = ylP f t es k m ++ [(es k).ls m]) := ylP_in hd2
          clear hd2
          go_upto_region 17 with (go_at_call 139; refine (l1Amt_any _ _).mono ?_; rintro e w' ⟨rfl, ew⟩; replace ew := ew.symm; subst ew; first | rw [ha] | rw [hb])
          by_cases q0 : ac = -1
          · have r0 : (ac == -1) = true := by simpa using q0
            have s0 : decide (ac = -1) = true := by simpa using q0
            by_cases q1 : dm = -1
            · have r1 : (dm == -1) = true := by simpa using q1
              have s1 : decide (dm = -1) = true := by simpa using q1
              by_cases q2 : cu = -1
              · have r2 : (cu == -1) = true := by simpa using q2
                have s2 : decide (cu = -1) = true := by simpa using q2
                have HN : Hid (balL ac dm cu (ylP f t es k (m + 1)) = (A + ((es k).ls m).amt, B + ((es k).ls m).base)) := by show _ = _; rw [HS.out, balL_snoc_hit (hit_yes (.inl q0) (.inl q1) (.inl q2)), HAB.out]
                clear HS HAB q0 q1 q2
                go_wp2_with (go_at_call 82; refine (l1InB _ _ _ _).mono ?_; rintro e w' ⟨rfl, ew⟩; replace ew := ew.symm; subst ew; rw [hdy])
                go_roundw
                case rel => exact ⟨m + 1, _, _, by omega, by go_num, rfl, rfl, HN, HL, Y0.out, Y3.out, YB.out, HBj.out⟩
                case measure => simp [intOf]; omega
              have r2 : (cu == -1) = false := by simpa using q2
              have s2 : decide (cu = -1) = false := by simpa using q2
              by_cases p2 : cu = ((es k).ls m).cur
              · have t2 : (cu == ((es k).ls m).cur) = true := by simpa using p2
                have HN : Hid (balL ac dm cu (ylP f t es k (m + 1)) = (A + ((es k).ls m).amt, B + ((es k).ls m).base)) := by show _ = _; rw [HS.out, balL_snoc_hit (hit_yes (.inl q0) (.inl q1) (.inr p2)), HAB.out]
                clear HS HAB q0 q1 p2 q2
                go_wp2_with (go_at_call 82; refine (l1InB _ _ _ _).mono ?_; rintro e w' ⟨rfl, ew⟩; replace ew := ew.symm; subst ew; rw [hdy])
                go_roundw
                case rel => exact ⟨m + 1, _, _, by omega, by go_num, rfl, rfl, HN, HL, Y0.out, Y3.out, YB.out, HBj.out⟩
                case measure => simp [intOf]; omega
              have t2 : (cu == ((es k).ls m).cur) = false := by simpa using p2
              have HN : Hid (balL ac dm cu (ylP f t es k (m + 1)) = (A, B)) := by show _ = _; rw [HS.out, balL_snoc_not (hit_no (.inr (.inr (fun z => z.elim q2 p2)))), HAB.out]
              clear HS HAB q0 q1 p2 q2
              go_wp2_with (go_at_call 82; refine (l1InB _ _ _ _).mono ?_; rintro e w' ⟨rfl, ew⟩; replace ew := ew.symm; subst ew; rw [hdy])
              go_roundw
              case rel => exact ⟨m + 1, A, B, by omega, by go_num, rfl, rfl, HN, HL, Y0.out, Y3.out, YB.out, HBj.out⟩
              case measure => simp [intOf]; omega
            have r1 : (dm == -1) = false := by simpa using q1
            have s1 : decide (dm = -1) = false := by simpa using q1
            by_cases p1 : dm = ((es k).ls m).dim
            · have t1 : (dm == ((es k).ls m).dim) = true := by simpa using p1
              by_cases q2 : cu = -1
              · have r2 : (cu == -1) = true := by simpa using q2
                have s2 : decide (cu = -1) = true := by simpa using q2
                have HN : Hid (balL ac dm cu (ylP f t es k (m + 1)) = (A + ((es k).ls m).amt, B + ((es k).ls m).base)) := by show _ = _; rw [HS.out, balL_snoc_hit (hit_yes (.inl q0) (.inr p1) (.inl q2)), HAB.out]
                clear HS HAB q0 p1 q1 q2
                go_wp2_with (go_at_call 82; refine (l1InB _ _ _ _).mono ?_; rintro e w' ⟨rfl, ew⟩; replace ew := ew.symm; subst ew; rw [hdy])
                go_roundw
                case rel => exact ⟨m + 1, _, _, by omega, by go_num, rfl, rfl, HN, HL, Y0.out, Y3.out, YB.out, HBj.out⟩
                case measure => simp [intOf]; omega
              have r2 : (cu == -1) = false := by simpa using q2
              have s2 : decide (cu = -1) = false := by simpa using q2
              by_cases p2 : cu = ((es k).ls m).cur
              · have t2 : (cu == ((es k).ls m).cur) = true := by simpa using p2
                have HN : Hid (balL ac dm cu (ylP f t es k (m + 1)) = (A + ((es k).ls m).amt, B + ((es k).ls m).base)) := by show _ = _; rw [HS.out, balL_snoc_hit (hit_yes (.inl q0) (.inr p1) (.inr p2)), HAB.out]
                clear HS HAB q0 p1 q1 p2 q2
                go_wp2_with (go_at_call 82; refine (l1InB _ _ _ _).mono ?_; rintro e w' ⟨rfl, ew⟩; replace ew := ew.symm; subst ew; rw [hdy])
                go_roundw
                case rel => exact ⟨m + 1, _, _, by omega, by go_num, rfl, rfl, HN, HL, Y0.out, Y3.out, YB.out, HBj.out⟩
                case measure => simp [intOf]; omega
              have t2 : (cu == ((es k).ls m).cur) = false := by simpa using p2
              have HN : Hid (balL ac dm cu (ylP f t es k (m + 1)) = (A, B)) := by show _ = _; rw [HS.out, balL_snoc_not (hit_no (.inr (.inr (fun z => z.elim q2 p2)))), HAB.out]
              clear HS HAB q0 p1 q1 p2 q2
              go_wp2_with (go_at_call 82; refine (l1InB _ _ _ _).mono ?_; rintro e w' ⟨rfl, ew⟩; replace ew := ew.symm; subst ew; rw [hdy])
              go_roundw
              case rel => exact ⟨m + 1, A, B, by omega, by go_num, rfl, rfl, HN, HL, Y0.out, Y3.out, YB.out, HBj.out⟩
              case measure => simp [intOf]; omega
            have t1 : (dm == ((es k).ls m).dim) = false := by simpa using p1
            have HN : Hid (balL ac dm cu (ylP f t es k (m + 1)) = (A, B)) := by show _ = _; rw [HS.out, balL_snoc_not (hit_no (.inr (.inl (fun z => z.elim q1 p1)))), HAB.out]
            clear HS HAB q0 p1 q1
            go_wp2_with (go_at_call 82; refine (l1InB _ _ _ _).mono ?_; rintro e w' ⟨rfl, ew⟩; replace ew := ew.symm; subst ew; rw [hdy])
            go_roundw
            case rel => exact ⟨m + 1, A, B, by omega, by go_num, rfl, rfl, HN, HL, Y0.out, Y3.out, YB.out, HBj.out⟩
            case measure => simp [intOf]; omega
          have r0 : (ac == -1) = false := by simpa using q0
          have s0 : decide (ac = -1) = false := by simpa using q0
          by_cases p0 : ac = ((es k).ls m).acc
          · have t0 : (ac == ((es k).ls m).acc) = true := by simpa using p0
            by_cases q1 : dm = -1
            · have r1 : (dm == -1) = true := by simpa using q1
              have s1 : decide (dm = -1) = true := by simpa using q1
              by_cases q2 : cu = -1
              · have r2 : (cu == -1) = true := by simpa using q2
                have s2 : decide (cu = -1) = true := by simpa using q2
                have HN : Hid (balL ac dm cu (ylP f t es k (m + 1)) = (A + ((es k).ls m).amt, B + ((es k).ls m).base)) := by show _ = _; rw [HS.out, balL_snoc_hit (hit_yes (.inr p0) (.inl q1) (.inl q2)), HAB.out]
                clear HS HAB p0 q0 q1 q2
                go_wp2_with (go_at_call 82; refine (l1InB _ _ _ _).mono ?_; rintro e w' ⟨rfl, ew⟩; replace ew := ew.symm; subst ew; rw [hdy])
                go_roundw
                case rel => exact ⟨m + 1, _, _, by omega, by go_num, rfl, rfl, HN, HL, Y0.out, Y3.out, YB.out, HBj.out⟩
                case measure => simp [intOf]; omega
              have r2 : (cu == -1) = false := by simpa using q2
              have s2 : decide (cu = -1) = false := by simpa using q2
              by_cases p2 : cu = ((es k).ls m).cur
              · have t2 : (cu == ((es k).ls m).cur) = true := by simpa using p2
                have HN : Hid (balL ac dm cu (ylP f t es k (m + 1)) = (A + ((es k).ls m).amt, B + ((es k).ls m).base)) := by show _ = _; rw [HS.out, balL_snoc_hit (hit_yes (.inr p0) (.inl q1) (.inr p2)), HAB.out]
                clear HS HAB p0 q0 q1 p2 q2
                go_wp2_with (go_at_call 82; refine (l1InB _ _ _ _).mono ?_; rintro e w' ⟨rfl, ew⟩; replace ew := ew.symm; subst ew; rw [hdy])
                go_roundw
                case rel => exact ⟨m + 1, _, _, by omega, by go_num, rfl, rfl, HN, HL, Y0.out, Y3.out, YB.out, HBj.out⟩
                case measure => simp [intOf]; omega
              have t2 : (cu == ((es k).ls m).cur) = false := by simpa using p2
              have HN : Hid (balL ac dm cu (ylP f t es k (m + 1)) = (A, B)) := by show _ = _; rw [HS.out, balL_snoc_not (hit_no (.inr (.inr (fun z => z.elim q2 p2)))), HAB.out]
              clear HS HAB p0 q0 q1 p2 q2
              go_wp2_with (go_at_call 82; refine (l1InB _ _ _ _).mono ?_; rintro e w' ⟨rfl, ew⟩; replace ew := ew.symm; subst ew; rw [hdy])
              go_roundw
              case rel => exact ⟨m + 1, A, B, by omega, by go_num, rfl, rfl, HN, HL, Y0.out, Y3.out, YB.out, HBj.out⟩
              case measure => simp [intOf]; omega
            have r1 : (dm == -1) = false := by simpa using q1
            have s1 : decide (dm = -1) = false := by simpa using q1
            by_cases p1 : dm = ((es k).ls m).dim
            · have t1 : (dm == ((es k).ls m).dim) = true := by simpa using p1
              by_cases q2 : cu = -1
              · have r2 : (cu == -1) = true := by simpa using q2
                have s2 : decide (cu = -1) = true := by simpa using q2
                have HN : Hid (balL ac dm cu (ylP f t es k (m + 1)) = (A + ((es k).ls m).amt, B + ((es k).ls m).base)) := by show _ = _; rw [HS.out, balL_snoc_hit (hit_yes (.inr p0) (.inr p1) (.inl q2)), HAB.out]
                clear HS HAB p0 q0 p1 q1 q2
                go_wp2_with (go_at_call 82; refine (l1InB _ _ _ _).mono ?_; rintro e w' ⟨rfl, ew⟩; replace ew := ew.symm; subst ew; rw [hdy])
                go_roundw
                case rel => exact ⟨m + 1, _, _, by omega, by go_num, rfl, rfl, HN, HL, Y0.out, Y3.out, YB.out, HBj.out⟩
                case measure => simp [intOf]; omega
              have r2 : (cu == -1) = false := by simpa using q2
              have s2 : decide (cu = -1) = false := by simpa using q2
              by_cases p2 : cu = ((es k).ls m).cur
              · have t2 : (cu == ((es k).ls m).cur) = true := by simpa using p2
                have HN : Hid (balL ac dm cu (ylP f t es k (m + 1)) = (A + ((es k).ls m).amt, B + ((es k).ls m).base)) := by show _ = _; rw [HS.out, balL_snoc_hit (hit_yes (.inr p0) (.inr p1) (.inr p2)), HAB.out]
                clear HS HAB p0 q0 p1 q1 p2 q2
                go_wp2_with (go_at_call 82; refine (l1InB _ _ _ _).mono ?_; rintro e w' ⟨rfl, ew⟩; replace ew := ew.symm; subst ew; rw [hdy])
                go_roundw
                case rel => exact ⟨m + 1, _, _, by omega, by go_num, rfl, rfl, HN, HL, Y0.out, Y3.out, YB.out, HBj.out⟩
                case measure => simp [intOf]; omega
              have t2 : (cu == ((es k).ls m).cur) = false := by simpa using p2
              have HN : Hid (balL ac dm cu (ylP f t es k (m + 1)) = (A, B)) := by show _ = _; rw [HS.out, balL_snoc_not (hit_no (.inr (.inr (fun z => z.elim q2 p2)))), HAB.out]
              clear HS HAB p0 q0 p1 q1 p2 q2
              go_wp2_with (go_at_call 82; refine (l1InB _ _ _ _).mono ?_; rintro e w' ⟨rfl, ew⟩; replace ew := ew.symm; subst ew; rw [hdy])
              go_roundw
              case rel => exact ⟨m + 1, A, B, by omega, by go_num, rfl, rfl, HN, HL, Y0.out, Y3.out, YB.out, HBj.out⟩
              case measure => simp [intOf]; omega
            have t1 : (dm == ((es k).ls m).dim) = false := by simpa using p1
            have HN : Hid (balL ac dm cu (ylP f t es k (m + 1)) = (A, B)) := by show _ = _; rw [HS.out, balL_snoc_not (hit_no (.inr (.inl (fun z => z.elim q1 p1)))), HAB.out]
            clear HS HAB p0 q0 p1 q1
            go_wp2_with (go_at_call 82; refine (l1InB _ _ _ _).mono ?_; rintro e w' ⟨rfl, ew⟩; replace ew := ew.symm; subst ew; rw [hdy])
            go_roundw
            case rel => exact ⟨m + 1, A, B, by omega, by go_num, rfl, rfl, HN, HL, Y0.out, Y3.out, YB.out, HBj.out⟩
            case measure => simp [intOf]; omega
          have t0 : (ac == ((es k).ls m).acc) = false := by simpa using p0
          have HN : Hid (balL ac dm cu (ylP f t es k (m + 1)) = (A, B)) := by show _ = _; rw [HS.out, balL_snoc_not (hit_no (.inl (fun z => z.elim q0 p0))), HAB.out]
          clear HS HAB  p0 q0
          go_wp2_with (go_at_call 82; refine (l1InB _ _ _ _).mono ?_; rintro e w' ⟨rfl, ew⟩; replace ew := ew.symm; subst ew; rw [hdy])
          go_roundw
          case rel => exact ⟨m + 1, A, B, by omega, by go_num, rfl, rfl, HN, HL, Y0.out, Y3.out, YB.out, HBj.out⟩
          case measure => simp [intOf]; omega
        · obtain rfl : m = (es k).n := by omega
          have HN : Hid (balL ac dm cu (ylS f t es (k + 1)) = (A, B)) := HAB.out
          clear hBi
          go_wp2
          go_roundw
          case rel => exact ⟨k + 1, A, B, by omega, by go_num, rfl, rfl, HN, fun i hi => by
            by_cases hik : i = k
            · rw [hik]; exact ⟨by omega, HM.out⟩
            · exact HA.out i (by omega), yb, bel_on HB.out HBi.out⟩
          case measure => simp [intOf]; omega
    · obtain rfl : k = n := by omega
      have HF : Hid (balV ac dm cu f t k es = (A, B)) := by show _ = _; rw [balV_t (smB_t ⟨by omega, HA.out⟩)]; exact HAB.out
      clear hB HAB
      go_wp2
      go_returns
      exact ⟨ret_two HF.out, HB.out⟩

end Go.Proofs.YtgnhpjlfdkpaiaaDoor

