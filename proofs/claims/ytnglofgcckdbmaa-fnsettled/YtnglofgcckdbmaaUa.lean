/- Settling, plain: the oldest that has something left, what each step leaves, and why a row sorted by day and place is gone through in that order. Nothing of the program but what an open item is. -/
import Derived.Test.YtnglofgcckdbmaaOb
namespace Go.Proofs.Ytnglofgcckdbmaa
open Go Go.ChangeShapes Go.WideShapes Go.ChangeAt Go.RowKit
set_option linter.unusedVariables false
set_option linter.unusedSimpArgs false

theorem no_inj : ∀ (n : Nat) (p : Nat → Nat), (∀ i, i ≤ n → p i < n) → ¬ ∀ i j, i ≤ n → j ≤ n → p i = p j → i = j
  | 0, p, h, _ => by have := h 0 (Nat.le_refl _); omega
  | n + 1, p, h, hi => by
    have hv := h (n + 1) (Nat.le_refl _)
    have hne : ∀ i, i ≤ n → p i ≠ p (n + 1) := fun i hin e => by have := hi i (n + 1) (by omega) (Nat.le_refl _) e; omega
    refine no_inj n (fun i => if p i < p (n + 1) then p i else p i - 1) (fun i hin => ?_) (fun i j h1 h2 e => ?_)
    · have := h i (by omega); have := hne i hin
      split <;> omega
    · have a1 := hne i h1; have a2 := hne j h2
      have : p i = p j := by
        skip
        split at e <;> split at e <;> omega
      exact hi i j (by omega) (by omega) this
theorem inj_onto (n : Nat) (p : Nat → Nat) (h : ∀ i, i < n → p i < n) (hi : ∀ i j, i < n → j < n → p i = p j → i = j) (q : Nat) (hq : q < n) : ∃ i, i < n ∧ p i = q := by
  apply Classical.byContradiction
  intro hno
  have hne : ∀ i, i < n → p i ≠ q := fun i hin e => hno ⟨i, hin, e⟩
  refine no_inj (n - 1) (fun i => if p i < q then p i else p i - 1) (fun i hin => ?_) (fun i j h1 h2 e => ?_)
  · have := h i (by omega); have := hne i (by omega)
    split <;> omega
  · have a1 := hne i (by omega); have a2 := hne j (by omega)
    have : p i = p j := by
      skip
      split at e <;> split at e <;> omega
    exact hi i j (by omega) (by omega) this

/-- The place of the oldest of the first k that has something left; -1: none has. -/
def nx (c : Nat → OI2) (a : Nat → Int) : Nat → Int
  | 0 => -1
  | k + 1 => if 0 < a k ∧ (nx c a k < 0 ∨ (c k).day < (c (nx c a k).toNat).day) then (k : Int) else nx c a k
theorem nx_spec (c : Nat → OI2) (a : Nat → Int) : ∀ k, (nx c a k = -1 ∧ ∀ q, q < k → a q ≤ 0) ∨ ∃ p : Nat, nx c a k = (p : Int) ∧ p < k ∧ 0 < a p ∧ ∀ q, q < k → 0 < a q → q = p ∨ (c p).day < (c q).day ∨ ((c p).day = (c q).day ∧ p < q)
  | 0 => .inl ⟨rfl, fun q h => by omega⟩
  | k + 1 => by
    by_cases h : 0 < a k ∧ (nx c a k < 0 ∨ (c k).day < (c (nx c a k).toNat).day)
    · have e : nx c a (k + 1) = (k : Int) := if_pos h
      refine .inr ⟨k, e, by omega, h.1, fun q h1 h2 => ?_⟩
      by_cases hq : q = k
      · exact .inl hq
      · right
        rcases nx_spec c a k with ⟨g1, g2⟩ | ⟨p, g1, g2, g3, g4⟩
        · have := g2 q (by omega); omega
        · have h' := h.2
          rw [g1] at h'
          have h'' : (c k).day < (c p).day := by
            rcases h' with h' | h'
            · omega
            · simpa using h'
          rcases g4 q (by omega) h2 with r | r | r
          · subst r; exact .inl h''
          · left; omega
          · left; omega
    · have e : nx c a (k + 1) = nx c a k := if_neg h
      rw [e]
      rcases nx_spec c a k with ⟨g1, g2⟩ | ⟨p, g1, g2, g3, g4⟩
      · refine .inl ⟨g1, fun q hq => ?_⟩
        by_cases q1 : q = k
        · subst q1
          apply Int.not_lt.1
          intro h0
          exact h ⟨h0, .inl (by omega)⟩
        · exact g2 q (by omega)
      · refine .inr ⟨p, g1, by omega, g3, fun q hq h0 => ?_⟩
        by_cases q1 : q = k
        · subst q1
          have h' : ¬ (c q).day < (c p).day := fun hh => h ⟨h0, .inr (by rw [g1]; simpa using hh)⟩
          by_cases hd : (c p).day < (c q).day
          · exact .inr (.inl hd)
          · exact .inr (.inr ⟨by omega, g2⟩)
        · exact g4 q (by omega) h0
theorem nx_is {c : Nat → OI2} {a : Nat → Int} {n p : Nat} (hp : p < n) (h0 : 0 < a p) (h : ∀ q, q < n → 0 < a q → q = p ∨ (c p).day < (c q).day ∨ ((c p).day = (c q).day ∧ p < q)) : nx c a n = (p : Int) := by
  rcases nx_spec c a n with ⟨g1, g2⟩ | ⟨r, g1, g2, g3, g4⟩
  · have := g2 p hp; omega
  · rw [g1]
    rcases h r g2 g3 with q | q | q <;> rcases g4 p hp h0 with s | s | s <;> omega
theorem nx_none {c : Nat → OI2} {a : Nat → Int} {n : Nat} (h : ∀ q, q < n → a q ≤ 0) : nx c a n = -1 := by
  rcases nx_spec c a n with ⟨g1, _⟩ | ⟨r, g1, g2, g3, g4⟩
  · exact g1
  · have := h r g2; omega

def upd (a : Nat → Int) (i : Nat) (v : Int) (q : Nat) : Int := if q = i then v else a q
theorem upd_i {a : Nat → Int} {i : Nat} {v : Int} : upd a i v i = v := if_pos rfl
theorem upd_o {a : Nat → Int} {i q : Nat} {v : Int} (h : q ≠ i) : upd a i v q = a q := if_neg h
/-- How many of the first n have something left. -/
def pc (a : Nat → Int) : Nat → Nat
  | 0 => 0
  | k + 1 => pc a k + if 0 < a k then 1 else 0
theorem pc_le (a : Nat → Int) : ∀ n, pc a n ≤ n
  | 0 => Nat.le_refl _
  | n + 1 => by have := pc_le a n; unfold pc; split <;> omega
theorem pc_one {a : Nat → Int} : ∀ {n p}, p < n → 0 < a p → 1 ≤ pc a n
  | 0, p, h, _ => by omega
  | n + 1, p, h, h0 => by
    unfold pc
    by_cases q : p = n
    · subst q; rw [if_pos h0]; omega
    · have := pc_one (a := a) (n := n) (p := p) (by omega) h0; omega
theorem pc_upd {a : Nat → Int} {i : Nat} {v : Int} (hv : 0 < v → 0 < a i) : ∀ n, pc (upd a i v) n ≤ pc a n
  | 0 => Nat.le_refl _
  | n + 1 => by
    have := pc_upd (a := a) hv n
    unfold pc
    by_cases q : n = i
    · subst q; rw [upd_i]; split <;> split <;> omega
    · rw [upd_o q]; omega
theorem pc_less {a : Nat → Int} {i : Nat} {v : Int} (h0 : 0 < a i) (hv : v ≤ 0) : ∀ n, i < n → pc (upd a i v) n + 1 ≤ pc a n
  | 0, h => by omega
  | n + 1, h => by
    unfold pc
    by_cases q : n = i
    · subst q; rw [upd_i, if_neg (by omega), if_pos h0]; have := pc_upd (a := a) (i := n) (v := v) (fun g => by omega) n; omega
    · rw [upd_o q]; have := pc_less h0 hv n (by omega); omega

section
variable (c d : Nat → OI2) (n m : Nat)
def mnV (x y : Int) : Int := if y < x then y else x
/-- What is left of both sides behind k steps. -/
def sq : Nat → (Nat → Int) × (Nat → Int)
  | 0 => (fun q => (c q).amount, fun q => (d q).amount)
  | k + 1 =>
    let i := (nx c (sq k).1 n).toNat
    let j := (nx d (sq k).2 m).toNat
    let x := mnV ((sq k).1 i) ((sq k).2 j)
    (upd (sq k).1 i ((sq k).1 i - x), upd (sq k).2 j ((sq k).2 j - x))
def iF (k : Nat) : Nat := (nx c (sq c d n m k).1 n).toNat
def jF (k : Nat) : Nat := (nx d (sq c d n m k).2 m).toNat
def xF (k : Nat) : Int := mnV ((sq c d n m k).1 (iF c d n m k)) ((sq c d n m k).2 (jF c d n m k))
def stop (k : Nat) : Prop := nx c (sq c d n m k).1 n < 0 ∨ nx d (sq c d n m k).2 m < 0
theorem sq_1 (k : Nat) : (sq c d n m (k + 1)).1 = upd (sq c d n m k).1 (iF c d n m k) ((sq c d n m k).1 (iF c d n m k) - xF c d n m k) := rfl
theorem sq_2 (k : Nat) : (sq c d n m (k + 1)).2 = upd (sq c d n m k).2 (jF c d n m k) ((sq c d n m k).2 (jF c d n m k) - xF c d n m k) := rfl
/-- No step of the first k is the last. -/
def runs (k : Nat) : Prop := ∀ j, j < k → ¬ stop c d n m j
theorem go_at {k : Nat} (h : ¬ stop c d n m k) : (nx c (sq c d n m k).1 n = (iF c d n m k : Int) ∧ iF c d n m k < n ∧ 0 < (sq c d n m k).1 (iF c d n m k)) ∧ (nx d (sq c d n m k).2 m = (jF c d n m k : Int) ∧ jF c d n m k < m ∧ 0 < (sq c d n m k).2 (jF c d n m k)) := by
  have hn := not_or.1 h
  refine ⟨?_, ?_⟩
  · rcases nx_spec c (sq c d n m k).1 n with ⟨g1, _⟩ | ⟨p, g1, g2, g3, _⟩
    · exact absurd (by rw [g1]; omega) hn.1
    · have e : iF c d n m k = p := by unfold iF; rw [g1]; rfl
      rw [e]; exact ⟨g1, g2, g3⟩
  · rcases nx_spec d (sq c d n m k).2 m with ⟨g1, _⟩ | ⟨p, g1, g2, g3, _⟩
    · exact absurd (by rw [g1]; omega) hn.2
    · have e : jF c d n m k = p := by unfold jF; rw [g1]; rfl
      rw [e]; exact ⟨g1, g2, g3⟩
theorem mnV_le (x y : Int) : mnV x y ≤ x ∧ mnV x y ≤ y ∧ (mnV x y = x ∨ mnV x y = y) := by unfold mnV; split <;> omega
theorem mnV_pos {x y : Int} (h1 : 0 < x) (h2 : 0 < y) : 0 < mnV x y := by unfold mnV; split <;> omega
theorem runs_cnt : ∀ k, runs c d n m k → k + pc (sq c d n m k).1 n + pc (sq c d n m k).2 m ≤ n + m
  | 0, _ => by have := pc_le (sq c d n m 0).1 n; have := pc_le (sq c d n m 0).2 m; omega
  | k + 1, h => by
    have ih := runs_cnt k (fun j hj => h j (by omega))
    obtain ⟨⟨a1, a2, a3⟩, ⟨b1, b2, b3⟩⟩ := go_at c d n m (h k (by omega))
    obtain ⟨e1, e2, e3⟩ := mnV_le ((sq c d n m k).1 (iF c d n m k)) ((sq c d n m k).2 (jF c d n m k))
    rw [sq_1, sq_2]
    unfold xF
    rcases e3 with e3 | e3
    · have p1 := pc_less (v := (sq c d n m k).1 (iF c d n m k) - mnV ((sq c d n m k).1 (iF c d n m k)) ((sq c d n m k).2 (jF c d n m k))) a3 (by omega) n a2
      have p2 := pc_upd (a := (sq c d n m k).2) (i := jF c d n m k) (v := (sq c d n m k).2 (jF c d n m k) - mnV ((sq c d n m k).1 (iF c d n m k)) ((sq c d n m k).2 (jF c d n m k))) (fun _ => b3) m
      omega
    · have p1 := pc_upd (a := (sq c d n m k).1) (i := iF c d n m k) (v := (sq c d n m k).1 (iF c d n m k) - mnV ((sq c d n m k).1 (iF c d n m k)) ((sq c d n m k).2 (jF c d n m k))) (fun _ => a3) n
      have p2 := pc_less (v := (sq c d n m k).2 (jF c d n m k) - mnV ((sq c d n m k).1 (iF c d n m k)) ((sq c d n m k).2 (jF c d n m k))) b3 (by omega) m b2
      omega
theorem runs_lt {k : Nat} (h : runs c d n m k) (hs : ¬ stop c d n m k) : k < n + m := by
  have := runs_cnt c d n m k h
  obtain ⟨⟨a1, a2, a3⟩, _⟩ := go_at c d n m hs
  have := pc_one a2 a3
  omega
theorem runs_le {k : Nat} (h : runs c d n m k) : k ≤ n + m := by have := runs_cnt c d n m k h; omega
theorem runs_next {k : Nat} (h : runs c d n m k) (hs : ¬ stop c d n m k) : runs c d n m (k + 1) := fun j hj => by
  by_cases e : j = k
  · subst e; exact hs
  · exact h j (by omega)
/-- All that is left is an amount, not below 0. -/
theorem sq_bd (hc : ∀ q, q < n → 0 ≤ (c q).amount ∧ (c q).amount ≤ 100000000000) (hd : ∀ q, q < m → 0 ≤ (d q).amount ∧ (d q).amount ≤ 100000000000) : ∀ k, runs c d n m k → (∀ q, q < n → 0 ≤ (sq c d n m k).1 q ∧ (sq c d n m k).1 q ≤ 100000000000) ∧ (∀ q, q < m → 0 ≤ (sq c d n m k).2 q ∧ (sq c d n m k).2 q ≤ 100000000000)
  | 0, _ => ⟨hc, hd⟩
  | k + 1, h => by
    obtain ⟨i1, i2⟩ := sq_bd hc hd k (fun j hj => h j (by omega))
    obtain ⟨⟨a1, a2, a3⟩, ⟨b1, b2, b3⟩⟩ := go_at c d n m (h k (by omega))
    obtain ⟨e1, e2, e3⟩ := mnV_le ((sq c d n m k).1 (iF c d n m k)) ((sq c d n m k).2 (jF c d n m k))
    have e4 := mnV_pos a3 b3
    have u1 := i1 _ a2
    have u2 := i2 _ b2
    rw [sq_1, sq_2]
    unfold xF
    refine ⟨fun q hq => ?_, fun q hq => ?_⟩
    · unfold upd; split
      · omega
      · exact i1 q hq
    · unfold upd; split
      · omega
      · exact i2 q hq
def isM (M : Nat) : Prop := runs c d n m M ∧ stop c d n m M
theorem isM_one {M M' : Nat} (h : isM c d n m M) (h' : isM c d n m M') : M = M' := by
  rcases Nat.lt_trichotomy M M' with q | q | q
  · exact absurd h.2 (h'.1 M q)
  · exact q
  · exact absurd h'.2 (h.1 M' q)
open Classical in
noncomputable def seM : Nat := if opB n c = true ∧ opB m d = true then (if h : ∃ M, isM c d n m M then Classical.choose h else 0) else 0
theorem seM_is {M : Nat} (ho : opB n c = true ∧ opB m d = true) (h : isM c d n m M) : seM c d n m = M := by
  have hx : ∃ M, isM c d n m M := ⟨M, h⟩
  unfold seM
  rw [if_pos ho, dif_pos hx]
  exact isM_one c d n m (Classical.choose_spec hx) h
theorem seM_no (ho : ¬ (opB n c = true ∧ opB m d = true)) : seM c d n m = 0 := if_neg ho
end

end Go.Proofs.Ytnglofgcckdbmaa
