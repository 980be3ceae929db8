/- The stable sort and Shares, part of it. -/
import Derived.WalkKit
import Derived.Test.YtdgccdlaokbnhaaZAB
import Derived.Maps.AppendAt
namespace Go.Proofs.Ytdgccdlaokbnhaa.Sh
set_option linter.unusedVariables false

def cr (p q : Int) : Int := if p < 0 then (-p) % q else p % q

def fur (d r q : Int) (neg : Bool) (m : Int) : Bool :=
  if m = 1 then false else if m = 2 then decide (0 < r) else if m = 3 then decide (q ≤ 2 * r)
  else if m = 4 then (if 2 * r = q then decide (¬ d.tmod 2 = 0) else decide (q ≤ 2 * r))
  else if m = 5 then (neg && decide (0 < r)) else (!neg && decide (0 < r))

def rnd (d r q : Int) (neg : Bool) (m : Int) : Int := if fur d r q neg m = true then (if neg = true then d - 1 else d + 1) else d

def dv (p q m : Int) : Int := rnd (p.tdiv q) (cr p q) q (decide (p < 0)) m

theorem dv_pos (p q : Int) (h : 0 ≤ p) (hq : 1 ≤ q) : p.tdiv q = p / q ∧ cr p q = p % q := by
  refine ⟨Int.tdiv_eq_ediv_of_nonneg h, ?_⟩
  unfold cr; rw [if_neg (by omega)]

theorem dv_neg (p q : Int) (h : p < 0) (hq : 1 ≤ q) : p.tdiv q = -((-p) / q) ∧ p.tmod q = -((-p) % q) ∧ cr p q = (-p) % q := by
  refine ⟨?_, ?_, ?_⟩
  · have := Int.neg_tdiv (-p) q
    rw [Int.neg_neg] at this
    rw [this, Int.tdiv_eq_ediv_of_nonneg (by omega)]
  · have := Int.neg_tmod (-p) q
    rw [Int.neg_neg] at this
    rw [this, Int.tmod_eq_emod_of_nonneg (by omega)]
  · unfold cr; rw [if_pos h]

theorem ediv_bd (p q : Int) (h : 0 ≤ p) (hq : 1 ≤ q) : 0 ≤ p / q ∧ p / q ≤ p ∧ 0 ≤ p % q ∧ p % q < q ∧ (p / q) * q + p % q = p := by
  refine ⟨Int.ediv_nonneg h (by omega), Int.ediv_le_self _ h, Int.emod_nonneg _ (by omega), Int.emod_lt_of_pos _ (by omega), ?_⟩
  have := Int.mul_ediv_add_emod p q
  rw [Int.mul_comm] at this; exact this

/-- What is known of the whole and the rest, whatever the sign. -/
theorem cut_facts (p q : Int) (hq : 1 ≤ q) : 0 ≤ cr p q ∧ cr p q < q ∧
    (0 ≤ p → 0 ≤ p.tdiv q ∧ p.tdiv q ≤ p ∧ p / q = p.tdiv q ∧ p % q = cr p q ∧ (p.tdiv q) * q + cr p q = p) ∧
    (p < 0 → p ≤ p.tdiv q ∧ p.tdiv q ≤ 0 ∧ p.tmod q = - cr p q ∧ (p.tdiv q) * q - cr p q = p) := by
  by_cases h : p < 0
  · obtain ⟨a, b, c⟩ := dv_neg p q h hq
    obtain ⟨e1, e2, e3, e4, e5⟩ := ediv_bd (-p) q (by omega) hq
    rw [a, b, c]
    refine ⟨e3, e4, fun g => by omega, fun _ => ⟨by omega, by omega, rfl, ?_⟩⟩
    rw [Int.neg_mul]; omega
  · obtain ⟨a, c⟩ := dv_pos p q (by omega) hq
    obtain ⟨e1, e2, e3, e4, e5⟩ := ediv_bd p q (by omega) hq
    rw [a, c]
    exact ⟨e3, e4, fun _ => ⟨e1, e2, rfl, rfl, e5⟩, fun g => by omega⟩

theorem rnd_near (d r q : Int) (neg : Bool) (m : Int) : d - 1 ≤ rnd d r q neg m ∧ rnd d r q neg m ≤ d + 1 := by
  unfold rnd; cases neg <;> split <;> (try simp) <;> omega

theorem rnd4_lt (d r q : Int) (neg : Bool) (h : 2 * r < q) : rnd d r q neg 4 = d := by
  have h1 : ¬ 2 * r = q := by omega
  have h2 : ¬ q ≤ 2 * r := by omega
  simp [rnd, fur, h1, h2]

theorem rnd4_gt (d r q : Int) (neg : Bool) (h : q < 2 * r) : rnd d r q neg 4 = if neg = true then d - 1 else d + 1 := by
  have h1 : ¬ 2 * r = q := by omega
  have h2 : q ≤ 2 * r := by omega
  simp [rnd, fur, h1, h2]

/-- What the mode says of the outcome: it is the whole or one further from 0. -/
theorem mul_bd (a n A N : Int) (h0 : -A ≤ a) (h1 : a ≤ A) (h2 : 0 ≤ n) (h3 : n ≤ N) (hA : 0 ≤ A) : -(A * N) ≤ a * n ∧ a * n ≤ A * N := by
  have e1 : a * n ≤ A * n := Int.mul_le_mul_of_nonneg_right h1 h2
  have e2 : A * n ≤ A * N := Int.mul_le_mul_of_nonneg_left h3 hA
  have e3 : (-A) * n ≤ a * n := Int.mul_le_mul_of_nonneg_right h0 h2
  rw [Int.neg_mul] at e3
  omega

def MdOk (a num den m : Int) : Prop := -100000000000 ≤ a ∧ a ≤ 100000000000 ∧ 0 ≤ num ∧ num ≤ 10000000 ∧ 1 ≤ den ∧ den ≤ 10000000 ∧ 1 ≤ m ∧ m ≤ 6

def mdB (a num den m : Int) : Bool := decide (-100000000000 ≤ a ∧ a ≤ 100000000000 ∧ 0 ≤ num ∧ num ≤ 10000000 ∧ 1 ≤ den ∧ den ≤ 10000000 ∧ 1 ≤ m ∧ m ≤ 6) &&
  decide (-100000000000 ≤ dv (a * num) den m ∧ dv (a * num) den m ≤ 100000000000)

/-- What MulDiv answers: the number and whether there is one. -/
def mdV (a num den m : Int) : Int := if mdB a num den m = true then dv (a * num) den m else 0

theorem md_bad {a num den m : Int} (h : ¬ MdOk a num den m) : mdB a num den m = false ∧ mdV a num den m = 0 := by
  have : mdB a num den m = false := by unfold MdOk at h; unfold mdB; rw [decide_eq_false h]; rfl
  exact ⟨this, by unfold mdV; rw [this]; rfl⟩

theorem md_out {a num den m : Int} (h : ¬ (-100000000000 ≤ dv (a * num) den m ∧ dv (a * num) den m ≤ 100000000000)) : mdB a num den m = false ∧ mdV a num den m = 0 := by
  have : mdB a num den m = false := by unfold mdB; rw [decide_eq_false h]; simp
  exact ⟨this, by unfold mdV; rw [this]; rfl⟩

theorem md_in {a num den m : Int} (h : MdOk a num den m) (h1 : -100000000000 ≤ dv (a * num) den m) (h2 : dv (a * num) den m ≤ 100000000000) : mdB a num den m = true ∧ mdV a num den m = dv (a * num) den m := by
  have : mdB a num den m = true := by unfold mdB; rw [decide_eq_true (show (-100000000000 ≤ dv (a * num) den m ∧ dv (a * num) den m ≤ 100000000000) from ⟨h1, h2⟩)]; unfold MdOk at h; rw [decide_eq_true h]; rfl
  exact ⟨this, by unfold mdV; rw [this]; rfl⟩

theorem md_prod {a num den m : Int} (h : MdOk a num den m) : -1000000000000000000 ≤ a * num ∧ a * num ≤ 1000000000000000000 := by
  unfold MdOk at h
  have := mul_bd a num 100000000000 10000000 (by omega) (by omega) (by omega) (by omega) (by omega)
  omega

theorem dv_bd {p q m : Int} (h0 : -1000000000000000000 ≤ p) (h1 : p ≤ 1000000000000000000) (hq : 1 ≤ q) : -1000000000000000001 ≤ dv p q m ∧ dv p q m ≤ 1000000000000000001 := by
  obtain ⟨c0, c1, cp, cn⟩ := cut_facts p q hq
  have := rnd_near (p.tdiv q) (cr p q) q (decide (p < 0)) m
  unfold dv
  by_cases h : p < 0
  · have := cn h; omega
  · have := cp (by omega); omega

end Go.Proofs.Ytdgccdlaokbnhaa.Sh

namespace Go.Proofs.Ytdgccdlaokbnhaa.Sh
open Go.RowKit
set_option linter.unusedVariables false

/-- Block b holds n whole numbers. -/
def IB (w : World) (b n : Nat) (t : TypeId) (o : Nat → Int) : Prop := ∃ cs, CB w b cs t ∧ cs.size = n ∧ ∀ j, j < n → cs[j]? = some (.int .i64 (o j))
def upd (f : Nat → Int) (i : Nat) (v : Int) (j : Nat) : Int := if j = i then v else f j
theorem upd_eq (f : Nat → Int) (i : Nat) (v : Int) : upd f i v i = v := if_pos rfl
theorem upd_ne {f : Nat → Int} {i j : Nat} {v : Int} (h : j ≠ i) : upd f i v j = f j := if_neg h
section
variable {w w' : World} {b n : Nat} {t : TypeId} {o o' : Nat → Int}
theorem IB.lt (H : IB w b n t o) : b < w.heap.size := by obtain ⟨cs, h, _⟩ := H; exact h.lt
theorem IB.cell (H : IB w b n t o) {j : Nat} (h : j < n) : w.cell? ⟨b, j, none⟩ = some (.int .i64 (o j)) := by
  obtain ⟨cs, h1, h2, h3⟩ := H
  rw [h1.cell]; exact h3 j h
theorem IB.fr (H : IB w b n t o) (j : Nat) : w.frozen? ⟨b, j, none⟩ = false := by obtain ⟨cs, h, _⟩ := H; exact h.fr j
theorem IB.below {B : Nat} (H : IB w b n t o) (k : Below B w w') (h : b < B) : IB w' b n t o := by obtain ⟨cs, h1, h2⟩ := H; exact ⟨cs, h1.below k h, h2⟩
theorem IB.on (H : IB w b n t o) (k : Below w.heap.size w w') : IB w' b n t o := H.below k H.lt
theorem IB.alloc (H : IB w b n t o) (x : Obj) : IB (w.alloc x) b n t o := by obtain ⟨cs, h1, h2⟩ := H; exact ⟨cs, h1.alloc x, h2⟩
theorem IB.other (H : IB w b n t o) {c i : Nat} (u : Value) (h : b ≠ c) : IB (w.setCell ⟨c, i, none⟩ u) b n t o := by obtain ⟨cs, h1, h2⟩ := H; exact ⟨cs, h1.other u h, h2⟩
theorem IB.congr (H : IB w b n t o) (h : ∀ j, j < n → o' j = o j) : IB w b n t o' := by
  obtain ⟨cs, h1, h2, h3⟩ := H; exact ⟨cs, h1, h2, fun j hj => by rw [h j hj]; exact h3 j hj⟩
theorem IB.set (H : IB w b n t o) {i : Nat} (hi : i < n) (x : Int) : IB (w.setCell ⟨b, i, none⟩ (.int .i64 x)) b n t (upd o i x) := by
  obtain ⟨cs, h1, h2, h3⟩ := H
  refine ⟨_, h1.set _ _, by simp [h2], fun j hj => ?_⟩
  by_cases e : j = i
  · subst e; rw [upd_eq, get_set_eq (by omega)]
  · rw [upd_ne e, get_set_ne (by omega)]; exact h3 j hj
theorem IB.ir (H : IB w b n t o) : IR w (some ⟨b, 0, none⟩) n o := by obtain ⟨cs, h1, h2, h3⟩ := H; exact IR.of_block h1 n o h3
end
def intL (o : Nat → Int) (m : Nat) : List Value := (List.range m).map (fun j => .int .i64 (o j))
theorem intL_get {o : Nat → Int} {m j : Nat} (h : j < m) : (intL o m)[j]? = some (.int .i64 (o j)) := by simp [intL, h]
theorem intL_succ (o : Nat → Int) (m : Nat) : intL o (m + 1) = intL o m ++ [.int .i64 (o m)] := by simp [intL, List.range_succ]
theorem intL_zero (o : Nat → Int) : intL o 0 = [] := rfl
theorem intL_congr {o o' : Nat → Int} {m : Nat} (h : ∀ j, j < m → o j = o' j) : intL o m = intL o' m := by
  unfold intL; exact List.map_congr_left (fun j hj => by rw [h j (List.mem_range.1 hj)])
theorem intL_len (o : Nat → Int) (m : Nat) : (intL o m).length = m := by simp [intL]
theorem IB.own {w : World} {b n base : Nat} {o : Nat → Int} (H : IB w b n 3 o) (hb : base ≤ b) (hn : n ≤ 1048576) : w.ownsRow base 3 1 (.slice (some ⟨b, 0, none⟩) n n) n (intL o n) := by
  obtain ⟨cs, h1, h2, h3⟩ := H
  have e : cs.toList = intL o n := by
    apply List.ext_getElem?
    intro j
    by_cases hj : j < n
    · rw [intL_get hj, ← h3 j hj]; simp
    · rw [List.getElem?_eq_none (by simp; omega), List.getElem?_eq_none (by rw [intL_len]; omega)]
  rw [← e]; exact row_of_block h1 h2 hb hn

theorem sm_lin (a r : Nat → Int) (S : Int) : ∀ n, sm (fun j => a j * S + r j) n = sm a n * S + sm r n
  | 0 => by simp [sm]
  | n + 1 => by rw [sm_succ, sm_succ, sm_succ, sm_lin a r S n, Int.add_mul]; omega
theorem sm_mul (a : Nat → Int) (S : Int) : ∀ n, sm (fun j => S * a j) n = S * sm a n
  | 0 => by simp [sm]
  | n + 1 => by rw [sm_succ, sm_succ, sm_mul a S n, Int.mul_add]
theorem sm_neg (a : Nat → Int) : ∀ n, sm (fun j => -a j) n = -sm a n
  | 0 => by simp [sm]
  | n + 1 => by rw [sm_succ, sm_succ, sm_neg a n]; omega
theorem sm_le {a : Nat → Int} {M : Int} : ∀ {n : Nat}, (∀ j, j < n → 0 ≤ a j ∧ a j ≤ M) → 0 ≤ sm a n ∧ sm a n ≤ (n : Int) * M
  | 0, _ => by simp [sm]
  | n + 1, h => by
    have h1 := sm_le (n := n) (fun j hj => h j (by omega))
    have h2 := h n (by omega)
    rw [sm_succ, show ((n + 1 : Nat) : Int) * M = (n : Int) * M + M by rw [show ((n + 1 : Nat) : Int) = (n : Int) + 1 by omega, Int.add_mul, Int.one_mul]]
    omega
theorem sm_upd {a : Nat → Int} {i : Nat} {v : Int} : ∀ {n : Nat}, i < n → sm (upd a i v) n = sm a n + v - a i
  | 0, h => by omega
  | n + 1, h => by
    rw [sm_succ, sm_succ]
    by_cases e : i = n
    · subst e
      rw [upd_eq, sm_congr (y := upd a i v) (z := a) (fun j hj => upd_ne (by omega))]; omega
    · rw [sm_upd (n := n) (by omega), upd_ne (by omega)]; omega

def ShOk (T : Int) (N : Nat) (z : Nat → Int) : Prop := (-100000000000 ≤ T ∧ T ≤ 100000000000) ∧ N ≤ 200 ∧ (∀ j, j < N → 0 ≤ z j ∧ z j ≤ 10000000) ∧ 0 < sm z N
open Classical in
noncomputable def shM (T : Int) (N : Nat) (z : Nat → Int) : Nat := if ShOk T N z then N else 0
open Classical in
theorem shM_ok {T : Int} {N : Nat} {z : Nat → Int} (h : ShOk T N z) : shM T N z = N := if_pos h
open Classical in
theorem shM_no {T : Int} {N : Nat} {z : Nat → Int} (h : ¬ ShOk T N z) : shM T N z = 0 := if_neg h
theorem shM_le (T : Int) (N : Nat) (z : Nat → Int) : shM T N z ≤ 200 := by
  by_cases h : ShOk T N z
  · rw [shM_ok h]; exact h.2.1
  · rw [shM_no h]; omega
def qv (T : Int) (N : Nat) (z : Nat → Int) (i : Nat) : Int := (T * z i).tdiv (sm z N)
def rs (T : Int) (N : Nat) (z : Nat → Int) (i : Nat) : Int := cr (T * z i) (sm z N)
def lf (T : Int) (N : Nat) (z : Nat → Int) : Int := T - sm (qv T N z) N
def on1 (x : Int) : Int := if x < 0 then -1 else 1
/-- The first of the greatest of n numbers. -/
def bst (r : Nat → Int) : Nat → Nat
  | 0 => 0
  | n + 1 => if n = 0 then 0 else if r (bst r n) < r n then n else bst r n
theorem bst_one (r : Nat → Int) : bst r 1 = 0 := rfl
theorem bst_succ {r : Nat → Int} {n : Nat} (h : 0 < n) : bst r (n + 1) = if r (bst r n) < r n then n else bst r n := by rw [bst, if_neg (by omega)]
theorem bst_lt (r : Nat → Int) : ∀ n, 0 < n → bst r n < n
  | 0, h => by omega
  | n + 1, _ => by
    by_cases e : n = 0
    · subst e; simp [bst]
    · rw [bst_succ (by omega)]
      have := bst_lt r n (by omega)
      split <;> omega
theorem bst_ge (r : Nat → Int) : ∀ n j, j < n → r j ≤ r (bst r n)
  | 0, j, h => by omega
  | n + 1, j, h => by
    by_cases e : n = 0
    · subst e; obtain rfl : j = 0 := by omega
      exact Int.le_refl _
    · rw [bst_succ (by omega)]
      by_cases e1 : j = n
      · subst e1; split <;> omega
      · have := bst_ge r n j (by omega)
        split <;> omega
theorem bst_eq {r : Nat → Int} {N b : Nat} (hb : b < N) (h : ∀ j, j < N → j ≠ b → r j ≤ r b ∧ (j < b → r j < r b)) : bst r N = b := by
  have key : ∀ n, n ≤ N → b < n → bst r n = b := by
    intro n
    induction n with
    | zero => intro _ h2; omega
    | succ n ih =>
      intro h1 h2
      by_cases e0 : n = 0
      · subst e0; simp [bst]; omega
      · rw [bst_succ (by omega)]
        by_cases e : n = b
        · subst e
          have h3 := bst_lt r n (by omega)
          rw [if_pos ((h _ (by omega) (by omega)).2 h3)]
        · rw [ih (by omega) (by omega), if_neg (by have := (h n (by omega) e).1; omega)]
  exact key N (Nat.le_refl _) hb

/-- What k rounds leave: the shares, and the rests with -1 for those that have had theirs. -/
def gst (one : Int) (N : Nat) (o r : Nat → Int) : Nat → (Nat → Int) × (Nat → Int)
  | 0 => (o, r)
  | k + 1 => (upd (gst one N o r k).1 (bst (gst one N o r k).2 N) ((gst one N o r k).1 (bst (gst one N o r k).2 N) + one), upd (gst one N o r k).2 (bst (gst one N o r k).2 N) (-1))
def shV (T : Int) (N : Nat) (z : Nat → Int) : Nat → Int := (gst (on1 (lf T N z)) N (qv T N z) (rs T N z) (lf T N z).natAbs).1

/-- A row of places that are each met at most once meets them all. -/
theorem inj_all : ∀ (n : Nat) (p : Nat → Nat), (∀ i, i < n → p i < n) → (∀ i j, i < n → j < n → p i = p j → i = j) → ∀ y, y < n → ∃ i, i < n ∧ p i = y
  | 0, p, _, _, y, h => by omega
  | n + 1, p, h1, h2, y, hy => by
    by_cases e : ∃ i, i < n + 1 ∧ p i = y
    · exact e
    · exfalso
      -- all of p's places avoid y: squeeze y out
      have ne : ∀ i, i < n + 1 → p i ≠ y := fun i hi q => e ⟨i, hi, q⟩
      have hq := inj_all n (fun i => if p i < y then p i else p i - 1) (fun i hi => by
        have a1 := h1 i (by omega)
        have a2 := ne i (by omega)
        split <;> omega) (fun i j hi hj q => by
        have a1 := ne i (by omega)
        have a2 := ne j (by omega)
        apply h2 i j (by omega) (by omega)
        split at q <;> split at q <;> omega)
      have b1 := h1 n (by omega)
      have b2 := ne n (by omega)
      obtain ⟨i, hi, q⟩ := hq (if p n < y then p n else p n - 1) (by split <;> omega)
      have a2 := ne i (by omega)
      have : i = n := h2 i n (by omega) (by omega) (by split at q <;> split at q <;> omega)
      omega

/-- The same by a row of places. -/
def gs (one : Int) (p : Nat → Nat) (o : Nat → Int) : Nat → (Nat → Int)
  | 0 => o
  | k + 1 => upd (gs one p o k) (p k) (gs one p o k (p k) + one)

/-- The sorted row's places are who gets what is left. -/
theorem gst_gs {one : Int} {N : Nat} {o r : Nat → Int} {p : Nat → Nat} (h0 : ∀ j, j < N → 0 ≤ r j) (h1 : ∀ i, i < N → p i < N) (h2 : ∀ i j, i < N → j < N → p i = p j → i = j)
    (h3 : ∀ i j, i < j → j < N → r (p j) < r (p i) ∨ (r (p j) = r (p i) ∧ p i < p j)) :
    ∀ k, k ≤ N → (gst one N o r k).1 = gs one p o k ∧ ∀ j, j < N → (∀ i, i < k → p i = j → (gst one N o r k).2 j = -1) ∧ ((∀ i, i < k → p i ≠ j) → (gst one N o r k).2 j = r j) := by
  intro k
  induction k with
  | zero => intro _; exact ⟨rfl, fun j hj => ⟨fun i hi => by omega, fun _ => rfl⟩⟩
  | succ k ih =>
    intro hk
    obtain ⟨e1, e2⟩ := ih (by omega)
    have hb : bst (gst one N o r k).2 N = p k := by
      have hv : (gst one N o r k).2 (p k) = r (p k) := (e2 (p k) (h1 k (by omega))).2 (fun i hi q => by have := h2 i k (by omega) (by omega) q; omega)
      refine bst_eq (h1 k (by omega)) (fun j hj hne => ?_)
      rw [hv]
      obtain ⟨i, hi, rfl⟩ := inj_all N p h1 h2 j hj
      have p0 := h0 (p k) (h1 k (by omega))
      by_cases hik : i < k
      · rw [(e2 (p i) hj).1 i hik rfl]; omega
      · have : i ≠ k := fun q => hne (by rw [q])
        have h5 := h3 k i (by omega) hi
        rw [(e2 (p i) hj).2 (fun i' hi' q => by have := h2 i' i (by omega) hi q; omega)]
        omega
    refine ⟨by rw [gst, hb, e1]; rfl, fun j hj => ⟨fun i hi q => ?_, fun hn => ?_⟩⟩
    · rw [gst, hb]
      by_cases e : i = k
      · subst e; rw [← q]; exact upd_eq _ _ _
      · by_cases e3 : j = p k
        · rw [e3]; exact upd_eq _ _ _
        · show upd _ _ _ _ = _
          rw [upd_ne e3]; exact (e2 j hj).1 i (by omega) q
    · rw [gst, hb]
      show upd _ _ _ _ = _
      rw [upd_ne (fun q => hn k (by omega) q.symm)]; exact (e2 j hj).2 (fun i hi => hn i (by omega))

/-- What is left is less than there are places, and its sign. -/
theorem lf_bd {T : Int} {N : Nat} {z : Nat → Int} (h : ShOk T N z) : ∃ K : Nat, K < N ∧ (lf T N z).natAbs = K ∧ ((lf T N z = (K : Int) ∧ 0 ≤ lf T N z) ∨ (lf T N z = -(K : Int) ∧ lf T N z < 0)) ∧ (∀ j, j < N → 0 ≤ rs T N z j ∧ rs T N z j < sm z N) ∧ ((0 ≤ T ∧ lf T N z * sm z N = sm (rs T N z) N) ∨ (T < 0 ∧ lf T N z * sm z N = -sm (rs T N z) N)) := by
  obtain ⟨hT, hN, hz, hS⟩ := h
  obtain ⟨S, hSe⟩ : ∃ S, sm z N = S := ⟨_, rfl⟩
  have hN0 : 0 < N := by
    rcases Nat.eq_zero_or_pos N with e | e
    · subst e; simp [sm] at hS
    · exact e
  have hr : ∀ j, j < N → 0 ≤ rs T N z j ∧ rs T N z j < S := fun j hj => by
    have := cut_facts (T * z j) S (by omega)
    unfold rs; rw [hSe]; exact ⟨this.1, this.2.1⟩
  have hsum := sm_le (a := rs T N z) (M := S - 1) (n := N) (fun j hj => by have := hr j hj; omega)
  have eN : (N : Int) * (S - 1) = (N : Int) * S - N := by rw [Int.mul_sub, Int.mul_one]
  have key : (0 ≤ T ∧ lf T N z * S = sm (rs T N z) N) ∨ (T < 0 ∧ lf T N z * S = -sm (rs T N z) N) := by
    by_cases hT0 : 0 ≤ T
    · refine .inl ⟨hT0, ?_⟩
      have e1 : sm (fun j => qv T N z j * S + rs T N z j) N = sm (fun j => T * z j) N := sm_congr (fun j hj => by
        have hp : 0 ≤ T * z j := Int.mul_nonneg hT0 (hz j hj).1
        have := (cut_facts (T * z j) S (by omega)).2.2.1 hp
        unfold qv rs; rw [hSe]; exact this.2.2.2.2)
      rw [sm_lin, sm_mul, hSe] at e1
      unfold lf; rw [Int.sub_mul]; omega
    · refine .inr ⟨by omega, ?_⟩
      have e1 : sm (fun j => qv T N z j * S + -rs T N z j) N = sm (fun j => T * z j) N := sm_congr (fun j hj => by
        by_cases h0 : z j = 0
        · unfold qv rs; rw [hSe, h0, Int.mul_zero]; simp [cr]
        · have hp : T * z j < 0 := Int.mul_neg_of_neg_of_pos (by omega) (by have := (hz j hj).1; omega)
          have := (cut_facts (T * z j) S (by omega)).2.2.2 hp
          unfold qv rs; rw [hSe]; omega)
      rw [sm_lin (qv T N z) (fun j => -rs T N z j), sm_neg, sm_mul, hSe] at e1
      unfold lf; rw [Int.sub_mul]; omega
  obtain ⟨L, hL⟩ : ∃ L, lf T N z = L := ⟨_, rfl⟩
  rw [hL] at key ⊢
  rw [hSe]
  have up : L < N := by
    rcases Int.lt_or_le L N with q | q
    · exact q
    · have := Int.mul_le_mul_of_nonneg_right q (show 0 ≤ S by omega)
      omega
  have dn : -(N : Int) < L := by
    rcases Int.lt_or_le (-(N : Int)) L with q | q
    · exact q
    · have := Int.mul_le_mul_of_nonneg_right q (show 0 ≤ S by omega)
      rw [Int.neg_mul] at this
      omega
  exact ⟨L.natAbs, by omega, rfl, by omega, hr, key⟩
end Go.Proofs.Ytdgccdlaokbnhaa.Sh

namespace Go.Proofs.Ytdgccdlaokbnhaa.Sh
open Go.ChangeShapes Go.WideShapes Go.ChangeAt Go.RowKit
set_option linter.unusedVariables false
set_option linter.unusedSimpArgs false

def inB (x lo hi : Int) : Bool := decide (lo ≤ x ∧ x ≤ hi)
theorem inB_t {x lo hi : Int} (h1 : lo ≤ x) (h2 : x ≤ hi) : inB x lo hi = true := decide_eq_true ⟨h1, h2⟩
theorem inB_f {x lo hi : Int} (h : ¬ (lo ≤ x ∧ x ≤ hi)) : inB x lo hi = false := decide_eq_false h
theorem inB_iff {x lo hi : Int} : inB x lo hi = true ↔ lo ≤ x ∧ x ≤ hi := by unfold inB; simp
theorem isAmount_any (x : Int) (w : World) : Calls Try.prog 74 #[.int .i64 x] w fun e w' => e = .returned (.bool (inB x (-100000000000) 100000000000)) ∧ w' = w := by
  go_enter Try.func74, Try.ntmps74
  go_wp2
  all_goals go_returns
  all_goals exact ⟨ret_bool (by unfold inB; rw [Bool.eq_iff_iff]; simp; try omega), rfl⟩
theorem isFactor_any (x : Int) (w : World) : Calls Try.prog 108 #[.int .i64 x] w fun e w' => e = .returned (.bool (inB x 0 10000000)) ∧ w' = w := by
  go_enter Try.func108, Try.ntmps108
  go_wp2
  all_goals go_returns
  all_goals exact ⟨ret_bool (by unfold inB; rw [Bool.eq_iff_iff]; simp; try omega), rfl⟩
theorem isAmount_eq {x : Int} {v : Bool} (w : World) (h : inB x (-100000000000) 100000000000 = v) : Calls Try.prog 74 #[.int .i64 x] w fun e w' => e = .returned (.bool v) ∧ w' = w := h ▸ isAmount_any x w
theorem isFactor_eq {x : Int} {v : Bool} (w : World) (h : inB x 0 10000000 = v) : Calls Try.prog 108 #[.int .i64 x] w fun e w' => e = .returned (.bool v) ∧ w' = w := h ▸ isFactor_any x w

/-- All sums on the way stay small. -/
def SmB (z : Nat → Int) (N : Nat) : Prop := ∀ k, k ≤ N → -1000000000000000 ≤ sm z k ∧ sm z k ≤ 1000000000000000

set_option maxRecDepth 20000 in
set_option maxHeartbeats 1000000 in
theorem sum_any (ad : Option Addr) (N cap : Nat) (z : Nat → Int) (w : World) (h : (N : Int) ≤ 1048576) (hr : IR w ad N z) (hb : SmB z N) :
    Calls Try.prog 96 #[.slice ad N cap] w fun e w' => e = .returned (.int .i64 (sm z N)) ∧ w' = w := by
  have HR : Hid (IR w ad N z) := hr
  have HB : Hid (SmB z N) := hb
  clear hr hb
  go_enter Try.func96, Try.ntmps96
  go_wp2
  go_loop [3, 8] (fun u v => ∃ (k : Nat) (s : Int), k ≤ N ∧ v = .int .i64 (k : Int) ∧ u = .int .i64 s ∧ Hid (s = sm z k)) (fun u v => N - (intOf v).toNat)
  case atStart => exact ⟨0, 0, Nat.zero_le _, rfl, rfl, rfl⟩
  case round =>
    obtain ⟨k, s, hk, rfl, rfl, hs⟩ := hrel
    by_cases hlt : k < N
    · obtain ⟨kb, off, rfl, _⟩ := HR.out.addr (by omega)
      have c1 := HR.out.cell hlt
      have hlt2 : (k : Int) < (N : Int) := by omega
      obtain ⟨y, hy⟩ : ∃ y, z k = y := ⟨_, rfl⟩
      rw [hy] at c1
      have b1 := HB.out k (by omega)
      have b2 := HB.out (k + 1) (by omega)
      rw [sm_succ, hy, ← hs.out] at b2
      rw [← hs.out] at b1
      have HS : Hid (s + y = sm z (k + 1)) := by show _ = _; rw [sm_succ, hy, hs.out]
      clear hy hs
      obtain ⟨b3, b4⟩ := b1
      obtain ⟨b5, b6⟩ := b2
      go_wp2
      go_round
      case rel => exact ⟨k + 1, s + y, by omega, by go_num, by go_num, HS⟩
      case measure => simp [intOf]; omega
    · obtain rfl : k = N := by omega
      go_wp2
      go_returns
      exact ⟨ret_int hs.out, rfl⟩

/-- Weights that Shares takes. -/
def WOk (N : Nat) (z : Nat → Int) : Prop := N ≤ 200 ∧ (∀ j, j < N → 0 ≤ z j ∧ z j ≤ 10000000) ∧ 0 < sm z N
open Classical in
noncomputable def wOkB (N : Nat) (z : Nat → Int) : Bool := decide (WOk N z)
open Classical in
theorem wOkB_t {N : Nat} {z : Nat → Int} (h : WOk N z) : wOkB N z = true := decide_eq_true h
open Classical in
theorem wOkB_f {N : Nat} {z : Nat → Int} (h : ¬ WOk N z) : wOkB N z = false := decide_eq_false h
theorem fac_sum {N k : Nat} {z : Nat → Int} (h1 : N ≤ 200) (h : ∀ j, j < N → 0 ≤ z j ∧ z j ≤ 10000000) (hk : k ≤ N) : 0 ≤ sm z k ∧ sm z k ≤ 2000000000 := by
  have := sm_le (a := z) (M := 10000000) (n := k) (fun j hj => h j (by omega))
  omega
theorem fac_SmB {N : Nat} {z : Nat → Int} (h1 : N ≤ 200) (h : ∀ j, j < N → 0 ≤ z j ∧ z j ≤ 10000000) : SmB z N := fun k hk => by have := fac_sum h1 h hk; omega

set_option maxRecDepth 20000 in
set_option maxHeartbeats 1000000 in
theorem weightsOk_any (ad : Option Addr) (N cap : Nat) (z : Nat → Int) (w : World) (h : (N : Int) ≤ 1048576) (hr : IR w ad N z) :
    Calls Try.prog 95 #[.slice ad N cap] w fun e w' => e = .returned (.bool (wOkB N z)) ∧ w' = w := by
  have HR : Hid (IR w ad N z) := hr
  clear hr
  by_cases hn : N ≤ 200
  case neg =>
    have HF : Hid (wOkB N z = false) := wOkB_f (fun q => hn q.1)
    have l1 : (N : Int) > 200 := by omega
    go_enter Try.func95, Try.ntmps95
    go_wp2
    go_returns
    exact ⟨ret_bool HF.out.symm, rfl⟩
  have l1 : ¬ (N : Int) > 200 := by omega
  have l1b : (N : Int) ≤ 200 := by omega
  go_enter Try.func95, Try.ntmps95
  go_wp2
  go_loop [10] (fun v => ∃ (k : Nat), k ≤ N ∧ v = .int .i64 (k : Int) ∧ Hid (∀ j, j < k → 0 ≤ z j ∧ z j ≤ 10000000)) (fun v => N - (intOf v).toNat)
  case atStart => exact ⟨0, Nat.zero_le _, rfl, fun j hj => by omega⟩
  case round =>
    obtain ⟨k, hk, rfl, hs⟩ := hrel
    by_cases hlt : k < N
    · obtain ⟨kb, off, rfl, _⟩ := HR.out.addr (by omega)
      have c1 := HR.out.cell hlt
      have hlt2 : (k : Int) < (N : Int) := by omega
      obtain ⟨y, hy⟩ : ∃ y, z k = y := ⟨_, rfl⟩
      rw [hy] at c1
      have HY : Hid (z k = y) := hy
      clear hy
      by_cases hf : 0 ≤ y ∧ y ≤ 10000000
      · have hb := inB_t hf.1 hf.2
        have HS : Hid (∀ j, j < k + 1 → 0 ≤ z j ∧ z j ≤ 10000000) := fun j hj => by
          by_cases e : j = k
          · rw [e, HY.out]; exact hf
          · exact hs.out j (by omega)
        clear hf
        go_wp2_with (go_at_call 108; refine (isFactor_eq _ hb).mono ?_; rintro e w' ⟨rfl, ew⟩; replace ew := ew.symm; subst ew)
        go_round
        case rel => exact ⟨k + 1, by omega, by go_num, HS⟩
        case measure => simp [intOf]; omega
      · have hb := inB_f hf
        have HF : Hid (wOkB N z = false) := wOkB_f (fun q => hf (HY.out ▸ q.2.1 k hlt))
        clear hf
        go_wp2_with (go_at_call 108; refine (isFactor_eq _ hb).mono ?_; rintro e w' ⟨rfl, ew⟩; replace ew := ew.symm; subst ew)
        go_returns
        exact ⟨ret_bool HF.out.symm, rfl⟩
    · obtain rfl : k = N := by omega
      have HSB : Hid (SmB z k) := fac_SmB hn hs.out
      obtain ⟨S, hS⟩ : ∃ S, sm z k = S := ⟨_, rfl⟩
      have HF : Hid (wOkB k z = decide (0 < S)) := by
        show _ = _
        by_cases q : 0 < S
        · rw [decide_eq_true q]; exact wOkB_t ⟨hn, hs.out, by rw [hS]; exact q⟩
        · rw [decide_eq_false q]; exact wOkB_f (fun r => q (by rw [← hS]; exact r.2.2))
      have HC : Hid (Calls Try.prog 96 #[.slice ad k cap] w fun e w' => e = .returned (.int .i64 S) ∧ w' = w) := by
        have := sum_any ad k cap z w h HR.out HSB.out
        rw [hS] at this; exact this
      clear hS hs
      go_wp2_with (go_at_call 96; refine HC.out.mono ?_; rintro e w' ⟨rfl, ew⟩; replace ew := ew.symm; subst ew)
      go_returns
      exact ⟨ret_bool HF.out.symm, rfl⟩

theorem cutOf_any (p q : Int) (w : World) (h0 : -1000000000000000000 ≤ p) (h1 : p ≤ 1000000000000000000) (hq : 1 ≤ q) (hq1 : q ≤ 10000000000) :
    Calls Try.prog 97 #[.int .i64 p, .int .i64 q] w fun e w' => e = .returned (.agg #[.int .i64 (p.tdiv q), .int .i64 (cr p q), .int .i64 q, .bool (decide (p < 0))]) ∧ Below w.heap.size w w' := by
  obtain ⟨c0, c1, cp, cn⟩ := cut_facts p q hq
  by_cases h : p < 0
  · obtain ⟨n1, n2, n3, n4⟩ := cn h
    have hdec : decide (p < 0) = true := decide_eq_true h
    clear cp cn n4
    obtain ⟨d, hd⟩ : ∃ d, p.tdiv q = d := ⟨_, rfl⟩
    obtain ⟨r, hr⟩ : ∃ r, cr p q = r := ⟨_, rfl⟩
    rw [hd] at n1 n2
    rw [hr] at n3 c0 c1
    by_cases hr0 : r = 0
    · subst hr0
      go_enter Try.func97, Try.ntmps97
      go_wp2
      go_returns
      exact ⟨by simp [hr, hdec, hd], by go_grown⟩
    · go_enter Try.func97, Try.ntmps97
      go_wp2
      go_returns
      exact ⟨by simp [hr, hdec, hd], by go_grown⟩
  · obtain ⟨n1, n2, n3, n4, n5⟩ := cp (by omega)
    have hdec : decide (p < 0) = false := decide_eq_false h
    have hp : 0 ≤ p := by omega
    clear cp cn n5
    obtain ⟨d, hd⟩ : ∃ d, p.tdiv q = d := ⟨_, rfl⟩
    obtain ⟨r, hr⟩ : ∃ r, cr p q = r := ⟨_, rfl⟩
    rw [hd] at n1 n2 n3
    rw [hr] at n4 c0 c1
    go_enter Try.func97, Try.ntmps97
    go_wp2
    go_returns
    exact ⟨by simp [hr, hdec, hd], by go_grown⟩

set_option maxRecDepth 20000 in
set_option maxHeartbeats 2000000 in
/-- The first K of the rests' places get one more each (or one less). -/
theorem giveLeft_any (A B N capA : Nat) (t : TypeId) (o : Nat → Int) (g : Nat → Int × Int) (p : Nat → Nat) (K : Nat) (x one : Int) (w : World) (hN : (N : Int) ≤ 200) (hK : K ≤ N) (hAB : A < B) (H : IB w A N 3 o) (G : RB w B N t g) (hp : ∀ i, i < N → p i < N ∧ (g i).2 = (p i : Int)) (ho : ∀ k, k ≤ K → ∀ j, -200000000000 ≤ gs one p o k j ∧ gs one p o k j ≤ 200000000000)
    (hx : (x = (K : Int) ∧ one = 1) ∨ (x = -(K : Int) ∧ x < 0 ∧ one = -1)) :
    Calls Try.prog 100 #[.slice (some ⟨A, 0, none⟩) N capA, .slice (some ⟨B, 0, none⟩) N N, .int .i64 x] w fun e w' => e = .returned (.tuple #[]) ∧ IB w' A N 3 (gs one p o K) ∧ Below A w w' := by
  have HA : Hid (IB w A N 3 o) := H
  have HG : Hid (RB w B N t g) := G
  have HP : Hid (∀ i, i < N → p i < N ∧ (g i).2 = (p i : Int)) := hp
  have HO : Hid (∀ k, k ≤ K → ∀ j, -200000000000 ≤ gs one p o k j ∧ gs one p o k j ≤ 200000000000) := ho
  have lK : (K : Int) ≤ (N : Int) := by omega
  have lAB : A ≠ B := by omega
  have lBA : B ≠ A := by omega
  clear H G hp ho
  rcases hx with ⟨rfl, rfl⟩ | ⟨rfl, hx, rfl⟩
  · have l0 : ¬ (K : Int) < 0 := by omega
    go_enter Try.func100, Try.ntmps100
    go_wp2
    go_loopw [17] (fun v wr => ∃ (k : Nat), k ≤ K ∧ v = .int .i64 (k : Int) ∧ Hid (IB wr A N 3 (gs (1) p o k) ∧ RB wr B N t g ∧ Below A w wr)) (fun v _ => K - (intOf v).toNat)
    case atStart => exact ⟨0, Nat.zero_le _, rfl, HA.out, HG.out, Below.refl _ _⟩
    case round =>
      obtain ⟨k, hk, rfl, HW⟩ := hrel
      by_cases hlt : k < K
      · have hlt2 : (k : Int) < (K : Int) := by omega
        obtain ⟨p1, p2⟩ := HP.out k (by omega)
        obtain ⟨q, hq⟩ : ∃ q, p k = q := ⟨_, rfl⟩
        obtain ⟨d1, d2⟩ := HW.out.2.1.cell (j := k) (by omega)
        obtain ⟨x1, hx1⟩ : ∃ x1, (g k).1 = x1 := ⟨_, rfl⟩
        rw [hq] at p1 p2
        rw [p2] at d2
        rw [hx1] at d1
        have lq : (q : Int) < (N : Int) := by omega
        have c1 := HW.out.1.cell (j := q) p1
        have f1 := HW.out.1.fr q
        have b1 := HO.out k (by omega) q
        obtain ⟨v, hv⟩ : ∃ v, gs (1) p o k q = v := ⟨_, rfl⟩
        rw [hv] at c1 b1
        obtain ⟨b2, b3⟩ := b1
        have hlA := HW.out.1.lt
        have hlB := HW.out.2.1.lt
        have hAh : A ≠ wr.heap.size := by omega
        have HN : Hid (IB ((wr.setCell ⟨A, q, none⟩ (.int .i64 (v + 1))).alloc (.cells #[.int .i64 x1, .int .i64 (q : Int)] 128 (0, 0))) A N 3 (gs (1) p o (k + 1)) ∧ RB ((wr.setCell ⟨A, q, none⟩ (.int .i64 (v + 1))).alloc (.cells #[.int .i64 x1, .int .i64 (q : Int)] 128 (0, 0))) B N t g ∧ Below A w ((wr.setCell ⟨A, q, none⟩ (.int .i64 (v + 1))).alloc (.cells #[.int .i64 x1, .int .i64 (q : Int)] 128 (0, 0)))) := by
          refine ⟨?_, (HW.out.2.1.other _ lBA).alloc _, (HW.out.2.2.setCell (Nat.le_refl _) _).alloc (by simp; omega) _⟩
          have := (HW.out.1.set (i := q) p1 (v + 1)).alloc (.cells #[.int .i64 x1, .int .i64 (q : Int)] 128 (0, 0))
          rw [gs, hq, hv]; exact this
        clear hq hv hx1 p2 HW
        go_wp2
        go_roundw
        case rel => exact ⟨k + 1, by omega, by go_num, HN⟩
        case measure => simp [intOf]; omega
      · obtain rfl : k = K := by omega
        have lkk : ¬ (k : Int) < (k : Int) := by omega
        go_wp2
        go_returns
        exact ⟨rfl, HW.out.1, HW.out.2.2⟩
  · have e0 : -(K : Int) * -1 = (K : Int) := by omega
    go_enter Try.func100, Try.ntmps100
    go_wp2
    go_loopw [17] (fun v wr => ∃ (k : Nat), k ≤ K ∧ v = .int .i64 (k : Int) ∧ Hid (IB wr A N 3 (gs (-1) p o k) ∧ RB wr B N t g ∧ Below A w wr)) (fun v _ => K - (intOf v).toNat)
    case atStart => exact ⟨0, Nat.zero_le _, rfl, HA.out, HG.out, Below.refl _ _⟩
    case round =>
      obtain ⟨k, hk, rfl, HW⟩ := hrel
      by_cases hlt : k < K
      · have hlt2 : (k : Int) < (K : Int) := by omega
        obtain ⟨p1, p2⟩ := HP.out k (by omega)
        obtain ⟨q, hq⟩ : ∃ q, p k = q := ⟨_, rfl⟩
        obtain ⟨d1, d2⟩ := HW.out.2.1.cell (j := k) (by omega)
        obtain ⟨x1, hx1⟩ : ∃ x1, (g k).1 = x1 := ⟨_, rfl⟩
        rw [hq] at p1 p2
        rw [p2] at d2
        rw [hx1] at d1
        have lq : (q : Int) < (N : Int) := by omega
        have c1 := HW.out.1.cell (j := q) p1
        have f1 := HW.out.1.fr q
        have b1 := HO.out k (by omega) q
        obtain ⟨v, hv⟩ : ∃ v, gs (-1) p o k q = v := ⟨_, rfl⟩
        rw [hv] at c1 b1
        obtain ⟨b2, b3⟩ := b1
        have hlA := HW.out.1.lt
        have hlB := HW.out.2.1.lt
        have hAh : A ≠ wr.heap.size := by omega
        have HN : Hid (IB ((wr.setCell ⟨A, q, none⟩ (.int .i64 (v + -1))).alloc (.cells #[.int .i64 x1, .int .i64 (q : Int)] 128 (0, 0))) A N 3 (gs (-1) p o (k + 1)) ∧ RB ((wr.setCell ⟨A, q, none⟩ (.int .i64 (v + -1))).alloc (.cells #[.int .i64 x1, .int .i64 (q : Int)] 128 (0, 0))) B N t g ∧ Below A w ((wr.setCell ⟨A, q, none⟩ (.int .i64 (v + -1))).alloc (.cells #[.int .i64 x1, .int .i64 (q : Int)] 128 (0, 0)))) := by
          refine ⟨?_, (HW.out.2.1.other _ lBA).alloc _, (HW.out.2.2.setCell (Nat.le_refl _) _).alloc (by simp; omega) _⟩
          have := (HW.out.1.set (i := q) p1 (v + -1)).alloc (.cells #[.int .i64 x1, .int .i64 (q : Int)] 128 (0, 0))
          rw [gs, hq, hv]; exact this
        clear hq hv hx1 p2 HW
        go_wp2
        go_roundw
        case rel => exact ⟨k + 1, by omega, by go_num, HN⟩
        case measure => simp [intOf]; omega
      · obtain rfl : k = K := by omega
        have lkk : ¬ (k : Int) < (k : Int) := by omega
        go_wp2
        go_returns
        exact ⟨rfl, HW.out.1, HW.out.2.2⟩
end Go.Proofs.Ytdgccdlaokbnhaa.Sh

namespace Go.Proofs.Ytdgccdlaokbnhaa.Sh
open Go.ChangeShapes Go.WideShapes Go.ChangeAt Go.RowKit
set_option linter.unusedVariables false
set_option linter.unusedSimpArgs false

def zeros2 (n : Nat) : Array Value := madeCells #[.int .i64 0, .int .i64 0] (n * 2)
theorem zeros2_size (n : Nat) : (zeros2 n).size = n * 2 := size_madeCells _ _
theorem zeros_get (n j : Nat) (h : j < n) : (zeros n)[j]? = some (.int .i64 0) := by
  simp [zeros, madeCells, h, Nat.mod_one]
theorem zeros2_get (n j : Nat) (h : j < n * 2) : (zeros2 n)[j]? = some (.int .i64 0) := by
  have : j % 2 = 0 ∨ j % 2 = 1 := by omega
  rcases this with e | e <;> simp [zeros2, madeCells, h, e]

set_option maxRecDepth 100000 in
theorem mkR (n : Nat) (h : (n : Int) ≤ 1048576) (w : World) : (Instr.makeSlice 123 (.int .i64 (n : Int)) (.int .i64 (n : Int))).run Try.prog w = .ok (.slice (some ⟨w.heap.size, 0, none⟩) n n) (w.alloc (.cells (zeros2 n) 128)) := by
  obtain ⟨i, hi⟩ : ∃ i, Try.prog.info? 128 = some i := ⟨_, rfl⟩
  have hz : i.zero = some (.agg #[.int .i64 0, .int .i64 0]) := by
    have : (Try.prog.info? 128).bind (·.zero) = some (.agg #[.int .i64 0, .int .i64 0]) := by kernel_rfl
    rw [hi] at this; exact this
  have hs : i.size = 2 := by
    have : (Try.prog.info? 128).map (·.size) = some 2 := by kernel_rfl
    rw [hi] at this; simpa using this
  have hb : i.bytes = 16 := by
    have : (Try.prog.info? 128).map (·.bytes) = some 16 := by kernel_rfl
    rw [hi] at this; simpa using this
  have hr := run_make (P := Try.prog) w 123 128 i (.agg #[.int .i64 0, .int .i64 0]) Try.underlying123 hi hz .i64 .i64 n n (by omega) (by omega) (by rw [hb]; omega) (by omega)
  simp only [Int.toNat_natCast, hs] at hr
  exact hr

theorem cutOf_eq (p q d r : Int) (b : Bool) (w : World) (h0 : -1000000000000000000 ≤ p) (h1 : p ≤ 1000000000000000000) (hq : 1 ≤ q) (hq1 : q ≤ 10000000000) (hd : p.tdiv q = d) (hr : cr p q = r) (hb : decide (p < 0) = b) :
    Calls Try.prog 97 #[.int .i64 p, .int .i64 q] w fun e w' => e = .returned (.agg #[.int .i64 d, .int .i64 r, .int .i64 q, .bool b]) ∧ Below w.heap.size w w' := by
  subst hd hr hb; exact cutOf_any p q w h0 h1 hq hq1

/-- The pair that the k-th rest is. -/
def rp (T : Int) (N : Nat) (z : Nat → Int) (j : Nat) : Int × Int := (rs T N z j, (j : Int))
def pq (q : Nat → Int) (k j : Nat) : Int := if j < k then q j else 0
def pr (f : Nat → Int × Int) (k j : Nat) : Int × Int := if j < k then f j else (0, 0)
theorem pq_step (q : Nat → Int) (k j : Nat) : pq q (k + 1) j = upd (pq q k) k (q k) j := by
  by_cases e : j = k
  · subst e; rw [upd_eq]; exact if_pos (by omega)
  · rw [upd_ne e]; unfold pq
    repeat' split
    all_goals first | omega | rfl
theorem pr_step (f : Nat → Int × Int) (k j : Nat) : pr f (k + 1) j = if j = k then ((f k).1, (f k).2) else pr f k j := by
  unfold pr
  repeat' split
  all_goals first | omega | rfl | (subst_vars; rfl)

theorem qv_bd {T : Int} {N : Nat} {z : Nat → Int} (h : ShOk T N z) {j : Nat} (hj : j < N) : -100000000000 ≤ qv T N z j ∧ qv T N z j ≤ 100000000000 := by
  obtain ⟨hT, hN, hz, hS⟩ := h
  have hzj := hz j hj
  have hle : z j ≤ sm z N := by
    have : ∀ n, n ≤ N → j < n → z j ≤ sm z n := by
      intro n
      induction n with
      | zero => intro _ h2; omega
      | succ n ih =>
        intro h1 h2
        rw [sm_succ]
        have h3 := (sm_le (a := z) (M := 10000000) (n := n) (fun i hi => hz i (by omega))).1
        by_cases e : j = n
        · subst e; omega
        · have := ih (by omega) (by omega); have := hz n (by omega); omega
    exact this N (Nat.le_refl _) hj
  obtain ⟨S, hSe⟩ : ∃ S, sm z N = S := ⟨_, rfl⟩
  unfold qv
  rw [hSe] at hle hS ⊢
  obtain ⟨P, hP⟩ : ∃ P, T * z j = P := ⟨_, rfl⟩
  have f := cut_facts P S (by omega)
  have m1 := mul_bd T (z j) 100000000000 (z j) hT.1 hT.2 hzj.1 (Int.le_refl _) (by omega)
  have m2 : 100000000000 * z j ≤ 100000000000 * S := Int.mul_le_mul_of_nonneg_left hle (by omega)
  rw [hP] at m1 ⊢
  obtain ⟨d, hd⟩ : ∃ d, P.tdiv S = d := ⟨_, rfl⟩
  rw [hd] at f ⊢
  by_cases p0 : P < 0
  · have := f.2.2.2 p0
    refine ⟨?_, by omega⟩
    rcases Int.lt_or_le d (-100000000000) with q | q
    · have : (d + 1) * S ≤ (-100000000000) * S := Int.mul_le_mul_of_nonneg_right (by omega) (by omega)
      rw [Int.add_mul, Int.one_mul] at this
      omega
    · exact q
  · have := f.2.2.1 (by omega)
    refine ⟨by omega, ?_⟩
    rcases Int.lt_or_le 100000000000 d with q | q
    · have : 100000000001 * S ≤ d * S := Int.mul_le_mul_of_nonneg_right (by omega) (by omega)
      omega
    · exact q

theorem gs_bd {one : Int} (p : Nat → Nat) {o : Nat → Int} {M : Int} (h1 : one = 1 ∨ one = -1) (h : ∀ j, -M ≤ o j ∧ o j ≤ M) : ∀ k j, -(M + k) ≤ gs one p o k j ∧ gs one p o k j ≤ M + k
  | 0, j => by have := h j; rw [gs]; simp; omega
  | k + 1, j => by
    have i1 := gs_bd p h1 h k (p k)
    have i2 := gs_bd p h1 h k j
    rw [gs]; unfold upd
    split <;> omega

theorem gs_congr {one : Int} {p : Nat → Nat} {o o' : Nat → Int} {n : Nat} (hp : ∀ i, i < n → p i < n) (h : ∀ j, j < n → o j = o' j) : ∀ k, k ≤ n → ∀ j, j < n → gs one p o k j = gs one p o' k j
  | 0, _, j, hj => h j hj
  | k + 1, hk, j, hj => by
    rw [gs, gs]
    by_cases e : j = p k
    · rw [e, upd_eq, upd_eq, gs_congr hp h k (by omega) (p k) (hp k (by omega))]
    · rw [upd_ne e, upd_ne e]; exact gs_congr hp h k (by omega) j hj

/-- What is handed out by the sorted row is what the model hands out. -/
theorem give_eq {T : Int} {N : Nat} {z : Nat → Int} {g : Nat → Int × Int} (h : ShOk T N z) (hp : PermOn 0 N (rp T N z) g) (hs : SortedOn ltR g 0 N) :
    ∃ p : Nat → Nat, (∀ i, i < N → p i < N ∧ (g i).2 = (p i : Int)) ∧ ∀ one o k, k ≤ N → (gst one N o (rs T N z) k).1 = gs one p o k := by
  obtain ⟨_, p, p1, p2⟩ := hp
  obtain ⟨K, _, _, _, hr, _⟩ := lf_bd h
  refine ⟨p, fun i hi => ⟨(p1 i (Nat.zero_le _) hi).2.1, by rw [(p1 i (Nat.zero_le _) hi).2.2]; rfl⟩, fun one o k hk => ?_⟩
  refine (gst_gs (one := one) (o := o) (fun j hj => (hr j hj).1) (fun i hi => (p1 i (Nat.zero_le _) hi).2.1) (fun i j hi hj q => p2 i j (Nat.zero_le _) hi (Nat.zero_le _) hj q) (fun i j hij hj => ?_) k hk).1
  have := hs i j (Nat.zero_le _) hij hj
  rw [(p1 i (Nat.zero_le _) (by omega)).2.2, (p1 j (Nat.zero_le _) hj).2.2] at this
  unfold ltR rp at this
  simp only at this
  omega

theorem none_own (w : World) : (w.alloc (.cells #[] 3 (0, 0))).ownsRow w.heap.size 3 1 (.slice (some ⟨w.heap.size, 0, none⟩) 0 0) 0 [] := World.ownsRow_made w #[] 0 (Nat.le_refl _) (Nat.zero_le _) rfl

set_option maxRecDepth 20000 in
set_option maxHeartbeats 4000000 in
theorem implShares_any (T : Int) (ad : Option Addr) (N cap : Nat) (z : Nat → Int) (w : World) (hN : (N : Int) ≤ 1048576) (hr : IR w ad N z) :
    Calls Try.prog 72 #[.int .i64 T, .slice ad N cap] w (NewI (shM T N z) (intL (shV T N z) (shM T N z)) w) := by
  have HR : Hid (IR w ad N z) := hr
  have HY1 : Hid (Below w.heap.size w (w.alloc (.cells #[] 3 (0, 0)))) := (Below.refl _ _).alloc (Nat.le_refl _) _
  clear hr
  by_cases hT : -100000000000 ≤ T ∧ T ≤ 100000000000
  case neg =>
    rw [shM_no (fun q => hT q.1)]
    have hb := inB_f hT
    clear hT
    go_enter Try.func72, Try.ntmps72
    go_wp2_with (go_at_call 74; refine (isAmount_eq _ hb).mono ?_; rintro e w' ⟨rfl, ew⟩; replace ew := ew.symm; subst ew)
    go_returns
    exact ⟨_, _, rfl, none_own w, HY1.out⟩
  have hb := inB_t hT.1 hT.2
  have HWO : Hid (∀ (v : Bool), wOkB N z = v → Calls Try.prog 95 #[.slice ad N cap] w fun e w' => e = .returned (.bool v) ∧ w' = w) := fun v hv => hv ▸ weightsOk_any ad N cap z w hN HR.out
  by_cases hW : WOk N z
  case neg =>
    rw [shM_no (fun q => hW ⟨q.2.1, q.2.2.1, q.2.2.2⟩)]
    have hb2 := wOkB_f hW
    clear hT hW
    go_enter Try.func72, Try.ntmps72
    go_wp2_with (first
      | (go_at_call 74; refine (isAmount_eq _ hb).mono ?_; rintro e w' ⟨rfl, ew⟩; replace ew := ew.symm; subst ew)
      | (go_at_call 95; refine (HWO.out _ hb2).mono ?_; rintro e w' ⟨rfl, ew⟩; replace ew := ew.symm; subst ew))
    go_returns
    exact ⟨_, _, rfl, none_own w, HY1.out⟩
  have hb2 := wOkB_t hW
  have hOk : ShOk T N z := ⟨hT, hW.1, hW.2.1, hW.2.2⟩
  have HOk : Hid (ShOk T N z) := hOk
  rw [shM_ok hOk]
  obtain ⟨K, hKN, hKa, hKs, hrs, _⟩ := lf_bd hOk
  have HK : Hid (K < N ∧ (lf T N z).natAbs = K ∧ ((lf T N z = (K : Int) ∧ 0 ≤ lf T N z) ∨ (lf T N z = -(K : Int) ∧ lf T N z < 0))) := ⟨hKN, hKa, hKs⟩
  have hN2 : (N : Int) ≤ 200 := by have := hW.1; omega
  have HSB : Hid (SmB z N) := fac_SmB hW.1 hW.2.1
  have hSb := fac_sum hW.1 hW.2.1 (Nat.le_refl N)
  have hS0 := hW.2.2
  obtain ⟨S, hS⟩ : ∃ S, sm z N = S := ⟨_, rfl⟩
  have HS : Hid (sm z N = S) := hS
  rw [hS] at hSb hS0
  obtain ⟨_, hSb2⟩ := hSb
  have HZ : Hid (∀ j, j < N → 0 ≤ z j ∧ z j ≤ 10000000) := hW.2.1
  obtain ⟨hT1, hT2⟩ := hT
  have HC : Hid (Calls Try.prog 96 #[.slice ad N cap] w fun e w' => e = .returned (.int .i64 S) ∧ w' = w) := by
    have := sum_any ad N cap z w hN HR.out HSB.out
    rw [hS] at this; exact this
  have hmk := mkI N hN
  have hmk2 := mkR N hN
  have tok1 : True := trivial
  clear hW hOk hKN hKa hKs hrs hS
  go_enter Try.func72, Try.ntmps72
  go_wp2_with (first
    | (go_at_call 74; refine (isAmount_eq _ hb).mono ?_; rintro e w' ⟨rfl, ew⟩; replace ew := ew.symm; subst ew)
    | (go_at_call 95; refine (HWO.out _ hb2).mono ?_; rintro e w' ⟨rfl, ew⟩; replace ew := ew.symm; subst ew)
    | (go_at_call 96; clear tok1; refine HC.out.mono ?_; rintro e w' ⟨rfl, ew⟩; replace ew := ew.symm; subst ew))
  go_loopw [30] (fun v wr => ∃ (k : Nat), k ≤ N ∧ v = .int .i64 (k : Int) ∧ Hid (IB wr w.heap.size N 3 (pq (qv T N z) k) ∧ RB wr (w.heap.size + 1) N 128 (pr (rp T N z) k) ∧ Below w.heap.size w wr)) (fun v _ => N - (intOf v).toNat)
  case atStart =>
    refine ⟨0, Nat.zero_le _, rfl, ⟨zeros N, (CB.new _ _).alloc _, zeros_size _, fun j hj => ?_⟩, ⟨zeros2 N, CB.newAt (by simp) _ _, zeros2_size _, fun j hj => ?_⟩, ((Below.refl _ _).alloc (Nat.le_refl _) _).alloc (by simp) _⟩
    · rw [zeros_get _ _ hj]; rfl
    · rw [zeros2_get _ _ (by omega), zeros2_get _ _ (by omega)]; exact ⟨rfl, rfl⟩
  case round =>
    obtain ⟨k, hk, rfl, HW⟩ := hrel
    by_cases hlt : k < N
    · have hlt2 : (k : Int) < (N : Int) := by omega
      obtain ⟨kb, off, rfl, _⟩ := HR.out.addr (by omega)
      have c1 := (HR.out.below HW.out.2.2).cell hlt
      obtain ⟨y, hy⟩ : ∃ y, z k = y := ⟨_, rfl⟩
      have hyb := HZ.out k hlt
      rw [hy] at c1 hyb
      obtain ⟨P, hP⟩ : ∃ P, T * y = P := ⟨_, rfl⟩
      have hPb := mul_bd T y 100000000000 10000000 hT1 hT2 hyb.1 hyb.2 (by omega)
      rw [hP] at hPb
      obtain ⟨hP1, hP2⟩ := hPb
      obtain ⟨d, hd⟩ : ∃ d, P.tdiv S = d := ⟨_, rfl⟩
      obtain ⟨r, hr⟩ : ∃ r, cr P S = r := ⟨_, rfl⟩
      obtain ⟨bb, hbb⟩ : ∃ bb, decide (P < 0) = bb := ⟨_, rfl⟩
      have HQ : Hid (qv T N z k = d ∧ rp T N z k = (r, (k : Int))) := by
        constructor
        · unfold qv; rw [hy, HS.out, hP, hd]
        · unfold rp rs; rw [hy, HS.out, hP, hr]
      have HCut : Hid (∀ w, Calls Try.prog 97 #[.int .i64 P, .int .i64 S] w fun e w' => e = .returned (.agg #[.int .i64 d, .int .i64 r, .int .i64 S, .bool bb]) ∧ Below w.heap.size w w') := fun w => cutOf_eq P S d r bb w (by omega) (by omega) (by omega) (by omega) hd hr hbb
      have hwl := HW.out.2.1.lt
      clear hy hd hr hbb hyb
      go_wp2_with (go_at_call 97; refine (HCut.out _).mono ?_; rintro e w1 ⟨rfl, b1⟩; have x1 := (HW.out.1.on b1).cell hlt; have x2 := ((HW.out.2.1.below b1 HW.out.2.1.lt).cell hlt).1; have x3 := ((HW.out.2.1.below b1 HW.out.2.1.lt).cell hlt).2; have f1 := (HW.out.1.on b1).fr k; have f2 := (HW.out.2.1.below b1 HW.out.2.1.lt).fr (k * 2); have f3 := (HW.out.2.1.below b1 HW.out.2.1.lt).fr (k * 2 + 1); have hws : w.heap.size + 1 < w1.heap.size := Nat.lt_of_lt_of_le hwl b1.size; have n1 : w.heap.size ≠ w1.heap.size := (by omega); have n2 : w1.heap.size ≠ w.heap.size := (by omega); have n3 : w.heap.size + 1 ≠ w1.heap.size := (by omega); have n4 : w1.heap.size ≠ w.heap.size + 1 := (by omega); have n0 : w.heap.size < w1.heap.size := (by omega); have HW1 : Hid (IB w1 w.heap.size N 3 (pq (qv T N z) k) ∧ RB w1 (w.heap.size + 1) N 128 (pr (rp T N z) k) ∧ Below w.heap.size w w1) := ⟨HW.out.1.on b1, HW.out.2.1.below b1 HW.out.2.1.lt, bel_on HW.out.2.2 b1⟩; clear b1)
      go_roundw
      case rel =>
        obtain ⟨a1, a2, a3⟩ := HW1.out
        have q1 := HQ.out.1
        have q2 := HQ.out.2
        refine ⟨k + 1, by omega, by go_num, ?_, ?_, ?_⟩
        · refine IB.congr (((((a1.set hlt d).other (c := w.heap.size + 1) _ (by omega)).other (c := w.heap.size + 1) _ (by omega)).alloc _)) (fun j _ => ?_)
          rw [pq_step, q1]
        · refine RB.congr ((((a2.other (c := w.heap.size) _ (by omega)).set hlt r (k : Int)).alloc _)) (fun j _ => ?_)
          rw [pr_step, q2]
        · exact (((a3.setCell (Nat.le_refl _) _).setCell (Nat.le_succ _) _).setCell (Nat.le_succ _) _).alloc (by simp; omega) _
      case measure => simp [intOf]; omega
    · obtain rfl : k = N := by omega
      have lkk : ¬ (k : Int) < (k : Int) := by omega
      obtain ⟨a1, a2, a3⟩ := HW.out
      have HA : Hid (IB wr w.heap.size k 3 (qv T k z)) := a1.congr (fun j hj => by unfold pq; rw [if_pos hj])
      have HG : Hid (RB wr (w.heap.size + 1) k 128 (rp T k z)) := a2.congr (fun j hj => by unfold pr; rw [if_pos hj])
      have HB : Hid (Below w.heap.size w wr) := a3
      have HD : Hid (∀ i j, i < k → j < k → i ≠ j → (rp T k z i).2 ≠ (rp T k z j).2) := fun i j _ _ h q => h (by unfold rp at q; simp only at q; omega)
      obtain ⟨Q, hQ⟩ : ∃ Q, sm (qv T k z) k = Q := ⟨_, rfl⟩
      obtain ⟨L, hL⟩ : ∃ L, T - Q = L := ⟨_, rfl⟩
      have hQb : SmB (qv T k z) k := fun e he => by
        have := sm_bound (z := qv T k z) (M := 100000000000) (by omega) (fun j hj => qv_bd HOk.out hj) 0 e (Nat.zero_le _) he
        rw [show sm (qv T k z) 0 = 0 from rfl] at this
        omega
      have HQB : Hid (SmB (qv T k z) k) := hQb
      have hQ2 := hQb k (Nat.le_refl _)
      rw [hQ] at hQ2
      obtain ⟨hQ3, hQ4⟩ := hQ2
      have hLe : lf T k z = L := by unfold lf; rw [hQ, hL]
      have HQ : Hid (sm (qv T k z) k = Q) := hQ
      have HL : Hid (lf T k z = L) := hLe
      have hLb : -200 ≤ L ∧ L ≤ 200 := by have := HK.out; rw [hLe] at this; omega
      obtain ⟨hL1, hL2⟩ := hLb
      clear a1 a2 a3 HW hQb hQ hLe
      go_wp2_with (first
        | (go_at_call 98; refine (sortBy_any _ _ _ _ _ _ (by omega) HG.out HD.out).mono ?_; rintro e w2 ⟨rfl, g, ⟨g1, g2, g3⟩, g4⟩; have HG2 : Hid (RB w2 (w.heap.size + 1) k 128 g ∧ PermOn 0 k (rp T k z) g ∧ SortedOn ltR g 0 k) := ⟨g1, g2, g4⟩; have HA2 : Hid (IB w2 w.heap.size k 3 (qv T k z)) := HA.out.below g3 (Nat.lt_succ_self _); have HB2 : Hid (Below w.heap.size w w2) := HB.out.trans (g3.mono (Nat.le_succ _)); clear g1 g2 g3 g4)
        | (go_at_call 96; refine (sum_any _ _ _ (qv T k z) _ hN HA2.out.ir HQB.out).mono ?_; rintro e w' ⟨rfl, ew⟩; replace ew := ew.symm; subst ew; rw [HQ.out])
        | (go_at_call 100
           obtain ⟨p, p1, p2⟩ := give_eq HOk.out HG2.out.2.1 HG2.out.2.2
           obtain ⟨k1, k2, k3⟩ := HK.out
           have hx : (L = (K : Int) ∧ on1 L = 1) ∨ (L = -(K : Int) ∧ L < 0 ∧ on1 L = -1) := (by
             rw [HL.out] at k3
             rcases k3 with ⟨e1, e2⟩ | ⟨e1, e2⟩
             · exact .inl ⟨e1, by unfold on1; rw [if_neg (by omega)]⟩
             · exact .inr ⟨e1, e2, by unfold on1; rw [if_pos e2]⟩)
           have ho : ∀ i, i ≤ K → ∀ j, -200000000000 ≤ gs (on1 L) p (fun j => if j < k then qv T k z j else 0) i j ∧ gs (on1 L) p (fun j => if j < k then qv T k z j else 0) i j ≤ 200000000000 := (fun i hi j => by
             have h5 := gs_bd p (one := on1 L) (o := fun j => if j < k then qv T k z j else 0) (M := 100000000000) (by rcases hx with e | e; exact .inl e.2; exact .inr e.2.2) (fun j => by
               show _ ≤ (if j < k then qv T k z j else 0) ∧ (if j < k then qv T k z j else 0) ≤ _
               split
               · exact qv_bd HOk.out (by assumption)
               · omega) i j
             omega)
           refine (giveLeft_any w.heap.size (w.heap.size + 1) k _ 128 (fun j => if j < k then qv T k z j else 0) g p K L (on1 L) _ (by omega) (by omega) (Nat.lt_succ_self _) (HA2.out.congr (fun j hj => if_pos hj)) HG2.out.1 p1 ho hx).mono ?_
           rintro e w3 ⟨rfl, r1, r2⟩
           have HF : Hid (IB w3 w.heap.size k 3 (shV T k z) ∧ Below w.heap.size w w3) := ⟨r1.congr (fun j hj => by
             unfold shV
             rw [k2, HL.out, p2 _ _ K (by omega)]
             exact gs_congr (fun i hi => (p1 i (by omega)).1) (fun j hj => (if_pos hj).symm) K (by omega) j hj), HB2.out.trans r2⟩
           clear r1 r2 hx ho p1 p2 k1 k2 k3))
      go_returns
      exact ⟨_, _, rfl, HF.out.1.own (Nat.le_refl _) (by omega), HF.out.2⟩
end Go.Proofs.Ytdgccdlaokbnhaa.Sh

namespace Go.Proofs.Ytdgccdlaokbnhaa.Sh
open Go.ChangeShapes Go.WideShapes Go.ChangeAt Go.RowKit
set_option linter.unusedVariables false
set_option linter.unusedSimpArgs false

theorem cell_one_at {w : World} {b : Nat} {x : Value} {t : TypeId} (hb : w.heap.size = b) : ∀ j u, [x][j]? = some u → (w.alloc (.cells #[x] t (0, 0))).cell? ((⟨b, 0, none⟩ : Addr).add j) = some u := by
  subst hb
  intro j u h
  have hj : j = 0 := by
    rcases j with _ | j
    · rfl
    · simp at h
  subst hj
  simp at h
  subst h
  exact ((CB.new (w := w) #[x] t).cell 0).trans rfl

theorem none_own2 (w : World) (o : Obj) : ((w.alloc o).alloc (.cells #[] 3 (0, 0))).ownsRow w.heap.size 3 1 (.slice (some ⟨w.heap.size + 1, 0, none⟩) 0 0) 0 [] := by
  have := none_own (w.alloc o)
  rw [show (w.alloc o).heap.size = w.heap.size + 1 by simp] at this
  exact row_lower this (by omega)

/-- Two rows of the call's own that share no memory. -/
def Two (base : Nat) (w : World) (u : Value) (n : Nat) (xs : List Value) (v : Value) (m : Nat) (ys : List Value) : Prop :=
  w.ownsRow base 3 1 u n xs ∧ w.ownsRow base 3 1 v m ys ∧ ∀ g h, u.ownBlock = some g → v.ownBlock = some h → g ≠ h
section
variable {base n m n' : Nat} {w w' : World} {u v u' : Value} {xs ys xs' : List Value}
theorem Two.swap (H : Two base w u n xs v m ys) : Two base w v m ys u n xs := ⟨H.2.1, H.1, fun g h h1 h2 e => H.2.2 h g h2 h1 e.symm⟩
theorem Two.below (H : Two base w u n xs v m ys) (k : Below w.heap.size w w') : Two base w' u n xs v m ys := ⟨row_below H.1 k, row_below H.2.1 k, H.2.2⟩
theorem alloc_old (w : World) (o : Obj) {g : Nat} (h : g < w.heap.size) : (w.alloc o).heap[g]? = w.heap[g]? := ((Below.refl w.heap.size w).alloc (Nat.le_refl _) o).block g h
theorem Two.app {o : Obj} (H : Two base w u n xs v m ys) (hown : w'.ownsRow base 3 1 u' n' xs') (hg : (w.alloc o).grownBy w' u.ownBlock) (hl : u'.ownBlock = u.ownBlock ∨ u'.ownBlock = some (w.alloc o).heap.size) : Two base w' u' n' xs' v m ys := by
  refine ⟨hown, row_block H.2.1 (fun g e => ?_), fun g h h1 h2 => ?_⟩
  · have hlt := (H.2.1.lt g e).2
    exact (hg.block g (by simp; omega) (fun q => H.2.2 g g q.symm e rfl)).trans (alloc_old w o hlt)
  · rcases hl with q | q
    · exact H.2.2 g h (q ▸ h1) h2
    · have hlt := (H.2.1.lt h h2).2
      rw [q] at h1
      simp at h1
      omega
theorem Two.set {g cap j : Nat} {x : Value} (H : Two base w (.slice (some ⟨g, 0, none⟩) n cap) n xs v m ys) : Two base (w.setCell ⟨g, j, none⟩ x) (.slice (some ⟨g, 0, none⟩) n cap) n (xs.set j x) v m ys :=
  ⟨(H.1.stored j x).1, row_block H.2.1 (fun h e => heap_set (fun q => H.2.2 g h rfl e q.symm)), H.2.2⟩
end
theorem intL_set {o : Nat → Int} {n j : Nat} (x : Int) (hj : j < n) : (intL o n).set j (.int .i64 x) = intL (upd o j x) n := by
  apply List.ext_getElem?
  intro i
  rw [List.getElem?_set, intL_len]
  by_cases e : j = i
  · subst e; rw [if_pos rfl, if_pos hj, intL_get hj, upd_eq]
  · rw [if_neg e]
    by_cases hi : i < n
    · rw [intL_get hi, intL_get hi, upd_ne (by omega)]
    · rw [List.getElem?_eq_none (by rw [intL_len]; omega), List.getElem?_eq_none (by rw [intL_len]; omega)]

theorem gst_bd {one : Int} {N : Nat} {o r : Nat → Int} {M : Int} (h1 : one = 1 ∨ one = -1) (hN : 0 < N) (h : ∀ j, j < N → -M ≤ o j ∧ o j ≤ M) : ∀ (k j : Nat), j < N → -(M + k) ≤ (gst one N o r k).1 j ∧ (gst one N o r k).1 j ≤ M + k
  | 0, j, hj => by have := h j hj; rw [gst]; simp; omega
  | k + 1, j, hj => by
    have i1 := gst_bd (r := r) h1 hN h k _ (bst_lt (gst one N o r k).2 N hN)
    have i2 := gst_bd (r := r) h1 hN h k j hj
    rw [gst]; simp only; unfold upd
    split <;> omega

theorem l1In_any (x lo hi : Int) (w : World) : Calls Try.prog 60 #[.int .i64 x, .int .i64 lo, .int .i64 hi] w fun e w' => e = .returned (.bool (inB x lo hi)) ∧ w' = w := by
  go_enter Try.func60, Try.ntmps60
  go_wp2
  all_goals go_returns
  all_goals exact ⟨ret_bool (by unfold inB; rw [Bool.eq_iff_iff]; simp; try omega), rfl⟩
theorem l1Amount_eq {x : Int} {v : Bool} (w : World) (h : inB x (-100000000000) 100000000000 = v) : Calls Try.prog 69 #[.int .i64 x] w fun e w' => e = .returned (.bool v) ∧ w' = w := by
  subst h
  go_enter Try.func69, Try.ntmps69
  go_wp2_with (go_at_call 60; refine (l1In_any _ _ _ _).mono ?_; rintro e w' ⟨rfl, ew⟩; replace ew := ew.symm; subst ew)
  go_returns
  exact ⟨rfl, rfl⟩
theorem l1Factor_eq {x : Int} {v : Bool} (w : World) (h : inB x 0 10000000 = v) : Calls Try.prog 101 #[.int .i64 x] w fun e w' => e = .returned (.bool v) ∧ w' = w := by
  subst h
  go_enter Try.func101, Try.ntmps101
  go_wp2_with (go_at_call 60; refine (l1In_any _ _ _ _).mono ?_; rintro e w' ⟨rfl, ew⟩; replace ew := ew.symm; subst ew)
  go_returns
  exact ⟨rfl, rfl⟩
theorem l1Abs_eq (x v : Int) (w : World) (h0 : -1000000000000000000 ≤ x) (h1 : x ≤ 1000000000000000000) (h : v = if x < 0 then -x else x) : Calls Try.prog 102 #[.int .i64 x] w fun e w' => e = .returned (.int .i64 v) ∧ w' = w := by
  subst h
  by_cases g : x < 0
  · rw [if_pos g]
    go_enter Try.func102, Try.ntmps102
    go_wp2
    go_returns
    exact ⟨rfl, rfl⟩
  · rw [if_neg g]
    go_enter Try.func102, Try.ntmps102
    go_wp2
    go_returns
    exact ⟨rfl, rfl⟩

set_option maxRecDepth 20000 in
set_option maxHeartbeats 8000000 in
theorem specShares_any (T : Int) (ad : Option Addr) (N cap : Nat) (z : Nat → Int) (w : World) (hN : (N : Int) ≤ 1048576) (hr : IR w ad N z) :
    Calls Try.prog 76 #[.int .i64 T, .slice ad N cap] w (NewI (shM T N z) (intL (shV T N z) (shM T N z)) w) := by
  have HR : Hid (IR w ad N z) := hr
  have HY1 : Hid (Below w.heap.size w (w.alloc (.cells #[] 3 (0, 0)))) := (Below.refl _ _).alloc (Nat.le_refl _) _
  clear hr
  by_cases hT : -100000000000 ≤ T ∧ T ≤ 100000000000
  case neg =>
    rw [shM_no (fun q => hT q.1)]
    have hb := inB_f hT
    clear hT
    go_enter Try.func76, Try.ntmps76
    go_wp2_with (go_at_call 69; refine (l1Amount_eq _ hb).mono ?_; rintro e w' ⟨rfl, ew⟩; replace ew := ew.symm; subst ew)
    go_returns
    exact ⟨_, _, rfl, none_own w, HY1.out⟩
  have hb := inB_t hT.1 hT.2
  by_cases hn : N ≤ 200
  case neg =>
    rw [shM_no (fun q => hn q.2.1)]
    have l1 : (N : Int) > 200 := by omega
    clear hT
    go_enter Try.func76, Try.ntmps76
    go_wp2_with (go_at_call 69; refine (l1Amount_eq _ hb).mono ?_; rintro e w' ⟨rfl, ew⟩; replace ew := ew.symm; subst ew)
    go_returns
    exact ⟨_, _, rfl, none_own w, HY1.out⟩
  have l1 : ¬ (N : Int) > 200 := by omega
  have l1b : (N : Int) ≤ 200 := by omega
  obtain ⟨hT1, hT2⟩ := hT
  obtain ⟨i0, hi, hz0, hz1, hz2⟩ := info3
  go_enter Try.func76, Try.ntmps76
  go_wp2_with (go_at_call 69; refine (l1Amount_eq _ hb).mono ?_; rintro e w' ⟨rfl, ew⟩; replace ew := ew.symm; subst ew)
  go_loop [6, 7] (fun u v => ∃ (k : Nat) (s : Int), k ≤ N ∧ v = .int .i64 (k : Int) ∧ u = .int .i64 s ∧ 0 ≤ s ∧ s ≤ 2000000000 ∧ Hid (s = sm z k ∧ ∀ j, j < k → 0 ≤ z j ∧ z j ≤ 10000000)) (fun u v => N - (intOf v).toNat)
  case atStart => exact ⟨0, 0, Nat.zero_le _, rfl, rfl, Int.le_refl _, by omega, rfl, fun j hj => by omega⟩
  case round =>
    obtain ⟨k, s, hk, rfl, rfl, hs1, hs2, hs⟩ := hrel
    by_cases hlt : k < N
    · obtain ⟨kb, off, rfl, _⟩ := HR.out.addr (by omega)
      have c1 := (HR.out.below HY1.out).cell hlt
      have hlt2 : (k : Int) < (N : Int) := by omega
      obtain ⟨y, hy⟩ : ∃ y, z k = y := ⟨_, rfl⟩
      rw [hy] at c1
      have HY : Hid (z k = y) := hy
      clear hy
      by_cases hf : 0 ≤ y ∧ y ≤ 10000000
      · have hb2 := inB_t hf.1 hf.2
        have HS : Hid (s + y = sm z (k + 1) ∧ ∀ j, j < k + 1 → 0 ≤ z j ∧ z j ≤ 10000000) := ⟨by rw [sm_succ, HY.out, ← hs.out.1], fun j hj => by
          by_cases e : j = k
          · rw [e, HY.out]; exact hf
          · exact hs.out.2 j (by omega)⟩
        have hs3 : s + y ≤ 2000000000 := by have := fac_sum (N := k + 1) (by omega) HS.out.2 (Nat.le_refl _); rw [← HS.out.1] at this; exact this.2
        obtain ⟨hf1, hf2⟩ := hf
        go_wp2_with (go_at_call 101; refine (l1Factor_eq _ hb2).mono ?_; rintro e w' ⟨rfl, ew⟩; replace ew := ew.symm; subst ew)
        go_round
        case rel => exact ⟨k + 1, s + y, by omega, by go_num, by go_num, by omega, hs3, HS⟩
        case measure => simp [intOf]; omega
      · have hb2 := inB_f hf
        have HF : Hid (shM T N z = 0) := shM_no (fun q => hf (HY.out ▸ q.2.2.1 k hlt))
        clear hf
        go_wp2_with (go_at_call 101; refine (l1Factor_eq _ hb2).mono ?_; rintro e w' ⟨rfl, ew⟩; replace ew := ew.symm; subst ew)
        go_returns
        rw [HF.out]
        exact ⟨_, _, rfl, none_own w, HY1.out⟩
    · obtain rfl : k = N := by omega
      have lkk : ¬ (k : Int) < (k : Int) := by omega
      by_cases hs0 : s = 0
      · have e0 : (s == 0) = true := by simpa using hs0
        have HF : Hid (shM T k z = 0) := shM_no (fun q => by have := q.2.2.2; rw [← hs.out.1] at this; omega)
        go_wp2
        go_returns
        rw [HF.out]
        exact ⟨_, _, rfl, none_own w, HY1.out⟩
      have e0 : (s == 0) = false := by simpa using hs0
      have HOk : Hid (ShOk T k z) := ⟨⟨hT1, hT2⟩, hn, hs.out.2, by rw [← hs.out.1]; omega⟩
      have HS : Hid (sm z k = s) := hs.out.1.symm
      have HZ : Hid (∀ j, j < k → 0 ≤ z j ∧ z j ≤ 10000000) := hs.out.2
      have hs3 : 1 ≤ s := by omega
      have HK : Hid (∃ K : Nat, K < k ∧ (lf T k z).natAbs = K ∧ ((lf T k z = (K : Int) ∧ 0 ≤ lf T k z) ∨ (lf T k z = -(K : Int) ∧ lf T k z < 0))) := by
        obtain ⟨K, k1, k2, k3, _⟩ := lf_bd HOk.out
        exact ⟨K, k1, k2, k3⟩
      have HQ : Hid (∀ j, j < k → -100000000000 ≤ qv T k z j ∧ qv T k z j ≤ 100000000000) := fun j hj => qv_bd HOk.out hj
      clear hs hs0 hs1
      go_wp2
      go_loopw [5, 8, 9, 10] (fun u v x y wr => ∃ (i : Nat) (L : Int) (adu adv : Option Addr) (cu cv : Nat), i ≤ k ∧ y = .int .i64 (i : Int) ∧ x = .int .i64 L ∧ u = .slice adu i cu ∧ v = .slice adv i cv ∧ -30000000000000 ≤ L ∧ L ≤ 30000000000000 ∧ Hid (L = T - sm (qv T k z) i) ∧ Hid (Two w.heap.size wr (.slice adu i cu) i (intL (qv T k z) i) (.slice adv i cv) i (intL (rs T k z) i) ∧ Below w.heap.size w wr)) (fun _ _ _ y _ => k - (intOf y).toNat)
      case atStart =>
        refine ⟨0, T, _, _, _, _, Nat.zero_le _, rfl, rfl, rfl, rfl, by omega, by omega, by show T = T - 0; omega, ⟨row_below (none_own w) ((Below.refl _ _).alloc (Nat.le_refl _) _), none_own2 w _, fun g h h1 h2 => ?_⟩, ((Below.refl _ _).alloc (Nat.le_refl _) _).alloc (by simp) _⟩
        simp [Value.ownBlock] at h1 h2
        omega
      case round =>
        obtain ⟨i, L, adu, adv, cu, cv, hi1, rfl, rfl, rfl, rfl, hL1, hL2, HL, HW⟩ := hrel
        by_cases hlt2 : i < k
        · have hlt3 : (i : Int) < (k : Int) := by omega
          obtain ⟨kb, off, rfl, _⟩ := HR.out.addr (by omega)
          have c1 := (HR.out.below HW.out.2).cell hlt2
          obtain ⟨y, hy⟩ : ∃ y, z i = y := ⟨_, rfl⟩
          have hyb := HZ.out i hlt2
          rw [hy] at c1 hyb
          obtain ⟨P, hP⟩ : ∃ P, T * y = P := ⟨_, rfl⟩
          have hPb := mul_bd T y 100000000000 10000000 hT1 hT2 hyb.1 hyb.2 (by omega)
          rw [hP] at hPb
          obtain ⟨hP1, hP2⟩ := hPb
          have hP3 : -1000000000000000000 ≤ P := by omega
          have hP4 : P ≤ 1000000000000000000 := by omega
          obtain ⟨fc0, fc1, fcp, fcn⟩ := cut_facts P s hs3
          obtain ⟨d, hd⟩ : ∃ d, P.tdiv s = d := ⟨_, rfl⟩
          obtain ⟨r, hr⟩ : ∃ r, cr P s = r := ⟨_, rfl⟩
          rw [hd, hr] at fcp fcn
          rw [hr] at fc0 fc1
          have HQi : Hid (qv T k z i = d ∧ rs T k z i = r) := by
            constructor
            · unfold qv; rw [hy, HS.out, hP, hd]
            · unfold rs; rw [hy, HS.out, hP, hr]
          have hdb := HQ.out i hlt2
          rw [HQi.out.1] at hdb
          obtain ⟨hd1, hd2⟩ := hdb
          have HLn : Hid (L - d = T - sm (qv T k z) (i + 1)) := by show _ = _; rw [sm_succ, HQi.out.1, HL.out]; omega
          have hLb : -30000000000000 ≤ L - d ∧ L - d ≤ 30000000000000 := by
            rw [HLn.out]
            have := sm_bound (z := qv T k z) (M := 100000000000) (by omega) HQ.out 0 (i + 1) (Nat.zero_le _) (by omega)
            rw [show sm (qv T k z) 0 = 0 from rfl] at this
            omega
          obtain ⟨hL3, hL4⟩ := hLb
          have hsz := HW.out.2.size
          have HH : Hid (P.tdiv s = d) := hd
          clear hy hr hyb hP1 hP2 HL
          rcases (show P < 0 ∧ r = 0 ∨ P < 0 ∧ 0 < r ∨ 0 ≤ P by omega) with ⟨p0, r0⟩ | ⟨p0, r0⟩ | p0
          · subst r0
            obtain ⟨n1, n2, n3, n4⟩ := fcn p0
            clear n4
            have tok1 : True := trivial
            clear fcp fcn
            go_wp2_with (first
            | (at_builtin; have := tok1; clear this tok1; refine wpList_append_own_at _ rfl _ _ 27 rfl w.heap.size 3 i0 (.int .i64 0) 1 8 Try.underlying27 hi hz0 hz1 hz2 rfl (by decide) (.slice adu i cu) i (intL (qv T k z) i) rfl (row_below HW.out.1.1 ((Below.refl _ _).alloc (Nat.le_refl _) _)) ⟨wr.heap.size, 0, none⟩ 1 1 [.int .i64 d] rfl rfl (cell_one_at rfl) (fun x hx => by simp at hx; subst hx; rfl) (by unfold maxLen; omega) (by omega) (by simp; omega) ?_
               intro u' w3 hown' hgrow3 _ hloc3
               obtain ⟨adu', cu', rfl⟩ := row_form hown'
               have hown2 : w3.ownsRow w.heap.size 3 1 (.slice adu' (i + 1) cu') (i + 1) (intL (qv T k z) (i + 1)) := (by rw [intL_succ, HQi.out.1]; exact hown')
               have HW3 : Hid (Two w.heap.size w3 (.slice adu' (i + 1) cu') (i + 1) (intL (qv T k z) (i + 1)) (.slice adv i cv) i (intL (rs T k z) i) ∧ Below w.heap.size w w3) := ⟨HW.out.1.app hown2 hgrow3 hloc3, Below.grown (HW.out.2.alloc HW.out.2.size _) hgrow3 (by simp; omega) (fun j hj => (HW.out.1.1.lt _ hj).1)⟩
               have hsz3 := HW3.out.2.size
               clear hown' hown2 hgrow3 hloc3)
            | (go_at_call 102; refine (l1Abs_eq _ 0 _ (by omega) (by omega) (by split <;> omega)).mono ?_; rintro e w' ⟨rfl, ew⟩; replace ew := ew.symm; subst ew)
            | (at_builtin; have := HW3; refine wpList_append_own_at _ rfl _ _ 27 rfl w.heap.size 3 i0 (.int .i64 0) 1 8 Try.underlying27 hi hz0 hz1 hz2 rfl (by decide) (.slice adv i cv) i (intL (rs T k z) i) rfl (row_below HW3.out.1.2.1 ((Below.refl _ _).alloc (Nat.le_refl _) _)) ⟨w3.heap.size, 0, none⟩ 1 1 [.int .i64 0] rfl rfl (cell_one_at rfl) (fun x hx => by simp at hx; subst hx; rfl) (by unfold maxLen; omega) (by omega) (by simp; omega) ?_
               intro v' w5 hown' hgrow5 _ hloc5
               obtain ⟨adv', cv', rfl⟩ := row_form hown'
               have hown2 : w5.ownsRow w.heap.size 3 1 (.slice adv' (i + 1) cv') (i + 1) (intL (rs T k z) (i + 1)) := (by rw [intL_succ, HQi.out.2]; exact hown')
               have HW5 : Hid (Two w.heap.size w5 (.slice adu' (i + 1) cu') (i + 1) (intL (qv T k z) (i + 1)) (.slice adv' (i + 1) cv') (i + 1) (intL (rs T k z) (i + 1)) ∧ Below w.heap.size w w5) := ⟨(HW3.out.1.swap.app hown2 hgrow5 hloc5).swap, Below.grown (HW3.out.2.alloc HW3.out.2.size _) hgrow5 (by simp; omega) (fun j hj => (HW3.out.1.2.1.lt _ hj).1)⟩
               clear hown' hown2 hgrow5 hloc5))
            go_roundw
            case rel => exact ⟨i + 1, L - d, _, _, _, _, by omega, by go_num, by go_num, rfl, rfl, hL3, hL4, HLn, HW5⟩
            case measure => simp [intOf]; omega
          · obtain ⟨n1, n2, n3, n4⟩ := fcn p0
            clear n4
            have tok1 : True := trivial
            clear fcp fcn
            go_wp2_with (first
            | (at_builtin; have := tok1; clear this tok1; refine wpList_append_own_at _ rfl _ _ 27 rfl w.heap.size 3 i0 (.int .i64 0) 1 8 Try.underlying27 hi hz0 hz1 hz2 rfl (by decide) (.slice adu i cu) i (intL (qv T k z) i) rfl (row_below HW.out.1.1 ((Below.refl _ _).alloc (Nat.le_refl _) _)) ⟨wr.heap.size, 0, none⟩ 1 1 [.int .i64 d] rfl rfl (cell_one_at rfl) (fun x hx => by simp at hx; subst hx; rfl) (by unfold maxLen; omega) (by omega) (by simp; omega) ?_
               intro u' w3 hown' hgrow3 _ hloc3
               obtain ⟨adu', cu', rfl⟩ := row_form hown'
               have hown2 : w3.ownsRow w.heap.size 3 1 (.slice adu' (i + 1) cu') (i + 1) (intL (qv T k z) (i + 1)) := (by rw [intL_succ, HQi.out.1]; exact hown')
               have HW3 : Hid (Two w.heap.size w3 (.slice adu' (i + 1) cu') (i + 1) (intL (qv T k z) (i + 1)) (.slice adv i cv) i (intL (rs T k z) i) ∧ Below w.heap.size w w3) := ⟨HW.out.1.app hown2 hgrow3 hloc3, Below.grown (HW.out.2.alloc HW.out.2.size _) hgrow3 (by simp; omega) (fun j hj => (HW.out.1.1.lt _ hj).1)⟩
               have hsz3 := HW3.out.2.size
               clear hown' hown2 hgrow3 hloc3)
            | (go_at_call 102; refine (l1Abs_eq _ r _ (by omega) (by omega) (by split <;> omega)).mono ?_; rintro e w' ⟨rfl, ew⟩; replace ew := ew.symm; subst ew)
            | (at_builtin; have := HW3; refine wpList_append_own_at _ rfl _ _ 27 rfl w.heap.size 3 i0 (.int .i64 0) 1 8 Try.underlying27 hi hz0 hz1 hz2 rfl (by decide) (.slice adv i cv) i (intL (rs T k z) i) rfl (row_below HW3.out.1.2.1 ((Below.refl _ _).alloc (Nat.le_refl _) _)) ⟨w3.heap.size, 0, none⟩ 1 1 [.int .i64 r] rfl rfl (cell_one_at rfl) (fun x hx => by simp at hx; subst hx; rfl) (by unfold maxLen; omega) (by omega) (by simp; omega) ?_
               intro v' w5 hown' hgrow5 _ hloc5
               obtain ⟨adv', cv', rfl⟩ := row_form hown'
               have hown2 : w5.ownsRow w.heap.size 3 1 (.slice adv' (i + 1) cv') (i + 1) (intL (rs T k z) (i + 1)) := (by rw [intL_succ, HQi.out.2]; exact hown')
               have HW5 : Hid (Two w.heap.size w5 (.slice adu' (i + 1) cu') (i + 1) (intL (qv T k z) (i + 1)) (.slice adv' (i + 1) cv') (i + 1) (intL (rs T k z) (i + 1)) ∧ Below w.heap.size w w5) := ⟨(HW3.out.1.swap.app hown2 hgrow5 hloc5).swap, Below.grown (HW3.out.2.alloc HW3.out.2.size _) hgrow5 (by simp; omega) (fun j hj => (HW3.out.1.2.1.lt _ hj).1)⟩
               clear hown' hown2 hgrow5 hloc5))
            go_roundw
            case rel => exact ⟨i + 1, L - d, _, _, _, _, by omega, by go_num, by go_num, rfl, rfl, hL3, hL4, HLn, HW5⟩
            case measure => simp [intOf]; omega
          · obtain ⟨n1, n2, n3, n4, n5⟩ := fcp p0
            clear n5
            have tok1 : True := trivial
            clear fcp fcn
            go_wp2_with (first
            | (at_builtin; have := tok1; clear this tok1; refine wpList_append_own_at _ rfl _ _ 27 rfl w.heap.size 3 i0 (.int .i64 0) 1 8 Try.underlying27 hi hz0 hz1 hz2 rfl (by decide) (.slice adu i cu) i (intL (qv T k z) i) rfl (row_below HW.out.1.1 ((Below.refl _ _).alloc (Nat.le_refl _) _)) ⟨wr.heap.size, 0, none⟩ 1 1 [.int .i64 d] rfl rfl (cell_one_at rfl) (fun x hx => by simp at hx; subst hx; rfl) (by unfold maxLen; omega) (by omega) (by simp; omega) ?_
               intro u' w3 hown' hgrow3 _ hloc3
               obtain ⟨adu', cu', rfl⟩ := row_form hown'
               have hown2 : w3.ownsRow w.heap.size 3 1 (.slice adu' (i + 1) cu') (i + 1) (intL (qv T k z) (i + 1)) := (by rw [intL_succ, HQi.out.1]; exact hown')
               have HW3 : Hid (Two w.heap.size w3 (.slice adu' (i + 1) cu') (i + 1) (intL (qv T k z) (i + 1)) (.slice adv i cv) i (intL (rs T k z) i) ∧ Below w.heap.size w w3) := ⟨HW.out.1.app hown2 hgrow3 hloc3, Below.grown (HW.out.2.alloc HW.out.2.size _) hgrow3 (by simp; omega) (fun j hj => (HW.out.1.1.lt _ hj).1)⟩
               have hsz3 := HW3.out.2.size
               clear hown' hown2 hgrow3 hloc3)
            | (go_at_call 102; refine (l1Abs_eq _ r _ (by omega) (by omega) (by split <;> omega)).mono ?_; rintro e w' ⟨rfl, ew⟩; replace ew := ew.symm; subst ew)
            | (at_builtin; have := HW3; refine wpList_append_own_at _ rfl _ _ 27 rfl w.heap.size 3 i0 (.int .i64 0) 1 8 Try.underlying27 hi hz0 hz1 hz2 rfl (by decide) (.slice adv i cv) i (intL (rs T k z) i) rfl (row_below HW3.out.1.2.1 ((Below.refl _ _).alloc (Nat.le_refl _) _)) ⟨w3.heap.size, 0, none⟩ 1 1 [.int .i64 r] rfl rfl (cell_one_at rfl) (fun x hx => by simp at hx; subst hx; rfl) (by unfold maxLen; omega) (by omega) (by simp; omega) ?_
               intro v' w5 hown' hgrow5 _ hloc5
               obtain ⟨adv', cv', rfl⟩ := row_form hown'
               have hown2 : w5.ownsRow w.heap.size 3 1 (.slice adv' (i + 1) cv') (i + 1) (intL (rs T k z) (i + 1)) := (by rw [intL_succ, HQi.out.2]; exact hown')
               have HW5 : Hid (Two w.heap.size w5 (.slice adu' (i + 1) cu') (i + 1) (intL (qv T k z) (i + 1)) (.slice adv' (i + 1) cv') (i + 1) (intL (rs T k z) (i + 1)) ∧ Below w.heap.size w w5) := ⟨(HW3.out.1.swap.app hown2 hgrow5 hloc5).swap, Below.grown (HW3.out.2.alloc HW3.out.2.size _) hgrow5 (by simp; omega) (fun j hj => (HW3.out.1.2.1.lt _ hj).1)⟩
               clear hown' hown2 hgrow5 hloc5))
            go_roundw
            case rel => exact ⟨i + 1, L - d, _, _, _, _, by omega, by go_num, by go_num, rfl, rfl, hL3, hL4, HLn, HW5⟩
            case measure => simp [intOf]; omega
        · obtain rfl : i = k := by omega
          have lkk2 : ¬ (i : Int) < (i : Int) := by omega
          obtain ⟨K, k1, k2, k3⟩ := HK.out
          have hL5 : L = lf T i z := HL.out
          have hi0 : 0 < i := by omega
          obtain ⟨⟨o1, o2, o3⟩, hB⟩ := HW.out
          obtain ⟨g1, cp1, e1, _⟩ := row_get o1 (j := 0) hi0
          obtain ⟨g2, cp2, e2, _⟩ := row_get o2 (j := 0) hi0
          simp only [Value.slice.injEq] at e1 e2
          obtain ⟨rfl, _, rfl⟩ := e1
          obtain ⟨rfl, _, rfl⟩ := e2
          have HT : Hid (Two w.heap.size wr (.slice (some ⟨g1, 0, none⟩) i cu) i (intL (qv T i z) i) (.slice (some ⟨g2, 0, none⟩) i cv) i (intL (rs T i z) i) ∧ Below w.heap.size w wr) := ⟨⟨o1, o2, o3⟩, hB⟩
          have hg12 : g1 ≠ g2 := o3 g1 g2 rfl rfl
          have hg21 : g2 ≠ g1 := fun q => hg12 q.symm
          rw [← hL5] at k2 k3
          have Hk2 : Hid (L.natAbs = K) := k2
          have HLL : Hid (lf T i z = L) := hL5.symm
          clear HW o1 o2 o3 hB hL5 HL hL1 hL2 k2
          rcases k3 with ⟨k3, k4⟩ | ⟨k3, k4⟩
          · subst k3
            have hon : Hid (on1 (K : Int) = 1) := by show on1 _ = _; unfold on1; rw [if_neg (by omega)]
            have hlr : ¬ (K : Int) < 0 := by omega
            go_wp2
            go_loopw [9] (fun x wq => ∃ (q : Nat) (M : Int), q ≤ K ∧ x = .int .i64 M ∧ M = (K : Int) - (q : Int) ∧ Hid (Two w.heap.size wq (.slice (some ⟨g1, 0, none⟩) i cu) i (intL (gst (1) i (qv T i z) (rs T i z) q).1 i) (.slice (some ⟨g2, 0, none⟩) i cv) i (intL (gst (1) i (qv T i z) (rs T i z) q).2 i) ∧ Below w.heap.size w wq)) (fun x _ => (intOf x).natAbs)
            case atStart => exact ⟨0, _, Nat.zero_le _, rfl, by simp, HT.out⟩
            case round =>
              clear HT
              rename_i wr0
              obtain ⟨q, M, hq, rfl, hM, HW⟩ := hrel
              by_cases hqK : q < K
              · have hM0 : (M != 0) = true := by simp; omega
                have hMb1 : -200 ≤ M := by omega
                have hMb2 : M ≤ 200 := by omega
                have HM : Hid (M = (K : Int) - (q : Int)) := hM
                obtain ⟨O, hO⟩ : ∃ O, (gst (1) i (qv T i z) (rs T i z) q).1 = O := ⟨_, rfl⟩
                obtain ⟨R, hR⟩ : ∃ R, (gst (1) i (qv T i z) (rs T i z) q).2 = R := ⟨_, rfl⟩
                have HG : Hid ((gst (1) i (qv T i z) (rs T i z) (q + 1)).1 = upd O (bst R i) (O (bst R i) + 1) ∧ (gst (1) i (qv T i z) (rs T i z) (q + 1)).2 = upd R (bst R i) (-1)) := by
                  rw [gst, hO, hR]; exact ⟨rfl, rfl⟩
                have hOb : ∀ j, j < i → -200000000000 ≤ O j ∧ O j ≤ 200000000000 := fun j hj => by
                  have := gst_bd (one := 1) (r := rs T i z) (M := 100000000000) (by omega) hi0 HQ.out q j hj
                  rw [hO] at this; omega
                have HOb : Hid (∀ j, j < i → -200000000000 ≤ O j ∧ O j ≤ 200000000000) := hOb
                rw [hO, hR] at HW
                clear hO hR hOb hM
                have lil : (1 : Int) ≤ (i : Int) := by omega
                go_wp2
                go_loopw [13, 14] (fun x y wv => ∃ (b j nq : Nat), x = .int .i64 (b : Int) ∧ y = .int .i64 (j : Int) ∧ 1 ≤ j ∧ j ≤ i ∧ b < i ∧ Hid (b = bst R j) ∧ wv = wr.drewN nq) (fun x y _ => i - (intOf y).toNat)
                case atStart => exact ⟨0, 1, 0, rfl, rfl, Nat.le_refl _, hi0, hi0, rfl, rfl⟩
                case round =>
                  rename_i wr1
                  obtain ⟨b, j, nq, rfl, rfl, hj1, hji, hbi, hbj, rfl⟩ := hrel
                  by_cases hj : j < i
                  · have hj2 : (j : Int) < (i : Int) := by omega
                    have hb2 : (b : Int) < (i : Int) := by omega
                    have x1 := (HW.out.1.2.1.cellAt j (by omega)).trans (intL_get hj)
                    have x2 := (HW.out.1.2.1.cellAt b (by omega)).trans (intL_get hbi)
                    obtain ⟨rj, hrj⟩ : ∃ rj, R j = rj := ⟨_, rfl⟩
                    obtain ⟨rb, hrb⟩ : ∃ rb, R b = rb := ⟨_, rfl⟩
                    rw [hrj] at x1
                    rw [hrb] at x2
                    by_cases hcmp : rb < rj
                    · have dc : decide (rb < rj) = true := decide_eq_true hcmp
                      have HN : Hid (j = bst R (j + 1)) := by
                        show _ = _
                        rw [bst_succ (by omega), ← hbj.out, hrj, hrb, if_pos hcmp]
                      clear hrj hrb hbj
                      go_wp2
                      go_quiet (fail)
                      go_wp2
                      go_roundw
                      case rel => exact ⟨j, j + 1, _, rfl, by go_num, by omega, by omega, hj, HN, rfl⟩
                      case measure => simp [intOf]; omega
                    · have dc : decide (rb < rj) = false := decide_eq_false hcmp
                      have HN : Hid (b = bst R (j + 1)) := by
                        show _ = _
                        rw [bst_succ (by omega), ← hbj.out, hrj, hrb, if_neg hcmp]
                      clear hrj hrb hbj
                      go_wp2
                      go_quiet (fail)
                      go_wp2
                      go_roundw
                      case rel => exact ⟨b, j + 1, _, rfl, by go_num, by omega, by omega, hbi, HN, rfl⟩
                      case measure => simp [intOf]; omega
                  · obtain rfl : j = i := by omega
                    have ljj : ¬ (j : Int) < (j : Int) := by omega
                    have hb2 : (b : Int) < (j : Int) := by omega
                    have x1 : (wr.drewN nq).cell? ⟨g1, b, none⟩ = _ := (HW.out.1.1.cellAt b (by omega)).trans (intL_get hbi)
                    have x2 : (wr.drewN nq).cell? ⟨g2, b, none⟩ = _ := (HW.out.1.2.1.cellAt b (by omega)).trans (intL_get hbi)
                    have f1 : (wr.drewN nq).frozen? ⟨g1, b, none⟩ = false := HW.out.1.1.frozenAt b
                    have f2 : (wr.drewN nq).frozen? ⟨g2, b, none⟩ = false := HW.out.1.2.1.frozenAt b
                    obtain ⟨v, hv⟩ : ∃ v, O b = v := ⟨_, rfl⟩
                    obtain ⟨rb, hrb⟩ : ∃ rb, R b = rb := ⟨_, rfl⟩
                    have hvb := HOb.out b hbi
                    rw [hv] at x1 hvb
                    rw [hrb] at x2
                    obtain ⟨hv1, hv2⟩ := hvb
                    have HN : Hid (Two w.heap.size (((wr.drewN nq).setCell ⟨g1, b, none⟩ (.int .i64 (v + 1))).setCell ⟨g2, b, none⟩ (.int .i64 (-1))) (.slice (some ⟨g1, 0, none⟩) j cu) j (intL (gst (1) j (qv T j z) (rs T j z) (q + 1)).1 j) (.slice (some ⟨g2, 0, none⟩) j cv) j (intL (gst (1) j (qv T j z) (rs T j z) (q + 1)).2 j) ∧ Below w.heap.size w (((wr.drewN nq).setCell ⟨g1, b, none⟩ (.int .i64 (v + 1))).setCell ⟨g2, b, none⟩ (.int .i64 (-1)))) := by
                      have hD : Two w.heap.size (wr.drewN nq) (.slice (some ⟨g1, 0, none⟩) j cu) j (intL O j) (.slice (some ⟨g2, 0, none⟩) j cv) j (intL R j) := HW.out.1
                      have hD2 := (hD.set (j := b) (x := .int .i64 (v + 1))).swap.set (j := b) (x := .int .i64 (-1))
                      rw [intL_set _ hbi, intL_set _ hbi] at hD2
                      rw [HG.out.1, HG.out.2, ← hbj.out, hv]
                      exact ⟨hD2.swap, ((belowN HW.out.2 nq).setCell (HW.out.1.1.lt g1 rfl).1 _).setCell (HW.out.1.2.1.lt g2 rfl).1 _⟩
                    clear hv hrb hbj HW HG
                    go_wp2
                    go_roundw
                    case rel => exact ⟨q + 1, M - 1, by omega, by go_num, by have := HM.out; omega, HN⟩
                    case measure => have := HM.out; simp [intOf]; omega
              · obtain rfl : q = K := by omega
                have hM0 : M = 0 := by omega
                subst hM0
                have HF : Hid (wr.ownsRow w.heap.size 3 1 (.slice (some ⟨g1, 0, none⟩) i cu) i (intL (shV T i z) i) ∧ Below w.heap.size w wr) := by
                  refine ⟨?_, HW.out.2⟩
                  have := HW.out.1.1
                  unfold shV; rw [HLL.out, Hk2.out, hon.out]; exact this
                clear HW hM hq hqK k1
                go_wp2
                go_returns
                rw [shM_ok HOk.out]
                exact ⟨_, _, rfl, HF.out.1, HF.out.2⟩
          · subst k3
            have hon : Hid (on1 (-(K : Int)) = -1) := by show on1 _ = _; unfold on1; rw [if_pos (by omega)]
            have hlr : -(K : Int) < 0 := by omega
            go_wp2
            go_loopw [9] (fun x wq => ∃ (q : Nat) (M : Int), q ≤ K ∧ x = .int .i64 M ∧ M = -((K : Int) - (q : Int)) ∧ Hid (Two w.heap.size wq (.slice (some ⟨g1, 0, none⟩) i cu) i (intL (gst (-1) i (qv T i z) (rs T i z) q).1 i) (.slice (some ⟨g2, 0, none⟩) i cv) i (intL (gst (-1) i (qv T i z) (rs T i z) q).2 i) ∧ Below w.heap.size w wq)) (fun x _ => (intOf x).natAbs)
            case atStart => exact ⟨0, _, Nat.zero_le _, rfl, by simp, HT.out⟩
            case round =>
              clear HT
              rename_i wr0
              obtain ⟨q, M, hq, rfl, hM, HW⟩ := hrel
              by_cases hqK : q < K
              · have hM0 : (M != 0) = true := by simp; omega
                have hMb1 : -200 ≤ M := by omega
                have hMb2 : M ≤ 200 := by omega
                have HM : Hid (M = -((K : Int) - (q : Int))) := hM
                obtain ⟨O, hO⟩ : ∃ O, (gst (-1) i (qv T i z) (rs T i z) q).1 = O := ⟨_, rfl⟩
                obtain ⟨R, hR⟩ : ∃ R, (gst (-1) i (qv T i z) (rs T i z) q).2 = R := ⟨_, rfl⟩
                have HG : Hid ((gst (-1) i (qv T i z) (rs T i z) (q + 1)).1 = upd O (bst R i) (O (bst R i) + -1) ∧ (gst (-1) i (qv T i z) (rs T i z) (q + 1)).2 = upd R (bst R i) (-1)) := by
                  rw [gst, hO, hR]; exact ⟨rfl, rfl⟩
                have hOb : ∀ j, j < i → -200000000000 ≤ O j ∧ O j ≤ 200000000000 := fun j hj => by
                  have := gst_bd (one := -1) (r := rs T i z) (M := 100000000000) (by omega) hi0 HQ.out q j hj
                  rw [hO] at this; omega
                have HOb : Hid (∀ j, j < i → -200000000000 ≤ O j ∧ O j ≤ 200000000000) := hOb
                rw [hO, hR] at HW
                clear hO hR hOb hM
                have lil : (1 : Int) ≤ (i : Int) := by omega
                go_wp2
                go_loopw [13, 14] (fun x y wv => ∃ (b j nq : Nat), x = .int .i64 (b : Int) ∧ y = .int .i64 (j : Int) ∧ 1 ≤ j ∧ j ≤ i ∧ b < i ∧ Hid (b = bst R j) ∧ wv = wr.drewN nq) (fun x y _ => i - (intOf y).toNat)
                case atStart => exact ⟨0, 1, 0, rfl, rfl, Nat.le_refl _, hi0, hi0, rfl, rfl⟩
                case round =>
                  rename_i wr1
                  obtain ⟨b, j, nq, rfl, rfl, hj1, hji, hbi, hbj, rfl⟩ := hrel
                  by_cases hj : j < i
                  · have hj2 : (j : Int) < (i : Int) := by omega
                    have hb2 : (b : Int) < (i : Int) := by omega
                    have x1 := (HW.out.1.2.1.cellAt j (by omega)).trans (intL_get hj)
                    have x2 := (HW.out.1.2.1.cellAt b (by omega)).trans (intL_get hbi)
                    obtain ⟨rj, hrj⟩ : ∃ rj, R j = rj := ⟨_, rfl⟩
                    obtain ⟨rb, hrb⟩ : ∃ rb, R b = rb := ⟨_, rfl⟩
                    rw [hrj] at x1
                    rw [hrb] at x2
                    by_cases hcmp : rb < rj
                    · have dc : decide (rb < rj) = true := decide_eq_true hcmp
                      have HN : Hid (j = bst R (j + 1)) := by
                        show _ = _
                        rw [bst_succ (by omega), ← hbj.out, hrj, hrb, if_pos hcmp]
                      clear hrj hrb hbj
                      go_wp2
                      go_quiet (fail)
                      go_wp2
                      go_roundw
                      case rel => exact ⟨j, j + 1, _, rfl, by go_num, by omega, by omega, hj, HN, rfl⟩
                      case measure => simp [intOf]; omega
                    · have dc : decide (rb < rj) = false := decide_eq_false hcmp
                      have HN : Hid (b = bst R (j + 1)) := by
                        show _ = _
                        rw [bst_succ (by omega), ← hbj.out, hrj, hrb, if_neg hcmp]
                      clear hrj hrb hbj
                      go_wp2
                      go_quiet (fail)
                      go_wp2
                      go_roundw
                      case rel => exact ⟨b, j + 1, _, rfl, by go_num, by omega, by omega, hbi, HN, rfl⟩
                      case measure => simp [intOf]; omega
                  · obtain rfl : j = i := by omega
                    have ljj : ¬ (j : Int) < (j : Int) := by omega
                    have hb2 : (b : Int) < (j : Int) := by omega
                    have x1 : (wr.drewN nq).cell? ⟨g1, b, none⟩ = _ := (HW.out.1.1.cellAt b (by omega)).trans (intL_get hbi)
                    have x2 : (wr.drewN nq).cell? ⟨g2, b, none⟩ = _ := (HW.out.1.2.1.cellAt b (by omega)).trans (intL_get hbi)
                    have f1 : (wr.drewN nq).frozen? ⟨g1, b, none⟩ = false := HW.out.1.1.frozenAt b
                    have f2 : (wr.drewN nq).frozen? ⟨g2, b, none⟩ = false := HW.out.1.2.1.frozenAt b
                    obtain ⟨v, hv⟩ : ∃ v, O b = v := ⟨_, rfl⟩
                    obtain ⟨rb, hrb⟩ : ∃ rb, R b = rb := ⟨_, rfl⟩
                    have hvb := HOb.out b hbi
                    rw [hv] at x1 hvb
                    rw [hrb] at x2
                    obtain ⟨hv1, hv2⟩ := hvb
                    have HN : Hid (Two w.heap.size (((wr.drewN nq).setCell ⟨g1, b, none⟩ (.int .i64 (v + -1))).setCell ⟨g2, b, none⟩ (.int .i64 (-1))) (.slice (some ⟨g1, 0, none⟩) j cu) j (intL (gst (-1) j (qv T j z) (rs T j z) (q + 1)).1 j) (.slice (some ⟨g2, 0, none⟩) j cv) j (intL (gst (-1) j (qv T j z) (rs T j z) (q + 1)).2 j) ∧ Below w.heap.size w (((wr.drewN nq).setCell ⟨g1, b, none⟩ (.int .i64 (v + -1))).setCell ⟨g2, b, none⟩ (.int .i64 (-1)))) := by
                      have hD : Two w.heap.size (wr.drewN nq) (.slice (some ⟨g1, 0, none⟩) j cu) j (intL O j) (.slice (some ⟨g2, 0, none⟩) j cv) j (intL R j) := HW.out.1
                      have hD2 := (hD.set (j := b) (x := .int .i64 (v + -1))).swap.set (j := b) (x := .int .i64 (-1))
                      rw [intL_set _ hbi, intL_set _ hbi] at hD2
                      rw [HG.out.1, HG.out.2, ← hbj.out, hv]
                      exact ⟨hD2.swap, ((belowN HW.out.2 nq).setCell (HW.out.1.1.lt g1 rfl).1 _).setCell (HW.out.1.2.1.lt g2 rfl).1 _⟩
                    clear hv hrb hbj HW HG
                    go_wp2
                    go_roundw
                    case rel => exact ⟨q + 1, M - -1, by omega, by go_num, by have := HM.out; omega, HN⟩
                    case measure => have := HM.out; simp [intOf]; omega
              · obtain rfl : q = K := by omega
                have hM0 : M = 0 := by omega
                subst hM0
                have HF : Hid (wr.ownsRow w.heap.size 3 1 (.slice (some ⟨g1, 0, none⟩) i cu) i (intL (shV T i z) i) ∧ Below w.heap.size w wr) := by
                  refine ⟨?_, HW.out.2⟩
                  have := HW.out.1.1
                  unfold shV; rw [HLL.out, Hk2.out, hon.out]; exact this
                clear HW hM hq hqK k1
                go_wp2
                go_returns
                rw [shM_ok HOk.out]
                exact ⟨_, _, rfl, HF.out.1, HF.out.2⟩
end Go.Proofs.Ytdgccdlaokbnhaa.Sh
