/- Shares, plain: the whole parts and rests, who gets what is left, and that the order of the rests tells just that. Nothing of the program. -/
import Derived.Test.YtjlniinahfgakaaRx
import Derived.Test.YtjlniinahfgakaaKl
import Derived.Test.YtjlniinahfgakaaDv
namespace Go.Proofs.Ytjlniinahfgakaa
open Go.RowKit
set_option linter.unusedVariables false

/-- Block b holds n whole numbers. -/
def IB (w : World) (b n : Nat) (t : TypeId) (o : Nat → Int) : Prop := ∃ cs, CB w b cs t ∧ cs.size = n ∧ ∀ j, j < n → cs[j]? = some (.int .i64 (o j))
def upd (f : Nat → Int) (i : Nat) (v : Int) (j : Nat) : Int := if j = i then v else f j
theorem upd_eq (f : Nat → Int) (i : Nat) (v : Int) : upd f i v i = v := if_pos rfl
theorem upd_ne {f : Nat → Int} {i j : Nat} {v : Int} (h : j ≠ i) : upd f i v j = f j := if_neg h
section
variable {w w' : World} {b n : Nat} {t : TypeId} {o o' : Nat → Int}
theorem IB.lt (H : IB w b n t o) : b < w.heap.size := by obtain ⟨cs, h, _⟩ := H; exact h.lt
theorem IB.cell (H : IB w b n t o) {j : Nat} (h : j < n) : w.cell? ⟨b, j, none⟩ = some (.int .i64 (o j)) := by
  obtain ⟨cs, h1, h2, h3⟩ := H
  rw [h1.cell]; exact h3 j h
theorem IB.fr (H : IB w b n t o) (j : Nat) : w.frozen? ⟨b, j, none⟩ = false := by obtain ⟨cs, h, _⟩ := H; exact h.fr j
theorem IB.below {B : Nat} (H : IB w b n t o) (k : Below B w w') (h : b < B) : IB w' b n t o := by obtain ⟨cs, h1, h2⟩ := H; exact ⟨cs, h1.below k h, h2⟩
theorem IB.on (H : IB w b n t o) (k : Below w.heap.size w w') : IB w' b n t o := H.below k H.lt
theorem IB.alloc (H : IB w b n t o) (x : Obj) : IB (w.alloc x) b n t o := by obtain ⟨cs, h1, h2⟩ := H; exact ⟨cs, h1.alloc x, h2⟩
theorem IB.other (H : IB w b n t o) {c i : Nat} (u : Value) (h : b ≠ c) : IB (w.setCell ⟨c, i, none⟩ u) b n t o := by obtain ⟨cs, h1, h2⟩ := H; exact ⟨cs, h1.other u h, h2⟩
theorem IB.congr (H : IB w b n t o) (h : ∀ j, j < n → o' j = o j) : IB w b n t o' := by
  obtain ⟨cs, h1, h2, h3⟩ := H; exact ⟨cs, h1, h2, fun j hj => by rw [h j hj]; exact h3 j hj⟩
theorem IB.set (H : IB w b n t o) {i : Nat} (hi : i < n) (x : Int) : IB (w.setCell ⟨b, i, none⟩ (.int .i64 x)) b n t (upd o i x) := by
  obtain ⟨cs, h1, h2, h3⟩ := H
  refine ⟨_, h1.set _ _, by simp [h2], fun j hj => ?_⟩
  by_cases e : j = i
  · subst e; rw [upd_eq, get_set_eq (by omega)]
  · rw [upd_ne e, get_set_ne (by omega)]; exact h3 j hj
theorem IB.ir (H : IB w b n t o) : IR w (some ⟨b, 0, none⟩) n o := by obtain ⟨cs, h1, h2, h3⟩ := H; exact IR.of_block h1 n o h3
end
def intL (o : Nat → Int) (m : Nat) : List Value := (List.range m).map (fun j => .int .i64 (o j))
theorem intL_get {o : Nat → Int} {m j : Nat} (h : j < m) : (intL o m)[j]? = some (.int .i64 (o j)) := by simp [intL, h]
theorem intL_succ (o : Nat → Int) (m : Nat) : intL o (m + 1) = intL o m ++ [.int .i64 (o m)] := by simp [intL, List.range_succ]
theorem intL_zero (o : Nat → Int) : intL o 0 = [] := rfl
theorem intL_congr {o o' : Nat → Int} {m : Nat} (h : ∀ j, j < m → o j = o' j) : intL o m = intL o' m := by
  unfold intL; exact List.map_congr_left (fun j hj => by rw [h j (List.mem_range.1 hj)])
theorem intL_len (o : Nat → Int) (m : Nat) : (intL o m).length = m := by simp [intL]
theorem IB.own {w : World} {b n base : Nat} {o : Nat → Int} (H : IB w b n 3 o) (hb : base ≤ b) (hn : n ≤ 1048576) : w.ownsRow base 3 1 (.slice (some ⟨b, 0, none⟩) n n) n (intL o n) := by
  obtain ⟨cs, h1, h2, h3⟩ := H
  have e : cs.toList = intL o n := by
    apply List.ext_getElem?
    intro j
    by_cases hj : j < n
    · rw [intL_get hj, ← h3 j hj]; simp
    · rw [List.getElem?_eq_none (by simp; omega), List.getElem?_eq_none (by rw [intL_len]; omega)]
  rw [← e]; exact row_of_block h1 h2 hb hn

theorem sm_lin (a r : Nat → Int) (S : Int) : ∀ n, sm (fun j => a j * S + r j) n = sm a n * S + sm r n
  | 0 => by simp [sm]
  | n + 1 => by rw [sm_succ, sm_succ, sm_succ, sm_lin a r S n, Int.add_mul]; omega
theorem sm_mul (a : Nat → Int) (S : Int) : ∀ n, sm (fun j => S * a j) n = S * sm a n
  | 0 => by simp [sm]
  | n + 1 => by rw [sm_succ, sm_succ, sm_mul a S n, Int.mul_add]
theorem sm_neg (a : Nat → Int) : ∀ n, sm (fun j => -a j) n = -sm a n
  | 0 => by simp [sm]
  | n + 1 => by rw [sm_succ, sm_succ, sm_neg a n]; omega
theorem sm_le {a : Nat → Int} {M : Int} : ∀ {n : Nat}, (∀ j, j < n → 0 ≤ a j ∧ a j ≤ M) → 0 ≤ sm a n ∧ sm a n ≤ (n : Int) * M
  | 0, _ => by simp [sm]
  | n + 1, h => by
    have h1 := sm_le (n := n) (fun j hj => h j (by omega))
    have h2 := h n (by omega)
    rw [sm_succ, show ((n + 1 : Nat) : Int) * M = (n : Int) * M + M by rw [show ((n + 1 : Nat) : Int) = (n : Int) + 1 by omega, Int.add_mul, Int.one_mul]]
    omega
theorem sm_upd {a : Nat → Int} {i : Nat} {v : Int} : ∀ {n : Nat}, i < n → sm (upd a i v) n = sm a n + v - a i
  | 0, h => by omega
  | n + 1, h => by
    rw [sm_succ, sm_succ]
    by_cases e : i = n
    · subst e
      rw [upd_eq, sm_congr (y := upd a i v) (z := a) (fun j hj => upd_ne (by omega))]; omega
    · rw [sm_upd (n := n) (by omega), upd_ne (by omega)]; omega

def ShOk (T : Int) (N : Nat) (z : Nat → Int) : Prop := (-100000000000 ≤ T ∧ T ≤ 100000000000) ∧ N ≤ 200 ∧ (∀ j, j < N → 0 ≤ z j ∧ z j ≤ 10000000) ∧ 0 < sm z N
open Classical in
noncomputable def shM (T : Int) (N : Nat) (z : Nat → Int) : Nat := if ShOk T N z then N else 0
open Classical in
theorem shM_ok {T : Int} {N : Nat} {z : Nat → Int} (h : ShOk T N z) : shM T N z = N := if_pos h
open Classical in
theorem shM_no {T : Int} {N : Nat} {z : Nat → Int} (h : ¬ ShOk T N z) : shM T N z = 0 := if_neg h
theorem shM_le (T : Int) (N : Nat) (z : Nat → Int) : shM T N z ≤ 200 := by
  by_cases h : ShOk T N z
  · rw [shM_ok h]; exact h.2.1
  · rw [shM_no h]; omega
def qv (T : Int) (N : Nat) (z : Nat → Int) (i : Nat) : Int := (T * z i).tdiv (sm z N)
def rs (T : Int) (N : Nat) (z : Nat → Int) (i : Nat) : Int := cr (T * z i) (sm z N)
def lf (T : Int) (N : Nat) (z : Nat → Int) : Int := T - sm (qv T N z) N
def on1 (x : Int) : Int := if x < 0 then -1 else 1
/-- The first of the greatest of n numbers. -/
def bst (r : Nat → Int) : Nat → Nat
  | 0 => 0
  | n + 1 => if n = 0 then 0 else if r (bst r n) < r n then n else bst r n
theorem bst_one (r : Nat → Int) : bst r 1 = 0 := rfl
theorem bst_succ {r : Nat → Int} {n : Nat} (h : 0 < n) : bst r (n + 1) = if r (bst r n) < r n then n else bst r n := by rw [bst, if_neg (by omega)]
theorem bst_lt (r : Nat → Int) : ∀ n, 0 < n → bst r n < n
  | 0, h => by omega
  | n + 1, _ => by
    by_cases e : n = 0
    · subst e; simp [bst]
    · rw [bst_succ (by omega)]
      have := bst_lt r n (by omega)
      split <;> omega
theorem bst_ge (r : Nat → Int) : ∀ n j, j < n → r j ≤ r (bst r n)
  | 0, j, h => by omega
  | n + 1, j, h => by
    by_cases e : n = 0
    · subst e; obtain rfl : j = 0 := by omega
      exact Int.le_refl _
    · rw [bst_succ (by omega)]
      by_cases e1 : j = n
      · subst e1; split <;> omega
      · have := bst_ge r n j (by omega)
        split <;> omega
theorem bst_eq {r : Nat → Int} {N b : Nat} (hb : b < N) (h : ∀ j, j < N → j ≠ b → r j ≤ r b ∧ (j < b → r j < r b)) : bst r N = b := by
  have key : ∀ n, n ≤ N → b < n → bst r n = b := by
    intro n
    induction n with
    | zero => intro _ h2; omega
    | succ n ih =>
      intro h1 h2
      by_cases e0 : n = 0
      · subst e0; simp [bst]; omega
      · rw [bst_succ (by omega)]
        by_cases e : n = b
        · subst e
          have h3 := bst_lt r n (by omega)
          rw [if_pos ((h _ (by omega) (by omega)).2 h3)]
        · rw [ih (by omega) (by omega), if_neg (by have := (h n (by omega) e).1; omega)]
  exact key N (Nat.le_refl _) hb

/-- What k rounds leave: the shares, and the rests with -1 for those that have had theirs. -/
def gst (one : Int) (N : Nat) (o r : Nat → Int) : Nat → (Nat → Int) × (Nat → Int)
  | 0 => (o, r)
  | k + 1 => (upd (gst one N o r k).1 (bst (gst one N o r k).2 N) ((gst one N o r k).1 (bst (gst one N o r k).2 N) + one), upd (gst one N o r k).2 (bst (gst one N o r k).2 N) (-1))
def shV (T : Int) (N : Nat) (z : Nat → Int) : Nat → Int := (gst (on1 (lf T N z)) N (qv T N z) (rs T N z) (lf T N z).natAbs).1

/-- A row of places that are each met at most once meets them all. -/
theorem inj_all : ∀ (n : Nat) (p : Nat → Nat), (∀ i, i < n → p i < n) → (∀ i j, i < n → j < n → p i = p j → i = j) → ∀ y, y < n → ∃ i, i < n ∧ p i = y
  | 0, p, _, _, y, h => by omega
  | n + 1, p, h1, h2, y, hy => by
    by_cases e : ∃ i, i < n + 1 ∧ p i = y
    · exact e
    · exfalso
      -- all of p's places avoid y: squeeze y out
      have ne : ∀ i, i < n + 1 → p i ≠ y := fun i hi q => e ⟨i, hi, q⟩
      have hq := inj_all n (fun i => if p i < y then p i else p i - 1) (fun i hi => by
        have a1 := h1 i (by omega)
        have a2 := ne i (by omega)
        split <;> omega) (fun i j hi hj q => by
        have a1 := ne i (by omega)
        have a2 := ne j (by omega)
        apply h2 i j (by omega) (by omega)
        split at q <;> split at q <;> omega)
      have b1 := h1 n (by omega)
      have b2 := ne n (by omega)
      obtain ⟨i, hi, q⟩ := hq (if p n < y then p n else p n - 1) (by split <;> omega)
      have a2 := ne i (by omega)
      have : i = n := h2 i n (by omega) (by omega) (by split at q <;> split at q <;> omega)
      omega

/-- The same by a row of places. -/
def gs (one : Int) (p : Nat → Nat) (o : Nat → Int) : Nat → (Nat → Int)
  | 0 => o
  | k + 1 => upd (gs one p o k) (p k) (gs one p o k (p k) + one)

/-- The sorted row's places are who gets what is left. -/
theorem gst_gs {one : Int} {N : Nat} {o r : Nat → Int} {p : Nat → Nat} (h0 : ∀ j, j < N → 0 ≤ r j) (h1 : ∀ i, i < N → p i < N) (h2 : ∀ i j, i < N → j < N → p i = p j → i = j)
    (h3 : ∀ i j, i < j → j < N → r (p j) < r (p i) ∨ (r (p j) = r (p i) ∧ p i < p j)) :
    ∀ k, k ≤ N → (gst one N o r k).1 = gs one p o k ∧ ∀ j, j < N → (∀ i, i < k → p i = j → (gst one N o r k).2 j = -1) ∧ ((∀ i, i < k → p i ≠ j) → (gst one N o r k).2 j = r j) := by
  intro k
  induction k with
  | zero => intro _; exact ⟨rfl, fun j hj => ⟨fun i hi => by omega, fun _ => rfl⟩⟩
  | succ k ih =>
    intro hk
    obtain ⟨e1, e2⟩ := ih (by omega)
    have hb : bst (gst one N o r k).2 N = p k := by
      have hv : (gst one N o r k).2 (p k) = r (p k) := (e2 (p k) (h1 k (by omega))).2 (fun i hi q => by have := h2 i k (by omega) (by omega) q; omega)
      refine bst_eq (h1 k (by omega)) (fun j hj hne => ?_)
      rw [hv]
      obtain ⟨i, hi, rfl⟩ := inj_all N p h1 h2 j hj
      have p0 := h0 (p k) (h1 k (by omega))
      by_cases hik : i < k
      · rw [(e2 (p i) hj).1 i hik rfl]; omega
      · have : i ≠ k := fun q => hne (by rw [q])
        have h5 := h3 k i (by omega) hi
        rw [(e2 (p i) hj).2 (fun i' hi' q => by have := h2 i' i (by omega) hi q; omega)]
        omega
    refine ⟨by rw [gst, hb, e1]; rfl, fun j hj => ⟨fun i hi q => ?_, fun hn => ?_⟩⟩
    · rw [gst, hb]
      by_cases e : i = k
      · subst e; rw [← q]; exact upd_eq _ _ _
      · by_cases e3 : j = p k
        · rw [e3]; exact upd_eq _ _ _
        · show upd _ _ _ _ = _
          rw [upd_ne e3]; exact (e2 j hj).1 i (by omega) q
    · rw [gst, hb]
      show upd _ _ _ _ = _
      rw [upd_ne (fun q => hn k (by omega) q.symm)]; exact (e2 j hj).2 (fun i hi => hn i (by omega))

/-- What is left is less than there are places, and its sign. -/
theorem lf_bd {T : Int} {N : Nat} {z : Nat → Int} (h : ShOk T N z) : ∃ K : Nat, K < N ∧ (lf T N z).natAbs = K ∧ ((lf T N z = (K : Int) ∧ 0 ≤ lf T N z) ∨ (lf T N z = -(K : Int) ∧ lf T N z < 0)) ∧ (∀ j, j < N → 0 ≤ rs T N z j ∧ rs T N z j < sm z N) ∧ ((0 ≤ T ∧ lf T N z * sm z N = sm (rs T N z) N) ∨ (T < 0 ∧ lf T N z * sm z N = -sm (rs T N z) N)) := by
  obtain ⟨hT, hN, hz, hS⟩ := h
  obtain ⟨S, hSe⟩ : ∃ S, sm z N = S := ⟨_, rfl⟩
  have hN0 : 0 < N := by
    rcases Nat.eq_zero_or_pos N with e | e
    · subst e; simp [sm] at hS
    · exact e
  have hr : ∀ j, j < N → 0 ≤ rs T N z j ∧ rs T N z j < S := fun j hj => by
    have := cut_facts (T * z j) S (by omega)
    unfold rs; rw [hSe]; exact ⟨this.1, this.2.1⟩
  have hsum := sm_le (a := rs T N z) (M := S - 1) (n := N) (fun j hj => by have := hr j hj; omega)
  have eN : (N : Int) * (S - 1) = (N : Int) * S - N := by rw [Int.mul_sub, Int.mul_one]
  have key : (0 ≤ T ∧ lf T N z * S = sm (rs T N z) N) ∨ (T < 0 ∧ lf T N z * S = -sm (rs T N z) N) := by
    by_cases hT0 : 0 ≤ T
    · refine .inl ⟨hT0, ?_⟩
      have e1 : sm (fun j => qv T N z j * S + rs T N z j) N = sm (fun j => T * z j) N := sm_congr (fun j hj => by
        have hp : 0 ≤ T * z j := Int.mul_nonneg hT0 (hz j hj).1
        have := (cut_facts (T * z j) S (by omega)).2.2.1 hp
        unfold qv rs; rw [hSe]; exact this.2.2.2.2)
      rw [sm_lin, sm_mul, hSe] at e1
      unfold lf; rw [Int.sub_mul]; omega
    · refine .inr ⟨by omega, ?_⟩
      have e1 : sm (fun j => qv T N z j * S + -rs T N z j) N = sm (fun j => T * z j) N := sm_congr (fun j hj => by
        by_cases h0 : z j = 0
        · unfold qv rs; rw [hSe, h0, Int.mul_zero]; simp [cr]
        · have hp : T * z j < 0 := Int.mul_neg_of_neg_of_pos (by omega) (by have := (hz j hj).1; omega)
          have := (cut_facts (T * z j) S (by omega)).2.2.2 hp
          unfold qv rs; rw [hSe]; omega)
      rw [sm_lin (qv T N z) (fun j => -rs T N z j), sm_neg, sm_mul, hSe] at e1
      unfold lf; rw [Int.sub_mul]; omega
  obtain ⟨L, hL⟩ : ∃ L, lf T N z = L := ⟨_, rfl⟩
  rw [hL] at key ⊢
  rw [hSe]
  have up : L < N := by
    rcases Int.lt_or_le L N with q | q
    · exact q
    · have := Int.mul_le_mul_of_nonneg_right q (show 0 ≤ S by omega)
      omega
  have dn : -(N : Int) < L := by
    rcases Int.lt_or_le (-(N : Int)) L with q | q
    · exact q
    · have := Int.mul_le_mul_of_nonneg_right q (show 0 ≤ S by omega)
      rw [Int.neg_mul] at this
      omega
  exact ⟨L.natAbs, by omega, rfl, by omega, hr, key⟩
end Go.Proofs.Ytjlniinahfgakaa
