/- Loading, plain: each task's slot out of those ahead of it; the row of all slots. -/
import Derived.Test.YtogolmbgboihdaaOa
import Derived.Test.YtogolmbgboihdaaFe
import Derived.Test.YtogolmbgboihdaaSa
namespace Go.Proofs.Ytogolmbgboihdaa
open Go.ChangeShapes Go.WideShapes Go.ChangeAt Go.RowKit
set_option linter.unusedVariables false
set_option linter.unusedSimpArgs false

/-- The last end of job j among the first k slots. -/
def mxJ (s : Nat → SL5) (j : Int) : Nat → Int
  | 0 => 0
  | k + 1 => if (s k).job = j then max (mxJ s j k) (s k).fin else mxJ s j k
/-- The last end on machine m among the first k slots. -/
def mxM (s : Nat → SL5) (m : Int) : Nat → Int
  | 0 => 0
  | k + 1 => if (s k).mac = m then max (mxM s m k) (s k).fin else mxM s m k
def famS (d : Nat → JB) (x : SL5) : Int := ((d x.job.toNat).rz x.tsk.toNat).fam
/-- The family of what machine m did last, -1 when it did nothing. -/
def lfM (d : Nat → JB) (s : Nat → SL5) (m : Int) : Nat → Int
  | 0 => -1
  | k + 1 => if (s k).mac = m then famS d (s k) else lfM d s m k
def frV (d : Nat → JB) (s : Nat → SL5) (k j t : Nat) : Int := max (d j).rdy (max (mxJ s (j : Int) k) (mxM s ((d j).rz t).mac k))
def hrV (c : Nat → MA3) (d : Nat → JB) (s : Nat → SL5) (k j t : Nat) : Int := ((d j).rz t).hrs + (if lfM d s ((d j).rz t).mac k = ((d j).rz t).fam then 0 else (c ((d j).rz t).mac.toNat).st)
def oneS (c : Nat → MA3) (d : Nat → JB) (s : Nat → SL5) (k j t : Nat) : SL5 := ⟨(j : Int), (t : Int), ((d j).rz t).mac, ocB (c ((d j).rz t).mac.toNat) (frV d s k j t) (hrV c d s k j t), ocF (c ((d j).rz t).mac.toNat) (frV d s k j t) (hrV c d s k j t)⟩
theorem mxJ_congr {s u : Nat → SL5} {j : Int} : ∀ {k : Nat}, (∀ i, i < k → s i = u i) → mxJ s j k = mxJ u j k
  | 0, _ => rfl
  | k + 1, h => by unfold mxJ; rw [h k (by omega), mxJ_congr (k := k) fun i hi => h i (by omega)]
theorem mxM_congr {s u : Nat → SL5} {j : Int} : ∀ {k : Nat}, (∀ i, i < k → s i = u i) → mxM s j k = mxM u j k
  | 0, _ => rfl
  | k + 1, h => by unfold mxM; rw [h k (by omega), mxM_congr (k := k) fun i hi => h i (by omega)]
theorem lfM_congr {d : Nat → JB} {s u : Nat → SL5} {j : Int} : ∀ {k : Nat}, (∀ i, i < k → s i = u i) → lfM d s j k = lfM d u j k
  | 0, _ => rfl
  | k + 1, h => by unfold lfM; rw [h k (by omega), lfM_congr (k := k) fun i hi => h i (by omega)]
theorem oneS_congr {c : Nat → MA3} {d : Nat → JB} {s u : Nat → SL5} {k j t : Nat} (h : ∀ i, i < k → s i = u i) : oneS c d s k j t = oneS c d u k j t := by
  unfold oneS frV hrV
  rw [mxJ_congr h, mxM_congr h, lfM_congr h]
def aT (c : Nat → MA3) (d : Nat → JB) (j k : Nat) (s : Nat → SL5) : Nat → Nat → SL5
  | 0 => s
  | t + 1 => fun i => if i = k + t then oneS c d (aT c d j k s t) (k + t) j t else aT c d j k s t i
theorem aT_st {c : Nat → MA3} {d : Nat → JB} {j k : Nat} {s : Nat → SL5} {t : Nat} : ∀ {u i : Nat}, i < k + t → aT c d j k s (t + u) i = aT c d j k s t i
  | 0, i, h => rfl
  | u + 1, i, h => by
    show (if i = k + (t + u) then _ else aT c d j k s (t + u) i) = _
    rw [if_neg (by omega)]; exact aT_st h
/-- How many tasks the first n jobs have. -/
def kN (d : Nat → JB) (o : Nat → Int) : Nat → Nat
  | 0 => 0
  | n + 1 => kN d o n + (d (o n).toNat).rn
theorem kN_le {d : Nat → JB} {o : Nat → Int} {n : Nat} : ∀ {u : Nat}, kN d o n ≤ kN d o (n + u)
  | 0 => Nat.le_refl _
  | u + 1 => Nat.le_trans (kN_le (u := u)) (Nat.le_add_right _ _)
def sN (c : Nat → MA3) (d : Nat → JB) (o : Nat → Int) : Nat → Nat → SL5
  | 0 => fun _ => ⟨0, 0, 0, 0, 0⟩
  | n + 1 => aT c d (o n).toNat (kN d o n) (sN c d o n) (d (o n).toNat).rn
theorem sN_st {c : Nat → MA3} {d : Nat → JB} {o : Nat → Int} {n : Nat} : ∀ {u i : Nat}, i < kN d o n → sN c d o (n + u) i = sN c d o n i
  | 0, i, h => rfl
  | u + 1, i, h => by
    have h2 := aT_st (c := c) (d := d) (j := (o (n + u)).toNat) (k := kN d o (n + u)) (s := sN c d o (n + u)) (t := 0) (u := (d (o (n + u)).toNat).rn) (i := i) (by have := kN_le (d := d) (o := o) (n := n) (u := u); omega)
    show aT c d (o (n + u)).toNat (kN d o (n + u)) (sN c d o (n + u)) (d (o (n + u)).toNat).rn i = _
    rw [Nat.zero_add] at h2
    rw [h2]; exact sN_st h
/-- Each slot is what those ahead of it ask for. -/
def FixS (c : Nat → MA3) (d : Nat → JB) (o : Nat → Int) (nj : Nat) (S : Nat → SL5) : Prop := ∀ n t, n < nj → t < (d (o n).toNat).rn → S (kN d o n + t) = oneS c d S (kN d o n + t) (o n).toNat t
theorem sN_fix {c : Nat → MA3} {d : Nat → JB} {o : Nat → Int} {nj : Nat} : FixS c d o nj (sN c d o nj) := fun n t hn ht => by
  obtain ⟨u, rfl⟩ : ∃ u, nj = (n + 1) + u := ⟨nj - (n + 1), by omega⟩
  have a : ∀ i, i < kN d o (n + 1) → sN c d o (n + 1 + u) i = sN c d o (n + 1) i := fun i hi => sN_st hi
  have hk : kN d o (n + 1) = kN d o n + (d (o n).toNat).rn := rfl
  obtain ⟨v, hv⟩ : ∃ v, (d (o n).toNat).rn = (t + 1) + v := ⟨(d (o n).toNat).rn - (t + 1), by omega⟩
  have e1 : ∀ i, i < kN d o n + (t + 1) → sN c d o (n + 1) i = aT c d (o n).toNat (kN d o n) (sN c d o n) (t + 1) i := fun i hi => by
    show aT c d (o n).toNat (kN d o n) (sN c d o n) (d (o n).toNat).rn i = _
    rw [hv]; exact aT_st hi
  rw [a _ (by omega), e1 _ (by omega)]
  show (if kN d o n + t = kN d o n + t then _ else _) = _
  rw [if_pos rfl]
  refine oneS_congr fun i hi => ?_
  rw [a i (by omega), e1 i (by omega)]
  show _ = (if i = kN d o n + t then _ else _)
  rw [if_neg (by omega)]
/-- An order has each place once. -/
def OrP (o : Nat → Int) (no nj : Nat) : Prop := no = nj ∧ (∀ i, i < no → 0 ≤ o i ∧ o i < (nj : Int)) ∧ ∀ i k, i < k → k < no → o i ≠ o k
def LdG (d : Nat → JB) (o : Nat → Int) (nj : Nat) (S : Nat → SL5) : Prop := ∀ n t, n < nj → t < (d (o n).toNat).rn → 0 ≤ (S (kN d o n + t)).fin
def LdP (nm : Nat) (c : Nat → MA3) (nj : Nat) (d : Nat → JB) (no : Nat) (o : Nat → Int) : Prop := loB nm c nj d = true ∧ OrP o no nj ∧ LdG d o nj (sN c d o nj)
open Classical in
noncomputable def ldB (nm : Nat) (c : Nat → MA3) (nj : Nat) (d : Nat → JB) (no : Nat) (o : Nat → Int) : Bool := decide (LdP nm c nj d no o)
open Classical in
noncomputable def ldM (nm : Nat) (c : Nat → MA3) (nj : Nat) (d : Nat → JB) (no : Nat) (o : Nat → Int) : Nat := if LdP nm c nj d no o then kN d o nj else 0
open Classical in
theorem ld_no {nm : Nat} {c : Nat → MA3} {nj : Nat} {d : Nat → JB} {no : Nat} {o : Nat → Int} (h : ¬ LdP nm c nj d no o) : ldB nm c nj d no o = false ∧ ldM nm c nj d no o = 0 := ⟨by unfold ldB; exact decide_eq_false h, if_neg h⟩
open Classical in
theorem ld_yes {nm : Nat} {c : Nat → MA3} {nj : Nat} {d : Nat → JB} {no : Nat} {o : Nat → Int} (h : LdP nm c nj d no o) : ldB nm c nj d no o = true ∧ ldM nm c nj d no o = kN d o nj := ⟨by unfold ldB; exact decide_eq_true h, if_pos h⟩

/-- A task that is loaded: its answer of Occupy is none, or it begins and ends behind all that it waits for. -/
theorem oc_bd {r : MA3} {f q : Int} : (ocB r f q = -1 ∧ ocF r f q = -1) ∨ (0 ≤ f ∧ f ≤ ocB r f q ∧ ocB r f q ≤ ocF r f q ∧ ocF r f q ≤ 5000) := by
  by_cases h : OcG r f q
  · have e := oc_yes h
    have ho : 0 ≤ r.op ∧ r.op < r.sh ∧ r.sh ≤ 24 := ⟨h.1.1.1, h.1.1.2.1, h.1.1.2.2.1⟩
    have hd := dst_bd (h := f) ho
    refine .inr ⟨h.1.2.1.1, by rw [e.1]; omega, ?_, by rw [e.2]; exact h.2⟩
    rw [e.1, e.2]
    unfold ocE
    split
    · omega
    · rename_i hq
      obtain ⟨p, hp⟩ : ∃ p, q.toNat = p + 1 := ⟨q.toNat - 1, by omega⟩
      rw [hp]
      have := nx_lo ho p f
      omega
  · exact .inl (oc_no h)
/-- What is known of a slot that was loaded. -/
def SlR (nm nj : Nat) (d : Nat → JB) (x : SL5) : Prop := (0 ≤ x.job ∧ x.job < (nj : Int)) ∧ (0 ≤ x.tsk ∧ x.tsk < ((d x.job.toNat).rn : Int)) ∧ (0 ≤ x.mac ∧ x.mac < (nm : Int)) ∧ (0 ≤ x.fin ∧ x.fin ≤ 5000)
theorem one_r {nm nj : Nat} {c : Nat → MA3} {d : Nat → JB} {s : Nat → SL5} {k j t : Nat} (hj : j < nj) (ht : t < (d j).rn) (hm : 0 ≤ ((d j).rz t).mac ∧ ((d j).rz t).mac < (nm : Int)) (hf : 0 ≤ (oneS c d s k j t).fin) : SlR nm nj d (oneS c d s k j t) := by
  have hb := oc_bd (r := c ((d j).rz t).mac.toNat) (f := frV d s k j t) (q := hrV c d s k j t)
  have e : (oneS c d s k j t).fin = ocF (c ((d j).rz t).mac.toNat) (frV d s k j t) (hrV c d s k j t) := rfl
  refine ⟨⟨by show (0 : Int) ≤ (j : Int); omega, by show (j : Int) < (nj : Int); omega⟩, ⟨by show (0 : Int) ≤ (t : Int); omega, ?_⟩, hm, hf, by rw [e]; omega⟩
  show (t : Int) < ((d ((j : Int).toNat)).rn : Int)
  rw [Int.toNat_natCast]; omega
theorem mx_bd {nm nj : Nat} {d : Nat → JB} {s : Nat → SL5} {j m : Int} : ∀ {k : Nat}, (∀ i, i < k → SlR nm nj d (s i)) → (0 ≤ mxJ s j k ∧ mxJ s j k ≤ 5000) ∧ (0 ≤ mxM s m k ∧ mxM s m k ≤ 5000)
  | 0, _ => ⟨⟨Int.le_refl 0, by show (0 : Int) ≤ 5000; omega⟩, ⟨Int.le_refl 0, by show (0 : Int) ≤ 5000; omega⟩⟩
  | k + 1, h => by
    obtain ⟨h1, h2⟩ := mx_bd (j := j) (m := m) (k := k) fun i hi => h i (by omega)
    have h4 := (h k (by omega)).2.2.2
    unfold mxJ mxM
    constructor <;> split <;> omega
theorem lf_bd {nm nj : Nat} {d : Nat → JB} {s : Nat → SL5} {m : Int} (hd : ∀ j, j < nj → jbB (d j) = true) : ∀ {k : Nat}, (∀ i, i < k → SlR nm nj d (s i)) → (lfM d s m k = -1 ∧ mxM s m k = 0) ∨ (0 ≤ lfM d s m k ∧ lfM d s m k ≤ 9)
  | 0, _ => .inl ⟨rfl, rfl⟩
  | k + 1, h => by
    have h1 := lf_bd (m := m) hd (k := k) fun i hi => h i (by omega)
    have h4 := h k (by omega)
    unfold lfM mxM
    split
    · have hj := (jbB_p (hd (s k).job.toNat (by have := h4.1; omega))).2.2 (s k).tsk.toNat (by have := h4.2.1; omega)
      have := tkB_p hj
      refine .inr ?_
      unfold famS; omega
    · exact h1
/-- Every place below kN n + t is a task of one of the first n jobs, or of the job at n below t. -/
theorem kN_at {d : Nat → JB} {o : Nat → Int} : ∀ {n t i : Nat}, i < kN d o n + t → (∃ n' t', n' < n ∧ t' < (d (o n').toNat).rn ∧ i = kN d o n' + t') ∨ (∃ t', t' < t ∧ i = kN d o n + t')
  | n, t, i, h => by
    by_cases q : i < kN d o n
    · left
      induction n with
      | zero => exact absurd q (Nat.not_lt_zero _)
      | succ n ih =>
        by_cases q2 : i < kN d o n
        · obtain ⟨n', t', h1, h2, h3⟩ := ih (by omega) q2; exact ⟨n', t', by omega, h2, h3⟩
        · have : kN d o (n + 1) = kN d o n + (d (o n).toNat).rn := rfl
          exact ⟨n, i - kN d o n, by omega, by omega, by omega⟩
    · exact .inr ⟨i - kN d o n, by omega, by omega⟩
/-- What was loaded so far is all right. -/
def GdP (d : Nat → JB) (o : Nat → Int) (S : Nat → SL5) (n t : Nat) : Prop := (∀ n' t', n' < n → t' < (d (o n').toNat).rn → 0 ≤ (S (kN d o n' + t')).fin) ∧ ∀ t', t' < t → 0 ≤ (S (kN d o n + t')).fin
theorem gd_slr {nm : Nat} {c : Nat → MA3} {nj : Nat} {d : Nat → JB} {o : Nat → Int} {S : Nat → SL5} (hL : loB nm c nj d = true) (hO : OrP o nj nj) (hF : FixS c d o nj S) {n t : Nat} (hn : n < nj) (ht : t ≤ (d (o n).toNat).rn) (hG : GdP d o S n t) : ∀ i, i < kN d o n + t → SlR nm nj d (S i) := fun i hi => by
  have lp := (lo_p hL).2.2.2
  rcases kN_at hi with ⟨n', t', h1, h2, rfl⟩ | ⟨t', h1, rfl⟩
  · have hj : (o n').toNat < nj := by have := hO.2.1 n' (by omega); omega
    rw [hF n' t' (by omega) h2]
    exact one_r hj h2 (lp _ hj _ h2) (by rw [← hF n' t' (by omega) h2]; exact hG.1 n' t' h1 h2)
  · have hj : (o n).toNat < nj := by have := hO.2.1 n hn; omega
    rw [hF n t' hn (by omega)]
    exact one_r hj (by omega) (lp _ hj _ (by omega)) (by rw [← hF n t' hn (by omega)]; exact hG.2 t' h1)
/-- No slot of a job is there when it begins. -/
theorem mxJ_0 {s : Nat → SL5} {j : Int} : ∀ {k : Nat}, (∀ i, i < k → (s i).job ≠ j) → mxJ s j k = 0
  | 0, _ => rfl
  | k + 1, h => by unfold mxJ; rw [if_neg (h k (by omega))]; exact mxJ_0 fun i hi => h i (by omega)
theorem new_job {c : Nat → MA3} {nj : Nat} {d : Nat → JB} {o : Nat → Int} {S : Nat → SL5} (hO : OrP o nj nj) (hF : FixS c d o nj S) {n : Nat} (hn : n < nj) : mxJ S ((o n).toNat : Int) (kN d o n) = 0 := mxJ_0 fun i hi e => by
  rcases kN_at (t := 0) (show i < kN d o n + 0 from hi) with ⟨n', t', h1, h2, rfl⟩ | ⟨t', h1, _⟩
  · rw [hF n' t' (by omega) h2] at e
    have e2 : ((o n').toNat : Int) = ((o n).toNat : Int) := e
    have a1 := hO.2.1 n' (by omega)
    have a2 := hO.2.1 n hn
    exact hO.2.2 n' n h1 hn (by omega)
  · omega
end Go.Proofs.Ytogolmbgboihdaa
