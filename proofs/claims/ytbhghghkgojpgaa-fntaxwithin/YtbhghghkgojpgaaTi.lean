/- Plain: what a bill is: weights, Net, what is within, Bases, Taxes, Gross; bounds. -/
import Derived.Test.YtbhghghkgojpgaaTf
import Derived.Test.YtbhghghkgojpgaaTp
import Derived.Test.YtbhghghkgojpgaaMm
import Derived.Test.YtbhghghkgojpgaaMj
import Derived.Test.YtbhghghkgojpgaaZW
namespace Go.Proofs.Ytbhghghkgojpgaa
set_option linter.unusedVariables false

/-- The outcome times the divisor, against what was divided. -/
theorem dv_times (p q m : Int) (hq : 1 ≤ q) : (0 ≤ p ∧ 0 ≤ p.tdiv q * q ∧ p.tdiv q * q + cr p q = p ∧ ((fur (p.tdiv q) (cr p q) q false m = true ∧ dv p q m * q = p.tdiv q * q + q ∧ dv p q m = p.tdiv q + 1) ∨ (fur (p.tdiv q) (cr p q) q false m = false ∧ dv p q m * q = p.tdiv q * q ∧ dv p q m = p.tdiv q))) ∨
    (p < 0 ∧ p.tdiv q * q ≤ 0 ∧ p.tdiv q * q - cr p q = p ∧ ((fur (p.tdiv q) (cr p q) q true m = true ∧ dv p q m * q = p.tdiv q * q - q ∧ dv p q m = p.tdiv q - 1) ∨ (fur (p.tdiv q) (cr p q) q true m = false ∧ dv p q m * q = p.tdiv q * q ∧ dv p q m = p.tdiv q))) := by
  obtain ⟨c0, c1, cp, cn⟩ := cut_facts p q hq
  by_cases h : p < 0
  · obtain ⟨n1, n2, n3, n4⟩ := cn h
    have hle := Int.mul_le_mul_of_nonneg_right n2 (show 0 ≤ q by omega)
    rw [Int.zero_mul] at hle
    refine .inr ⟨h, hle, n4, ?_⟩
    have e : dv p q m = rnd (p.tdiv q) (cr p q) q true m := by unfold dv; rw [decide_eq_true h]
    cases f : fur (p.tdiv q) (cr p q) q true m
    · right; have e2 : dv p q m = p.tdiv q := by rw [e]; simp [rnd, f]
      exact ⟨rfl, by rw [e2], e2⟩
    · left; have e2 : dv p q m = p.tdiv q - 1 := by rw [e]; simp [rnd, f]
      exact ⟨rfl, by rw [e2, Int.sub_mul]; omega, e2⟩
  · obtain ⟨n1, n2, n3, n4, n5⟩ := cp (by omega)
    refine .inl ⟨by omega, Int.mul_nonneg n1 (by omega), n5, ?_⟩
    have e : dv p q m = rnd (p.tdiv q) (cr p q) q false m := by unfold dv; rw [decide_eq_false h]
    cases f : fur (p.tdiv q) (cr p q) q false m
    · right; have e2 : dv p q m = p.tdiv q := by rw [e]; simp [rnd, f]
      exact ⟨rfl, by rw [e2], e2⟩
    · left; have e2 : dv p q m = p.tdiv q + 1 := by rw [e]; simp [rnd, f]
      exact ⟨rfl, by rw [e2, Int.add_mul]; omega, e2⟩

theorem near3 (p q t : Int) (hq : 1 ≤ q) (ht : dv p q 3 * q = t) : (0 ≤ p ∧ 0 ≤ t ∧ t ≤ p ∧ 2 * (p - t) < q) ∨ (0 ≤ p ∧ 0 ≤ t ∧ p < t ∧ 2 * (t - p) ≤ q) ∨ (p < 0 ∧ t ≤ 0 ∧ p ≤ t ∧ 2 * (t - p) < q) ∨ (p < 0 ∧ t < p ∧ 2 * (p - t) ≤ q) := by
  have c := cut_facts p q hq
  rcases dv_times p q 3 hq with ⟨h, h1, h2, ⟨f, g, _⟩ | ⟨f, g, _⟩⟩ | ⟨h, h1, h2, ⟨f, g, _⟩ | ⟨f, g, _⟩⟩
  all_goals simp [fur] at f
  all_goals omega

def wsW (u : Nat → T5) (j : Nat) : Int := if (u j).kind = 3 then (u j).rate else 0
def alW (u : Nat → T5) (m : Nat) : Int := Sh.sm (wsW u) m
def netV (u : Nat → T5) (m : Nat) (p : Int) : Int := mdV p 100000 (100000 + alW u m) 3
def wiV (u : Nat → T5) (m : Nat) (p : Int) (i : Nat) : Int := if alW u m = 0 then 0 else Sh.shV (p - netV u m p) m (wsW u) i
def lvB (r : T5) (g net : Int) : Int := if r.kind = 2 then g else net
def lvO (r : T5) (g net : Int) : Bool := if r.kind = 3 then true else mdB (lvB r g net) r.rate 100000 3
def lvT (r : T5) (g net wi : Int) : Int := if r.kind = 3 then wi else mdV (lvB r g net) r.rate 100000 3
def lvG (r : T5) (g net wi : Int) : Int := if r.kind = 4 then 0 else lvT r g net wi
def grV (u : Nat → T5) (net : Int) (wi : Nat → Int) : Nat → Int
  | 0 => net
  | i + 1 => grV u net wi i + lvG (u i) (grV u net wi i) net (wi i)
def ptV (u : Nat → T5) (net : Int) (wi : Nat → Int) (i : Nat) : P4 := ⟨(u i).code, (u i).kind, lvB (u i) (grV u net wi i) net, lvT (u i) (grV u net wi i) net (wi i)⟩
def amt (x : Int) : Bool := decide (-100000000000 ≤ x ∧ x ≤ 100000000000)
theorem amt_t {x : Int} (h : amt x = true) : -100000000000 ≤ x ∧ x ≤ 100000000000 := of_decide_eq_true h
theorem amt_f {x : Int} (h : amt x = false) : ¬ (-100000000000 ≤ x ∧ x ≤ 100000000000) := of_decide_eq_false h
/-- What is known of the rules that are used. -/
def UOk (u : Nat → T5) (m : Nat) : Prop := ∀ i, i < m → (0 ≤ (u i).rate ∧ (u i).rate ≤ 1000000) ∧ (1 ≤ (u i).kind ∧ (u i).kind ≤ 4)
def BiP (u : Nat → T5) (m : Nat) (p : Int) : Prop := amt p = true ∧ (∀ i, i < m → lvO (u i) (grV u (netV u m p) (wiV u m p) i) (netV u m p) = true) ∧ amt (grV u (netV u m p) (wiV u m p) m) = true

theorem ws_bd {u : Nat → T5} {m : Nat} (h : UOk u m) : ∀ j, j < m → 0 ≤ wsW u j ∧ wsW u j ≤ 1000000 := fun j hj => by
  have := (h j hj).1
  unfold wsW; split <;> omega
theorem al_bd {u : Nat → T5} {m : Nat} (h : UOk u m) (hm : m ≤ 6) : 0 ≤ alW u m ∧ alW u m ≤ 6000000 := by
  have := Sh.sm_le (ws_bd h)
  unfold alW
  omega
theorem md_abs (a num den m : Int) : -100000000000 ≤ mdV a num den m ∧ mdV a num den m ≤ 100000000000 := by
  unfold mdV
  split
  · rename_i h
    unfold mdB at h
    simp only [Bool.and_eq_true, decide_eq_true_eq] at h
    exact h.2
  · omega
/-- Net lies between 0 and the price. -/
theorem net_bd {p al : Int} (h0 : 0 ≤ al) (h1 : al ≤ 6000000) (hp : -100000000000 ≤ p ∧ p ≤ 100000000000) :
    mdB p 100000 (100000 + al) 3 = true ∧ ((0 ≤ p ∧ 0 ≤ mdV p 100000 (100000 + al) 3 ∧ mdV p 100000 (100000 + al) 3 ≤ p) ∨ (p < 0 ∧ p ≤ mdV p 100000 (100000 + al) 3 ∧ mdV p 100000 (100000 + al) 3 ≤ 0)) := by
  obtain ⟨q, hq⟩ : ∃ q, 100000 + al = q := ⟨_, rfl⟩
  rw [hq]
  have hq1 : 100000 ≤ q := by omega
  have hq2 : q ≤ 10000000 := by omega
  obtain ⟨v, hv⟩ : ∃ v, dv (p * 100000) q 3 = v := ⟨_, rfl⟩
  have key : (0 ≤ p ∧ 0 ≤ v ∧ v ≤ p) ∨ (p < 0 ∧ p ≤ v ∧ v ≤ 0) := by
    have n3 := near3 (p * 100000) q (v * q) (by omega) (by rw [hv])
    by_cases hp0 : 0 ≤ p
    · left
      have e1 : p * 100000 ≤ p * q := Int.mul_le_mul_of_nonneg_left (by omega) hp0
      refine ⟨hp0, ?_, ?_⟩
      · rcases Int.lt_or_le v 0 with g | g
        · have : v * q ≤ (-1) * q := Int.mul_le_mul_of_nonneg_right (by omega) (by omega)
          omega
        · exact g
      · rcases Int.lt_or_le p v with g | g
        · have : (p + 1) * q ≤ v * q := Int.mul_le_mul_of_nonneg_right (by omega) (by omega)
          rw [Int.add_mul, Int.one_mul] at this
          omega
        · exact g
    · right
      have e1 : (-p) * 100000 ≤ (-p) * q := Int.mul_le_mul_of_nonneg_left (by omega) (by omega)
      rw [Int.neg_mul, Int.neg_mul] at e1
      refine ⟨by omega, ?_, ?_⟩
      · rcases Int.lt_or_le v p with g | g
        · have : v * q ≤ (p - 1) * q := Int.mul_le_mul_of_nonneg_right (by omega) (by omega)
          rw [Int.sub_mul, Int.one_mul] at this
          omega
        · exact g
      · rcases Int.lt_or_le 0 v with g | g
        · have : 1 * q ≤ v * q := Int.mul_le_mul_of_nonneg_right (by omega) (by omega)
          omega
        · exact g
  have hB : mdB p 100000 q 3 = true := by
    unfold mdB
    simp only [Bool.and_eq_true, decide_eq_true_eq]
    rw [hv]
    omega
  refine ⟨hB, ?_⟩
  have e : mdV p 100000 q 3 = v := by unfold mdV; rw [if_pos hB]; exact hv
  rw [e]; exact key
theorem net_no {u : Nat → T5} {m : Nat} {p : Int} (h : amt p = false) : mdB p 100000 (100000 + alW u m) 3 = false ∧ netV u m p = 0 := by
  have h' := amt_f h
  have : mdB p 100000 (100000 + alW u m) 3 = false := by
    unfold mdB
    rw [decide_eq_false (by omega)]
    rfl
  exact ⟨this, by unfold netV mdV; rw [this]; rfl⟩
theorem sh_ok {u : Nat → T5} {m : Nat} {p : Int} (h : UOk u m) (hm : m ≤ 6) (hp : amt p = true) (ha : alW u m ≠ 0) : Sh.ShOk (p - netV u m p) m (wsW u) := by
  have hp' := amt_t hp
  have ha' := al_bd h hm
  have hn := (net_bd ha'.1 ha'.2 hp').2
  refine ⟨?_, by omega, fun j hj => ?_, ?_⟩
  · unfold netV; omega
  · have := ws_bd h j hj; omega
  · unfold alW at ha ha'; omega
theorem share_bd {T S z v : Int} (hT : -100000000000 ≤ T ∧ T ≤ 100000000000) (hz : 0 ≤ z) (hzS : z ≤ S) (hS : 0 < S) (h : -S < v * S - T * z ∧ v * S - T * z < S) : -100000000000 ≤ v ∧ v ≤ 100000000000 := by
  have e1 : T * z ≤ 100000000000 * z := Int.mul_le_mul_of_nonneg_right hT.2 hz
  have e2 : -100000000000 * z ≤ T * z := Int.mul_le_mul_of_nonneg_right hT.1 hz
  constructor
  · rcases Int.lt_or_le v (-100000000000) with g | g
    · have : v * S ≤ (-100000000001) * S := Int.mul_le_mul_of_nonneg_right (by omega) (by omega)
      omega
    · exact g
  · rcases Int.lt_or_le 100000000000 v with g | g
    · have : 100000000001 * S ≤ v * S := Int.mul_le_mul_of_nonneg_right (by omega) (by omega)
      omega
    · exact g
theorem sm_mem {z : Nat → Int} : ∀ {n : Nat}, (∀ j, j < n → 0 ≤ z j) → ∀ i, i < n → z i ≤ Sh.sm z n
  | 0, _, i, hi => by omega
  | n + 1, h, i, hi => by
    rw [Sh.sm_succ]
    have h0 : 0 ≤ Sh.sm z n := by
      clear hi i
      induction n with
      | zero => exact Int.le_refl 0
      | succ n ih => rw [Sh.sm_succ]; have := h n (by omega); have := ih (fun j hj => h j (by omega)); omega
    have hn := h n (by omega)
    by_cases e : i = n
    · subst e; omega
    · have := sm_mem (n := n) (fun j hj => h j (by omega)) i (by omega)
      omega
theorem wi_bd {u : Nat → T5} {m : Nat} {p : Int} (h : UOk u m) (hm : m ≤ 6) (hp : amt p = true) : ∀ i, i < m → -100000000000 ≤ wiV u m p i ∧ wiV u m p i ≤ 100000000000 := fun i hi => by
  unfold wiV
  split
  · omega
  · rename_i ha
    have hs := sh_ok h hm hp ha
    have f := (Sh.shV_facts hs).2.1 i hi
    exact share_bd hs.1 (ws_bd h i hi).1 (sm_mem (fun j hj => (ws_bd h j hj).1) i hi) hs.2.2.2 f
theorem lv_bd {u : Nat → T5} {m : Nat} {p : Int} (h : UOk u m) (hm : m ≤ 6) (hp : amt p = true) (g : Int) : ∀ i, i < m → -100000000000 ≤ lvT (u i) g (netV u m p) (wiV u m p i) ∧ lvT (u i) g (netV u m p) (wiV u m p i) ≤ 100000000000 := fun i hi => by
  unfold lvT
  split
  · exact wi_bd h hm hp i hi
  · exact md_abs _ _ _ _
theorem gr_bd {u : Nat → T5} {m : Nat} {p : Int} (h : UOk u m) (hm : m ≤ 6) (hp : amt p = true) : ∀ i, i ≤ m → -(100000000000 * ((i : Int) + 1)) ≤ grV u (netV u m p) (wiV u m p) i ∧ grV u (netV u m p) (wiV u m p) i ≤ 100000000000 * ((i : Int) + 1)
  | 0, _ => by have := md_abs p 100000 (100000 + alW u m) 3; show _ ≤ netV u m p ∧ netV u m p ≤ _; unfold netV; omega
  | i + 1, hi => by
    have a := gr_bd h hm hp i (by omega)
    have b := lv_bd h hm hp (grV u (netV u m p) (wiV u m p) i) i (by omega)
    have e : grV u (netV u m p) (wiV u m p) (i + 1) = grV u (netV u m p) (wiV u m p) i + lvG (u i) (grV u (netV u m p) (wiV u m p) i) (netV u m p) (wiV u m p i) := rfl
    rw [e]
    generalize grV u (netV u m p) (wiV u m p) i = x at *
    unfold lvG
    split <;> omega
end Go.Proofs.Ytbhghghkgojpgaa
