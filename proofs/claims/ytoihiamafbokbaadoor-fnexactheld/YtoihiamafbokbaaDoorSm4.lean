/- Sums over runs of places, plain. Nothing of the program. -/
import Derived.Test.YtoihiamafbokbaaDoorCn
namespace Go.Proofs.YtoihiamafbokbaaDoor
set_option linter.unusedVariables false

def sm (z : Nat → Int) : Nat → Int
  | 0 => 0
  | n + 1 => sm z n + z n
theorem sm_succ (z : Nat → Int) (n : Nat) : sm z (n + 1) = sm z n + z n := rfl
theorem sm_bound {z : Nat → Int} {n : Nat} {M : Int} (hM : 0 ≤ M) (h : ∀ j, j < n → -M ≤ z j ∧ z j ≤ M) : ∀ a e, a ≤ e → e ≤ n → -(M * (e - a : Int)) ≤ sm z e - sm z a ∧ sm z e - sm z a ≤ M * (e - a : Int) := by
  intro a e
  induction e with
  | zero => intro h1 h2; have : a = 0 := by omega
            subst this; simp
  | succ k ih =>
    intro h1 h2
    by_cases g : a = k + 1
    · subst g; simp
    · obtain ⟨b1, b2⟩ := ih (by omega) (by omega)
      obtain ⟨c1, c2⟩ := h k (by omega)
      rw [sm_succ]
      have e1 : M * (((k + 1 : Nat) : Int) - (a : Int)) = M * ((k : Int) - (a : Int)) + M := by
        rw [show (((k + 1 : Nat) : Int) - (a : Int)) = ((k : Int) - (a : Int)) + 1 by omega, Int.mul_add, Int.mul_one]
      rw [e1]
      omega
/-- Up to 120 numbers of at most 10^15 stay within 2 * 10^17. -/
theorem sm_small {z : Nat → Int} {n : Nat} (hn : n ≤ 120) (h : ∀ j, j < n → -1000000000000000 ≤ z j ∧ z j ≤ 1000000000000000) {a e : Nat} (h1 : a ≤ e) (h2 : e ≤ n) : -200000000000000000 ≤ sm z e - sm z a ∧ sm z e - sm z a ≤ 200000000000000000 := by
  have := sm_bound (M := 1000000000000000) (by omega) h a e h1 h2
  omega
theorem sm_congr {y z : Nat → Int} : ∀ {n : Nat}, (∀ j, j < n → y j = z j) → sm y n = sm z n
  | 0, _ => rfl
  | n + 1, h => by rw [sm_succ, sm_succ, sm_congr (fun j hj => h j (by omega)), h n (by omega)]

end Go.Proofs.YtoihiamafbokbaaDoor
