/- Plain facts on the program's way of writing an amount: noughts ahead of its numeral, parted at the point. Nothing of the program. -/
import Derived.Test.YtdhpadcihlmhiaaDoorVc
import Derived.Test.YtdhpadcihlmhiaaDoorVd
namespace Go.Proofs.YtdhpadcihlmhiaaDoor.Mny
set_option linter.unusedVariables false
open Go.Lib

/-- The numeral with so many noughts ahead that it has at least p + 1 digits. -/
def padL (a p : Nat) : List UInt8 := zeros (p + 1 - (decDigits a).length) ++ decDigits a

theorem padL_len (a p : Nat) : p + 1 ≤ (padL a p).length := by
  unfold padL; rw [List.length_append, zeros_len]; omega

theorem padL_all (a p : Nat) : (padL a p).all isD = true := by
  unfold padL; rw [List.all_append, zeros_all, (dec_props a).1]; rfl

theorem padL_val (a p : Nat) : val (padL a p) = a := by
  unfold padL; rw [val_append, zeros_val, (dec_props a).2.1]; omega

theorem canon_take {l : List UInt8} {n : Nat} (h : canon l = true) (hn : 1 ≤ n) (hl : l.length ≠ 1 ∨ n = 1) : canon (l.take n) = true := by
  have hall := canon_all h
  cases l with
  | nil => simp [canon] at h
  | cons x t =>
    obtain ⟨m, rfl⟩ : ∃ m, n = m + 1 := ⟨n - 1, by omega⟩
    rw [List.take_succ_cons]
    unfold canon at h ⊢
    simp only [Bool.and_eq_true, Bool.or_eq_true] at h ⊢
    refine ⟨?_, ?_⟩
    · simp only [List.all_cons, Bool.and_eq_true] at hall ⊢
      exact ⟨hall.1, List.all_eq_true.mpr fun y hy => List.all_eq_true.mp hall.2 y (List.mem_of_mem_take hy)⟩
    · rcases h.2 with h2 | h2
      · have e : x :: t = [48] := by simpa using h2
        simp only [List.cons.injEq] at e
        obtain ⟨rfl, rfl⟩ := e
        left; simp
      · right; exact h2

theorem padL_head (a p : Nat) : canon ((padL a p).take ((padL a p).length - p)) = true := by
  by_cases h : (decDigits a).length ≥ p + 1
  · have e : padL a p = decDigits a := by
      unfold padL; rw [show p + 1 - (decDigits a).length = 0 by omega]; rfl
    rw [e]
    by_cases h1 : (decDigits a).length - p = (decDigits a).length
    · rw [h1, List.take_of_length_le (Nat.le_refl _)]; exact (dec_props a).2.2
    · exact canon_take (dec_props a).2.2 (by omega) (by omega)
  · have hl : (padL a p).length = p + 1 := by unfold padL; rw [List.length_append, zeros_len]; omega
    rw [hl, show p + 1 - p = 1 by omega]
    have e : padL a p = 48 :: (zeros (p - (decDigits a).length) ++ decDigits a) := by
      unfold padL
      rw [show p + 1 - (decDigits a).length = (p - (decDigits a).length) + 1 by omega]
      simp [zeros, List.replicate_succ]
    rw [e]; rfl

/-- What the program writes is what the model writes. -/
theorem padL_show (a p : Nat) : (padL a p).take ((padL a p).length - p) ++ (if p = 0 then [] else 46 :: (padL a p).drop ((padL a p).length - p)) = showL a p := by
  have hlen := padL_len a p
  have hF : ((padL a p).drop ((padL a p).length - p)).length = p := by rw [List.length_drop]; omega
  have hFd : ((padL a p).drop ((padL a p).length - p)).all isD = true := List.all_eq_true.mpr fun y hy => List.all_eq_true.mp (padL_all a p) y (List.mem_of_mem_drop hy)
  have := (show_iff ((padL a p).take ((padL a p).length - p)) ((padL a p).drop ((padL a p).length - p)) hFd).mpr (padL_head a p)
  rw [List.take_append_drop, padL_val, hF] at this
  exact this.symm

theorem padL_zero (a : Nat) : padL a 0 = showL a 0 := by
  have := padL_show a 0
  simpa using this

end Go.Proofs.YtdhpadcihlmhiaaDoor.Mny
