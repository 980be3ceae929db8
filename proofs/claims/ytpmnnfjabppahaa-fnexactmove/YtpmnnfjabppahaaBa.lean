/- A quantity brought into a stock, plain (brT, brN, brC); owned rows of cells. -/
import Derived.Test.YtpmnnfjabppahaaSa
import Derived.Test.YtpmnnfjabppahaaKc
namespace Go.Proofs.Ytpmnnfjabppahaa
open Go Go.ChangeShapes Go.WideShapes Go.ChangeAt Go.RowKit
set_option linter.unusedVariables false
set_option linter.unusedSimpArgs false

theorem isK_congr {c d : Nat → CE6} {x : K3} {j : Nat} (h : (d j).key = (c j).key) : isK d x j = isK c x j := by unfold isK; rw [h]
theorem fstF_congr {p q : Nat → Bool} : ∀ f s, (∀ j, s ≤ j → j < s + f → p j = q j) → fstF p f s = fstF q f s
  | 0, s, _ => rfl
  | f + 1, s, h => by
    have e := fstF_congr f (s + 1) (fun j h1 h2 => h j (by omega) (by omega))
    have e0 := h s (Nat.le_refl _) (by omega)
    unfold fstF
    rw [e0, e]
theorem fnd_congr {n : Nat} {c d : Nat → CE6} {x : K3} (h : ∀ j, j < n → (d j).key = (c j).key) : fnd n d x = fnd n c x := fstF_congr n 0 (fun j _ hj => isK_congr (h j (by omega)))
theorem fnd_cases (n : Nat) (c : Nat → CE6) (x : K3) : (fnd n c x = -1 ∧ ∀ j, j < n → (c j).key ≠ x) ∨ ∃ k : Nat, fnd n c x = (k : Int) ∧ k < n ∧ (c k).key = x := by
  rcases fstF_spec (isK c x) n 0 with ⟨h1, h2⟩ | ⟨k, h1, _, h3, h4, _⟩
  · exact .inl ⟨h1, fun j hj => isK_n (h2 j (Nat.zero_le _) (by omega))⟩
  · exact .inr ⟨k, h1, by omega, isK_p h4⟩
theorem look_some {n k : Nat} {c : Nat → CE6} {x : K3} (h : DisP n c) (hk : k < n) (e : (c k).key = x) : plF c n x = some (k : Int) := by rw [← e]; exact plF_at h n (Nat.le_refl _) k hk
noncomputable def brT (n : Nat) (d : Nat → CE6) (x : CE6) : Int := if 0 ≤ fnd n d x.key then (if 1000000 < (d (fnd n d x.key).toNat).qty + x.qty then 4 else 0) else (if n = 100 then 4 else 0)
noncomputable def brN (n : Nat) (d : Nat → CE6) (x : CE6) : Nat := if 0 ≤ fnd n d x.key then n else n + 1
def addQ (y : CE6) (q : Int) : CE6 := ⟨y.item, y.place, y.lot, y.exp, y.qty + q, y.hld⟩
noncomputable def brC (n : Nat) (d : Nat → CE6) (x : CE6) : Nat → CE6 := if 0 ≤ fnd n d x.key then putC d (fnd n d x.key).toNat (addQ (d (fnd n d x.key).toNat) x.qty) else putC d n x
theorem br_at {n k : Nat} {d : Nat → CE6} {x : CE6} (h : fnd n d x.key = (k : Int)) : brT n d x = (if 1000000 < (d k).qty + x.qty then 4 else 0) ∧ brN n d x = n ∧ brC n d x = putC d k (addQ (d k) x.qty) := by
  have h0 : (0 : Int) ≤ fnd n d x.key := by rw [h]; omega
  refine ⟨?_, ?_, ?_⟩
  · unfold brT; rw [if_pos h0, h]; rfl
  · unfold brN; rw [if_pos h0]
  · unfold brC; rw [if_pos h0, h]; rfl
theorem br_no {n : Nat} {d : Nat → CE6} {x : CE6} (h : fnd n d x.key = -1) : brT n d x = (if n = 100 then 4 else 0) ∧ brN n d x = n + 1 ∧ brC n d x = putC d n x := by
  have h0 : ¬ (0 : Int) ≤ fnd n d x.key := by rw [h]; omega
  refine ⟨?_, ?_, ?_⟩
  · unfold brT; rw [if_neg h0]
  · unfold brN; rw [if_neg h0]
  · unfold brC; rw [if_neg h0]
theorem rowCE6_congr {c d : Nat → CE6} : ∀ {n : Nat}, (∀ j, j < n → c j = d j) → rowCE6 c n = rowCE6 d n
  | 0, _ => rfl
  | n + 1, h => by simp only [rowCE6]; rw [rowCE6_congr (fun j hj => h j (by omega)), h n (by omega)]
theorem rowCE6_put (d : Nat → CE6) (n : Nat) (x : CE6) : rowCE6 (putC d n x) (n + 1) = rowCE6 d n ++ [.string x.item, .string x.place, .string x.lot, .int .i64 x.exp, .int .i64 x.qty, .int .i64 x.hld] := by
  simp only [rowCE6]
  rw [rowCE6_congr (c := putC d n x) (d := d) (fun j hj => by unfold putC; rw [if_neg (by omega)])]
  simp [putC]
theorem own_ro2 {w : World} {lo n cp : Nat} {ad : Option Addr} {d : Nat → CE6} (h : w.ownsRow lo 28 6 (.slice ad n cp) n (rowCE6 d n)) (hn : 0 < n) : ∃ g, ad = some ⟨g, 0, none⟩ ∧ lo ≤ g ∧ RO w g n d := by
  obtain ⟨ad2, cp2, e, _, ho⟩ := ownCE6_of h
  cases e
  exact own_ro ho hn
end Go.Proofs.Ytpmnnfjabppahaa
