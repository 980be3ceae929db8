/- Charts, plain: the way up from an account, how deep it lies, when a chart is right. Nothing of the program. -/
import Derived.Test.YtapailihjlfkgaaDoorRr
import Derived.Test.YtapailihjlfkgaaDoorNm
namespace Go.Proofs.YtapailihjlfkgaaDoor
set_option linter.unusedVariables false

def par (c : Nat → C3) (i : Nat) : Int := (c i).places

/-- The way up from s (0: the top; s + 1: the account at the place s) to the first that fits. -/
def upW (P : Nat → Int) (f : Nat → Bool) : Nat → Option Nat
  | 0 => if f 0 then some 0 else none
  | s + 1 => if f (s + 1) then some (s + 1) else if h : (P s + 1).toNat ≤ s then upW P f (P s + 1).toNat else none
termination_by s => s
decreasing_by omega

def dep (P : Nat → Int) : Nat → Nat
  | 0 => 0
  | s + 1 => if h : (P s + 1).toNat ≤ s then dep P (P s + 1).toNat + 1 else 0
termination_by s => s
decreasing_by omega

def Low (P : Nat → Int) (n : Nat) : Prop := ∀ i, i < n → -1 ≤ P i ∧ P i < (i : Int)
theorem Low.mono {P : Nat → Int} {n m : Nat} (h : Low P n) (hm : m ≤ n) : Low P m := fun i hi => h i (by omega)

theorem upW_zero (P : Nat → Int) (f : Nat → Bool) : upW P f 0 = if f 0 then some 0 else none := by rw [upW]
theorem upW_hit {P : Nat → Int} {f : Nat → Bool} {s : Nat} (h : f s = true) : upW P f s = some s := by
  cases s <;> rw [upW] <;> simp [h]
theorem upW_top {P : Nat → Int} {f : Nat → Bool} (h : f 0 = false) : upW P f 0 = none := by rw [upW]; simp [h]
theorem upW_step {P : Nat → Int} {f : Nat → Bool} {n s : Nat} (L : Low P n) (hs : s < n) (h : f (s + 1) = false) : upW P f (s + 1) = upW P f (P s + 1).toNat := by
  have := L s hs
  rw [upW, if_neg (by simp [h]), dif_pos (by omega)]
theorem dep_zero (P : Nat → Int) : dep P 0 = 0 := by rw [dep]
theorem dep_step {P : Nat → Int} {n s : Nat} (L : Low P n) (hs : s < n) : dep P (s + 1) = dep P (P s + 1).toNat + 1 := by
  have := L s hs
  rw [dep, dif_pos (by omega)]

theorem upW_some {P : Nat → Int} {f : Nat → Bool} : ∀ {s t : Nat}, upW P f s = some t → t ≤ s ∧ f t = true := by
  intro s
  induction s using Nat.strongRecOn with
  | _ s ih =>
    intro t h
    cases s with
    | zero =>
      rw [upW] at h
      split at h
      · cases h; exact ⟨Nat.le_refl _, by assumption⟩
      · cases h
    | succ s =>
      rw [upW] at h
      split at h
      · cases h; exact ⟨Nat.le_refl _, by assumption⟩
      · split at h
        · have := ih _ (by omega) h
          exact ⟨by omega, this.2⟩
        · cases h

/-- Is the place p met. -/
def atP (p : Int) (s : Nat) : Bool := decide ((s : Int) - 1 = p)
theorem atP_iff {p : Int} {s : Nat} : atP p s = true ↔ (s : Int) - 1 = p := by simp [atP]

/-- Both charts are one up to n. -/
theorem upW_congr {P Q : Nat → Int} {f g : Nat → Bool} : ∀ {s : Nat}, (∀ i, i < s → P i = Q i) → (∀ i, i ≤ s → f i = g i) → upW P f s = upW Q g s := by
  intro s
  induction s using Nat.strongRecOn with
  | _ s ih =>
    intro h1 h2
    cases s with
    | zero => rw [upW, upW, h2 0 (Nat.le_refl _)]
    | succ s =>
      rw [upW, upW, h2 (s + 1) (Nat.le_refl _), h1 s (by omega)]
      by_cases h : (Q s + 1).toNat ≤ s
      · rw [dif_pos h, dif_pos h, ih _ (by omega) (fun i hi => h1 i (by omega)) (fun i hi => h2 i (by omega))]
      · rw [dif_neg h, dif_neg h]
theorem dep_congr {P Q : Nat → Int} : ∀ {s : Nat}, (∀ i, i < s → P i = Q i) → dep P s = dep Q s := by
  intro s
  induction s using Nat.strongRecOn with
  | _ s ih =>
    intro h1
    cases s with
    | zero => rw [dep, dep]
    | succ s =>
      rw [dep, dep, h1 s (by omega)]
      by_cases h : (Q s + 1).toNat ≤ s
      · rw [dif_pos h, dif_pos h, ih _ (by omega) (fun i hi => h1 i (by omega))]
      · rw [dif_neg h, dif_neg h]

/-- The account at the place i may stand where it stands. -/
structure OkAt (c : Nat → C3) (i : Nat) : Prop where
  name : nameB (c i).code = true
  kind : 1 ≤ (c i).step ∧ (c i).step ≤ 5
  once : ∀ k, k < i → (c k).code ≠ (c i).code
  way : upW (par c) (atP (par c i)) i ≠ none
  same : 0 ≤ par c i → (c (par c i).toNat).step = (c i).step
  deep : dep (par c) (par c i + 1).toNat ≤ 8

theorem OkAt.low {c : Nat → C3} {i : Nat} (h : OkAt c i) : -1 ≤ par c i ∧ par c i < (i : Int) := by
  cases e : upW (par c) (atP (par c i)) i with
  | none => exact absurd e h.way
  | some t =>
    obtain ⟨h1, h2⟩ := upW_some e
    have := atP_iff.1 h2
    omega

def RightTo (c : Nat → C3) (n : Nat) : Prop := ∀ i, i < n → OkAt c i
theorem RightTo.low {c : Nat → C3} {n : Nat} (h : RightTo c n) : Low (par c) n := fun i hi => (h i hi).low
theorem RightTo.mono {c : Nat → C3} {n m : Nat} (h : RightTo c n) (hm : m ≤ n) : RightTo c m := fun i hi => h i (by omega)
theorem RightTo.succ {c : Nat → C3} {n : Nat} (h : RightTo c n) (k : OkAt c n) : RightTo c (n + 1) := fun i hi => by
  by_cases e : i = n
  · exact e ▸ k
  · exact h i (by omega)
theorem RightTo.dep_le {c : Nat → C3} {n : Nat} (h : RightTo c n) : ∀ s, s ≤ n → dep (par c) s ≤ 9 := by
  intro s hs
  cases s with
  | zero => rw [dep_zero]; omega
  | succ s =>
    rw [dep_step h.low (by omega)]
    have := (h s (by omega)).deep
    show dep (par c) (par c s + 1).toNat + 1 ≤ 9
    omega

def Right (c : Nat → C3) (n : Nat) : Prop := 1 ≤ n ∧ n ≤ 120 ∧ RightTo c n
open Classical in
noncomputable def chartB (n : Nat) (c : Nat → C3) : Bool := decide (Right c n)
theorem chartB_iff {n : Nat} {c : Nat → C3} : chartB n c = true ↔ Right c n := by simp [chartB]
theorem chartB_no {n : Nat} {c : Nat → C3} (h : ¬ Right c n) : chartB n c = false := by simp [chartB, h]

end Go.Proofs.YtapailihjlfkgaaDoor
