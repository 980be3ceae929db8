/- The places of cells by their keys: the program's map; what lies in it, and how many keys it has. -/
import Derived.Test.YtpmnnfjabppahaaMc
namespace Go.Proofs.Ytpmnnfjabppahaa
open Go.ChangeShapes Go.WideShapes Go.ChangeAt Go.RowKit
set_option linter.unusedVariables false
set_option linter.unusedSimpArgs false

def CE6.key (r : CE6) : K3 := ⟨r.item, r.place, r.lot⟩
def CZ (c : Nat → CE6) : Prop := ∀ j, (c j).item.size ≤ maxLen ∧ (c j).place.size ≤ maxLen ∧ (c j).lot.size ≤ maxLen
theorem CZ.ok {c : Nat → CE6} (h : CZ c) (j : Nat) : (c j).key.ok := ⟨(h j).1, (h j).2.1, (h j).2.2⟩
noncomputable def plF (c : Nat → CE6) : Nat → K3 → Option Int
  | 0 => fun _ => none
  | k + 1 => upK (plF c k) (c k).key (k : Int)
noncomputable def plS (c : Nat → CE6) : Nat → Nat
  | 0 => 0
  | k + 1 => if (plF c k (c k).key).isSome then plS c k else plS c k + 1
/-- No two of the first n have the same key. -/
def DisP (n : Nat) (c : Nat → CE6) : Prop := ∀ i j, i < j → j < n → (c i).key ≠ (c j).key
theorem plF_some (c : Nat → CE6) (x : K3) : ∀ k, (plF c k x).isSome = true ↔ ∃ j, j < k ∧ (c j).key = x
  | 0 => by simp [plF]
  | k + 1 => by
    show (upK (plF c k) (c k).key (k : Int) x).isSome = true ↔ _
    unfold upK
    by_cases e : x = (c k).key
    · rw [if_pos e]
      exact ⟨fun _ => ⟨k, by omega, e.symm⟩, fun _ => rfl⟩
    · rw [if_neg e, plF_some c x k]
      constructor
      · rintro ⟨j, h1, h2⟩; exact ⟨j, by omega, h2⟩
      · rintro ⟨j, h1, h2⟩
        by_cases q : j = k
        · subst q; exact absurd h2.symm e
        · exact ⟨j, by omega, h2⟩
theorem plF_at {c : Nat → CE6} {n : Nat} (h : DisP n c) : ∀ k, k ≤ n → ∀ j, j < k → plF c k (c j).key = some (j : Int)
  | 0, _, j, hj => by omega
  | k + 1, hk, j, hj => by
    show upK (plF c k) (c k).key (k : Int) (c j).key = _
    unfold upK
    by_cases e : j = k
    · subst e; rw [if_pos rfl]
    · rw [if_neg (h j k (by omega) (by omega))]
      exact plF_at h k (by omega) j (by omega)
theorem plF_no {c : Nat → CE6} {k : Nat} {x : K3} (h : ∀ j, j < k → (c j).key ≠ x) : plF c k x = none := by
  cases g : plF c k x
  · rfl
  · obtain ⟨j, hj, e⟩ := (plF_some c x k).1 (by rw [g]; rfl)
    exact absurd e (h j hj)
theorem plS_le (c : Nat → CE6) : ∀ k, plS c k ≤ k
  | 0 => Nat.le_refl _
  | k + 1 => by
    have := plS_le c k
    show (if (plF c k (c k).key).isSome then plS c k else plS c k + 1) ≤ k + 1
    split <;> omega
theorem plS_all {c : Nat → CE6} : ∀ k, plS c k = k ↔ DisP k c
  | 0 => ⟨fun _ i j _ hj => by omega, fun _ => rfl⟩
  | k + 1 => by
    have hk := plS_le c k
    show (if (plF c k (c k).key).isSome then plS c k else plS c k + 1) = k + 1 ↔ _
    constructor
    · intro h
      split at h
      · omega
      · rename_i g
        have h1 := (plS_all (c := c) k).1 (by omega)
        intro i j hij hj
        by_cases e : j = k
        · subst e
          intro q
          exact g ((plF_some c _ j).2 ⟨i, hij, q⟩)
        · exact h1 i j hij (by omega)
    · intro h
      have h1 : DisP k c := fun i j hij hj => h i j hij (by omega)
      rw [if_neg (fun g => by
        obtain ⟨j, hj, e⟩ := (plF_some c _ k).1 g
        exact h j k hj (by omega) e), (plS_all k).2 h1]

theorem key_any (r : CE6) (w : World) : Calls Try.prog 107 #[r.val] w fun e w' => e = .returned r.key.val ∧ Below w.heap.size w w' := by
  obtain ⟨it, pl, lo, ex, qt, he⟩ := r
  unfold CE6.val
  show Calls _ _ _ _ fun e w' => e = .returned (.agg #[.string it, .string pl, .string lo]) ∧ Below w.heap.size w w'
  go_enter Try.func107, Try.ntmps107
  go_wp2
  go_returns
  exact ⟨rfl, by go_grown⟩

set_option maxRecDepth 20000 in
set_option maxHeartbeats 4000000 in
theorem places_any (ad : Option Addr) (len cap : Nat) (c : Nat → CE6) (w : World) (h : (len : Int) ≤ 1048576) (hr : CEr w ad len c) (hz : CZ c) :
    Calls Try.prog 71 #[.slice ad len cap] w fun e w' => ∃ b, e = .returned (.map (some b)) ∧ Hid (MK w' b (plS c len) (plF c len) ∧ w.heap.size ≤ b) ∧ Below w.heap.size w w' := by
  have HR : Hid (CEr w ad len c) := hr
  have HZ : Hid (CZ c) := hz
  clear hr hz
  have hmm : ∀ w : World, (Instr.makeMap 99 (some (.int .i64 (len : Int)))).run Try.prog w = .ok (.map (some w.heap.size)) (w.alloc (.map #[] 0)) := fun w => by
    simp [Instr.makeMap, run_underlying Try.underlying99, asInt, asIntOf, Result.andThen]
  go_enter Try.func71, Try.ntmps71
  go_wp2
  go_loopw [11] (fun i wr => ∃ (k : Nat), k ≤ len ∧ i = .int .i64 (k : Int) ∧ Hid (MK wr w.heap.size (plS c k) (plF c k) ∧ Below w.heap.size w wr)) (fun i _ => len - (intOf i).toNat)
  case atStart => exact ⟨0, Nat.zero_le _, rfl, MK.made _, (Below.refl _ _).alloc (Nat.le_refl _) _⟩
  case round =>
    obtain ⟨k, hk, rfl, HH⟩ := hrel
    by_cases hlt : k < len
    · have hlt2 : (k : Int) < (len : Int) := by omega
      obtain ⟨kb, off, rfl, hkb⟩ := HR.out.addr (by omega)
      have A1 := (HR.out.below HH.out.2).cell hlt
      have hok := HZ.out.ok k
      obtain ⟨x, hx⟩ : ∃ x, c k = x := ⟨_, rfl⟩
      have HX : Hid (c k = x) := hx
      rw [hx] at A1 hok
      clear hx
      have HO : Hid x.key.ok := hok
      clear hok
      obtain ⟨it, pl, lo, ex, qt, he⟩ := x
      obtain ⟨c0, c1, c2, c3, c4, c5⟩ := A1
      simp only at c0 c1 c2 c3 c4 c5
      go_wp2_with (first
        | (go_at_call 107; refine (key_any ⟨it, pl, lo, ex, qt, he⟩ _).mono ?_; rintro e w1 ⟨rfl, b1⟩; have B1 : Below wr.heap.size wr w1 := bel_on (by go_grown) b1; have HK1 : Hid (MK w1 w.heap.size (plS c k) (plF c k)) := HH.out.1.below B1 HH.out.1.lt; have HB1 : Hid (Below w.heap.size w w1) := bel_on HH.out.2 B1; clear b1 B1)
        | (at_mapUpdate; refine wpList_update_mk _ rfl _ _ _ rfl w.heap.size (plS c k) (plF c k) rfl HK1.out (by have := plS_le c k; unfold maxLen; omega) (⟨it, pl, lo, ex, qt, he⟩ : CE6).key HO.out (k : Int) rfl rfl ?_; intro w2 hm2 hg2))
      have HM2 : Hid (MK w2 w.heap.size (plS c (k + 1)) (plF c (k + 1))) := hid (by
        show MK w2 w.heap.size (if (plF c k (c k).key).isSome then plS c k else plS c k + 1) (upK (plF c k) (c k).key (k : Int))
        rw [HX.out]; exact hm2)
      have HB2 : Hid (Below w.heap.size w w2) := Below.grown HB1.out hg2 (by have := HK1.out.lt; omega) (fun q hq => by simp at hq; omega)
      clear hm2 hg2
      go_wp2
      go_roundw
      case rel => exact ⟨k + 1, by omega, by go_num, HM2.out, HB2.out⟩
      case measure => simp [intOf]; omega
    · obtain rfl : k = len := by omega
      have lkk : ¬ (k : Int) < (k : Int) := by omega
      go_wp2
      go_returns
      exact ⟨_, rfl, ⟨HH.out.1, Nat.le_refl _⟩, HH.out.2⟩
end Go.Proofs.Ytpmnnfjabppahaa
