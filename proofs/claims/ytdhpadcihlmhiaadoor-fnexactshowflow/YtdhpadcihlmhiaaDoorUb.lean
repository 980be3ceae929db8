/- Rows of texts: in memory; the laws' own functions over them; whether one stands among them, in the program and in the model. -/
import Derived.Test.YtdhpadcihlmhiaaDoorUa
import Derived.Deep.QuietTactic
namespace Go.Proofs.YtdhpadcihlmhiaaDoor
open Go.ChangeShapes Go.WideShapes Go.ChangeAt Go.RowKit
set_option linter.unusedVariables false
set_option linter.unusedSimpArgs false

def STR (w : World) (ad : Option Addr) (len : Nat) (z : Nat → ByteArray) : Prop :=
  len = 0 ∨ ∃ k off, ad = some ⟨k, off, none⟩ ∧ k < w.heap.size ∧ ∀ j, j < len → w.cell? ⟨k, off + j, none⟩ = some (.string (z j))
section
variable {w w' : World} {ad : Option Addr} {len n : Nat} {z : Nat → ByteArray}
theorem STR.below (H : STR w ad len z) (t : Below w.heap.size w w') : STR w' ad len z := by
  rcases H with h | ⟨k, off, e, hk, hc⟩
  · exact .inl h
  · refine .inr ⟨k, off, e, Nat.lt_of_lt_of_le hk t.size, fun j hj => ?_⟩
    rw [World.cell?_of_block (w := w) (t.block k hk)]; exact hc j hj
theorem STR.cell {k off : Nat} (H : STR w (some ⟨k, off, none⟩) len z) {j : Nat} (hj : j < len) : w.cell? ⟨k, off + j, none⟩ = some (.string (z j)) := by
  rcases H with h | ⟨k', off', e, hk, hc⟩
  · omega
  · simp only [Option.some.injEq, Addr.mk.injEq] at e
    obtain ⟨rfl, rfl, _⟩ := e
    exact hc j hj
theorem STR.addr (H : STR w ad len z) (h : 0 < len) : ∃ k off, ad = some ⟨k, off, none⟩ ∧ k < w.heap.size := by
  rcases H with h' | ⟨k', off', e, hk, hc⟩
  · omega
  · exact ⟨k', off', e, hk⟩
theorem STR.mono (H : STR w ad len z) (h : n ≤ len) : STR w ad n z := by
  rcases H with h' | ⟨k', off', e, hk, hc⟩
  · exact .inl (by omega)
  · exact .inr ⟨k', off', e, hk, fun j hj => hc j (by omega)⟩
theorem STR.of_block {b : Nat} {cs : Array Value} {t : TypeId} (H : CB w b cs t) (n : Nat) (z : Nat → ByteArray) (h : ∀ j, j < n → cs[j]? = some (.string (z j))) : STR w (some ⟨b, 0, none⟩) n z :=
  .inr ⟨b, 0, rfl, H.lt, fun j hj => by rw [Nat.zero_add, H.cell]; exact h j hj⟩
end

open Classical in
noncomputable def hasS (n : Nat) (z : Nat → ByteArray) (s : ByteArray) : Bool := decide (∃ j, j < n ∧ z j = s)
open Classical in
theorem hasS_t {n : Nat} {z : Nat → ByteArray} {s : ByteArray} (h : ∃ j, j < n ∧ z j = s) : hasS n z s = true := by unfold hasS; exact decide_eq_true h
open Classical in
theorem hasS_f {n : Nat} {z : Nat → ByteArray} {s : ByteArray} (h : ¬ ∃ j, j < n ∧ z j = s) : hasS n z s = false := by unfold hasS; exact decide_eq_false h

theorem isS_step {z : Nat → ByteArray} {s : ByteArray} {k : Nat} (h : ∀ j, j < k → z j ≠ s) (g : z k ≠ s) : ∀ j, j < k + 1 → z j ≠ s := fun j hj => by
  by_cases e : j = k
  · subst e; exact g
  · exact h j (by omega)

set_option maxRecDepth 20000 in
set_option maxHeartbeats 2000000 in
theorem l10Has_any (ad : Option Addr) (len cap : Nat) (z : Nat → ByteArray) (s : ByteArray) (w : World) (h : (len : Int) ≤ 1048576) (hr : STR w ad len z) :
    Calls Tryd.prog 90 #[.slice ad len cap, .string s] w fun e w' => e = .returned (.bool (hasS len z s)) ∧ w' = w := by
  have HR : Hid (STR w ad len z) := hr
  clear hr
  go_enter Tryd.func90, Tryd.ntmps90
  go_wp2
  go_loop [5] (fun i => ∃ k : Nat, k ≤ len ∧ i = .int .i64 (k : Int) ∧ Hid (∀ j, j < k → z j ≠ s)) (fun i => len - (intOf i).toNat)
  case atStart => exact ⟨0, Nat.zero_le _, rfl, fun j hj => by omega⟩
  case round =>
    obtain ⟨k, hk, rfl, HN⟩ := hrel
    by_cases hlt : k < len
    · have hlt2 : (k : Int) < (len : Int) := by omega
      obtain ⟨kb, off, rfl, _⟩ := HR.out.addr (by omega)
      have c0 := HR.out.cell hlt
      obtain ⟨t, ht⟩ : ∃ t, z k = t := ⟨_, rfl⟩
      have HT : Hid (z k = t) := ht
      rw [ht] at c0
      clear ht
      by_cases g : t = s
      · have HF : Hid (hasS len z s = true) := hid (hasS_t ⟨k, hlt, HT.out.trans g⟩)
        have e1 := lists_t g
        clear g
        go_wp2
        go_returns
        exact ⟨ret_bool HF.out.symm, rfl⟩
      · have HF : Hid (∀ j, j < k + 1 → z j ≠ s) := hid (isS_step HN.out (by rw [HT.out]; exact g))
        have e1 := lists_f g
        clear g
        go_wp2
        go_round
        case rel => exact ⟨k + 1, by omega, by go_num, HF⟩
        case measure => simp [intOf]; omega
    · obtain rfl : k = len := by omega
      have lkk : ¬ (k : Int) < (k : Int) := by omega
      have HF : Hid (hasS k z s = false) := hid (hasS_f fun ⟨j, h1, h2⟩ => HN.out j h1 h2)
      go_wp2
      go_returns
      exact ⟨ret_bool HF.out.symm, rfl⟩

set_option maxRecDepth 20000 in
set_option maxHeartbeats 2000000 in
theorem indexS_any (ad : Option Addr) (len cap : Nat) (z : Nat → ByteArray) (s : ByteArray) (w : World) (h : (len : Int) ≤ 1048576) (hr : STR w ad len z) :
    Calls Tryd.prog 136 #[.slice ad len cap, .string s] w fun e w' => ∃ v : Int, e = .returned (.int .i64 v) ∧ decide (0 ≤ v) = hasS len z s ∧ w' = w := by
  have HR : Hid (STR w ad len z) := hr
  clear hr
  go_enter Tryd.func136, Tryd.ntmps136
  go_wp2
  go_loop [8] (fun i => ∃ k : Nat, k ≤ len ∧ i = .int .i64 (k : Int) ∧ Hid (∀ j, j < k → z j ≠ s)) (fun i => len - (intOf i).toNat)
  case atStart => exact ⟨0, Nat.zero_le _, rfl, fun j hj => by omega⟩
  case round =>
    obtain ⟨k, hk, rfl, HN⟩ := hrel
    by_cases hlt : k < len
    · have hlt2 : (k : Int) < (len : Int) := by omega
      obtain ⟨kb, off, rfl, _⟩ := HR.out.addr (by omega)
      have c0 := HR.out.cell hlt
      obtain ⟨t, ht⟩ : ∃ t, z k = t := ⟨_, rfl⟩
      have HT : Hid (z k = t) := ht
      rw [ht] at c0
      clear ht
      by_cases g : s = t
      · have HF : Hid (hasS len z s = true) := hid (hasS_t ⟨k, hlt, HT.out.trans g.symm⟩)
        have e1 := lists_t g
        clear g
        go_wp2
        go_returns
        exact ⟨_, rfl, by rw [HF.out]; simp, rfl⟩
      · have HF : Hid (∀ j, j < k + 1 → z j ≠ s) := hid (isS_step HN.out (by rw [HT.out]; exact fun q => g q.symm))
        have e1 := lists_f g
        clear g
        go_wp2
        go_round
        case rel => exact ⟨k + 1, by omega, by go_num, HF⟩
        case measure => simp [intOf]; omega
    · obtain rfl : k = len := by omega
      have lkk : ¬ (k : Int) < (k : Int) := by omega
      have HF : Hid (hasS k z s = false) := hid (hasS_f fun ⟨j, h1, h2⟩ => HN.out j h1 h2)
      go_wp2
      go_returns
      exact ⟨-1, rfl, by rw [HF.out]; simp, rfl⟩
theorem containsS_eq (ad : Option Addr) (len cap : Nat) (z : Nat → ByteArray) (s : ByteArray) (v : Bool) (w : World) (h : (len : Int) ≤ 1048576) (hr : STR w ad len z) (hv : hasS len z s = v) :
    Calls Tryd.prog 121 #[.slice ad len cap, .string s] w fun e w' => e = .returned (.bool v) ∧ w' = w := by
  have HR : Hid (STR w ad len z) := hr
  clear hr
  go_enter Tryd.func121, Tryd.ntmps121
  go_wp2_with (go_at_call 136; refine (indexS_any _ _ _ z s _ h HR.out).mono ?_; rintro e w1 ⟨x, rfl, hx, rfl⟩)
  all_goals go_returns
  all_goals exact ⟨ret_bool (by rw [← hv, ← hx]), rfl⟩
theorem l10Has_eq (ad : Option Addr) (len cap : Nat) (z : Nat → ByteArray) (s : ByteArray) (v : Bool) (w : World) (h : (len : Int) ≤ 1048576) (hr : STR w ad len z) (hv : hasS len z s = v) :
    Calls Tryd.prog 90 #[.slice ad len cap, .string s] w fun e w' => e = .returned (.bool v) ∧ w' = w := by
  subst hv; exact l10Has_any ad len cap z s w h hr
end Go.Proofs.YtdhpadcihlmhiaaDoor
