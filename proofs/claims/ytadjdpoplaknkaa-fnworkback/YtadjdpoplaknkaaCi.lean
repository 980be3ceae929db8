/- Contracts of the laws' own functions over rows of whole numbers: the length taken off, the copy, the comparison. -/
import Derived.Test.YtadjdpoplaknkaaDw
import Derived.Test.YtadjdpoplaknkaaIr
import Derived.Outline
import Derived.Laws.MakeOwn
import Derived.Deep.QuietTactic
import Derived.Deep.RegionWith
namespace Go.Proofs.Ytadjdpoplaknkaa
open Go.ChangeShapes Go.WideShapes Go.ChangeAt Go.RowKit
set_option linter.unusedVariables false
set_option linter.unusedSimpArgs false

theorem szIntS_in (ad : Option Addr) (len cap : Nat) (w : World) (h : (len : Int) ≤ 1048576) :
    Calls Try.prog 44 #[.slice ad len cap, .int .i64 1048576] w fun e w' => e = .returned (.int .i64 (1048576 - (len : Int))) ∧ w' = w := by
  have h2 : (0 : Int) ≤ 1048576 - (len : Int) := by omega
  go_enter Try.func44, Try.ntmps44
  go_wp2
  go_returns
  exact ⟨rfl, rfl⟩

theorem szIntS_out (ad : Option Addr) (len cap : Nat) (w : World) (h : (1048576 : Int) < (len : Int)) (h2 : (len : Int) ≤ 9223372036854775807) :
    Calls Try.prog 44 #[.slice ad len cap, .int .i64 1048576] w fun e w' => e = .returned (.int .i64 (-1)) ∧ w' = w := by
  have h3 : 1048576 - (len : Int) < 0 := by omega
  go_enter Try.func44, Try.ntmps44
  go_wp2
  go_returns
  exact ⟨rfl, rfl⟩

/-- A new row of n noughts. -/
def zeros (n : Nat) : Array Value := madeCells #[.int .i64 0] n
theorem zeros_size (n : Nat) : (zeros n).size = n := size_madeCells _ _

theorem mk24 (n : Nat) (h : (n : Int) ≤ 1048576) (w : World) : (Instr.makeSlice 24 (.int .i64 (n : Int)) (.int .i64 (n : Int))).run Try.prog w = .ok (.slice (some ⟨w.heap.size, 0, none⟩) n n) (w.alloc (.cells (zeros n) 3)) := by
  obtain ⟨i, hi⟩ : ∃ i, Try.prog.info? 3 = some i := ⟨_, rfl⟩
  have hz : i.zero = some (.int .i64 0) := by
    have : (Try.prog.info? 3).bind (·.zero) = some (.int .i64 0) := by kernel_rfl
    rw [hi] at this; exact this
  have hs : i.size = 1 := by
    have : (Try.prog.info? 3).map (·.size) = some 1 := by kernel_rfl
    rw [hi] at this; simpa using this
  have hb : i.bytes = 8 := by
    have : (Try.prog.info? 3).map (·.bytes) = some 8 := by kernel_rfl
    rw [hi] at this; simpa using this
  have hr := run_make (P := Try.prog) w 24 3 i (.int .i64 0) Try.underlying24 hi hz .i64 .i64 n n (by omega) (by omega) (by rw [hb]; omega) (by omega)
  simp only [Int.toNat_natCast, hs, Nat.mul_one] at hr
  exact hr

set_option maxHeartbeats 1000000 in
theorem toIntS_any (ad : Option Addr) (len cap : Nat) (z : Nat → Int) (w : World) (h : (len : Int) ≤ 1048576) (hr : IR w ad len z) :
    Calls Try.prog 45 #[.slice ad len cap] w fun e w' => e = .returned (.slice (some ⟨w.heap.size, 0, none⟩) len len) ∧ IR w' (some ⟨w.heap.size, 0, none⟩) len z ∧ Below w.heap.size w w' := by
  have HR : Hid (IR w ad len z) := hr
  have hmk := mk24 len h
  clear hr
  go_enter Try.func45, Try.ntmps45
  go_wp2
  go_loopw [4] (fun i wr => ∃ (k : Nat) (cs : Array Value), k ≤ len ∧ i = .int .i64 (k : Int) ∧ CB wr w.heap.size cs 3 ∧ cs.size = len ∧ (∀ j, j < k → cs[j]? = some (.int .i64 (z j))) ∧ Below w.heap.size w wr) (fun i _ => len - (intOf i).toNat)
  case atStart => exact ⟨0, zeros len, Nat.zero_le _, rfl, CB.new _ _, zeros_size _, fun j hj => by omega, (Below.refl _ _).alloc (Nat.le_refl _) _⟩
  case round =>
    obtain ⟨k, cs, hk, rfl, hC, hsz, hcs, hB⟩ := hrel
    by_cases hlt : k < len
    · obtain ⟨kb, off, rfl, hkb⟩ := HR.out.addr (by omega)
      have c1 : wr.cell? ⟨kb, off + k, none⟩ = some (.int .i64 (z k)) := (HR.out.below hB).cell hlt
      have c2 : ∃ v, wr.cell? ⟨w.heap.size, k, none⟩ = some v := ⟨cs[k]'(by omega), by rw [hC.cell]; simp [hsz, hlt]⟩
      obtain ⟨v2, c2⟩ := c2
      have f2 := hC.fr k
      have HC : Hid (CB wr w.heap.size cs 3) := hC
      have HS : Hid (cs.size = len) := hsz
      have HCS : Hid (∀ j, j < k → cs[j]? = some (.int .i64 (z j))) := hcs
      have HB : Hid (Below w.heap.size w wr) := hB
      clear hC hsz hcs hB
      go_wp2
      go_roundw
      case rel =>
        refine ⟨k + 1, cs.setIfInBounds k (.int .i64 (z k)), by omega, by go_num, HC.out.set k _, by simp [HS.out], fun j hj => ?_, HB.out.setCell (by simp) _⟩
        rw [Array.getElem?_setIfInBounds]
        have := HS.out
        by_cases hjk : k = j
        · subst hjk; simp [this, hlt]
        · rw [if_neg hjk]; exact HCS.out j (by omega)
      case measure => simp [intOf]; omega
    · obtain rfl : k = len := by omega
      have HI : Hid (IR wr (some ⟨w.heap.size, 0, none⟩) k z) := IR.of_block hC k z hcs
      have HB : Hid (Below w.heap.size w wr) := hB
      clear hC hcs hB
      go_wp2
      go_returns
      exact ⟨rfl, HI.out, HB.out⟩

theorem toIntS_at (b : Nat) (ad : Option Addr) (len cap : Nat) (z : Nat → Int) (w : World) (h : (len : Int) ≤ 1048576) (hr : IR w ad len z) (hb : w.heap.size = b) :
    Calls Try.prog 45 #[.slice ad len cap] w fun e w' => e = .returned (.slice (some ⟨b, 0, none⟩) len len) ∧ IR w' (some ⟨b, 0, none⟩) len z ∧ Below b w w' := by
  subst hb; exact toIntS_any ad len cap z w h hr

end Go.Proofs.Ytadjdpoplaknkaa
