/- The library's Join over a step's roles. -/
import Derived.Test.YtdhpadcihlmhiaaDoorUj
import Derived.Test.YtdhpadcihlmhiaaDoorBuL
namespace Go.Proofs.YtdhpadcihlmhiaaDoor
open Go.ChangeShapes Go.WideShapes Go.ChangeAt Go.RowKit
set_option linter.unusedVariables false
set_option linter.unusedSimpArgs false

theorem nil_add (s : ByteArray) : nilT ++ s = s := by unfold nilT; exact ByteArray.empty_append
theorem jon_base (b : ByteArray) (z : Nat → ByteArray) : ∀ k, jonT b z k = b ++ jonT nilT z k
  | 0 => by unfold jonT nilT; exact ByteArray.append_empty.symm
  | k + 1 => by
    have ih := jon_base b z k
    unfold jonT
    by_cases e : k = 0
    · rw [if_pos e, if_pos e, ih, ByteArray.append_assoc]
    · rw [if_neg e, if_neg e, ih, ByteArray.append_assoc, ByteArray.append_assoc, ByteArray.append_assoc]
theorem jon_one (z : Nat → ByteArray) : jonT nilT z 1 = nilT ++ z 0 := by rw [jonT, if_pos rfl]; rfl
theorem nilT_size : nilT.size ≤ 107 := by
  have : nilT.size = 0 := rfl
  omega
/-- The Builder at b holds the text T. -/
def BLD (w : World) (b : Nat) (T : ByteArray) : Prop := Lib.IsBuilder 94 5 b b (Lib.byteCells T.data.toList) w
theorem cells_add (T R : ByteArray) : Lib.byteCells T.data.toList ++ Lib.strCells R = Lib.byteCells (T ++ R).data.toList := by
  simp [Lib.byteCells, Lib.strCells, ByteArray.data_append]

set_option maxRecDepth 20000 in
set_option maxHeartbeats 4000000 in
theorem join_any (ra : Option Addr) (rn rc : Nat) (rz : Nat → ByteArray) (w : World) (h1 : 1 ≤ rn) (h8 : (rn : Int) ≤ 8) (hcap : rn ≤ rc) (hz : ∀ j, j < rn → (rz j).size ≤ 20) (hr : STR w ra rn rz) :
    Calls Tryd.prog 110 #[.slice ra rn rc, .string ⟨#[44, 32]⟩] w fun e w' => e = .returned (.string (jonT nilT rz rn)) ∧ Below w.heap.size w w' := by
  have HR := hid hr
  have HZ := hid hz
  obtain ⟨kb, off, ea, hkb⟩ := hr.addr (by omega)
  subst ea
  have c0 := hr.cell (j := 0) (by omega)
  simp only [Nat.add_zero] at c0
  clear hr hz
  by_cases hn1 : rn = 1
  · subst hn1
    have HV : Hid (rz 0 = jonT nilT rz 1) := hid (by unfold jonT; rw [if_pos rfl]; unfold jonT; exact (nil_add _).symm)
    go_enter Tryd.func110, Tryd.ntmps110
    go_wp2
    go_returns
    exact ⟨ret_t HV.out, Below.refl _ _⟩
  have e0 : ((rn : Int) == 0) = false := by simp; omega
  have e1 : ((rn : Int) == 1) = false := by simp; omega
  have h2 : 2 ≤ rn := by omega
  have hwr : IntKind.i64.wrap ((rn : Int) - 1) = (rn : Int) - 1 := IntWalk.i64_in _ ⟨by omega, by omega⟩
  have hq : ¬ 9223372036854775807 / ((rn : Int) - 1) ≤ 2 := by
    have hc : rn = 2 ∨ rn = 3 ∨ rn = 4 ∨ rn = 5 ∨ rn = 6 ∨ rn = 7 ∨ rn = 8 := by omega
    rcases hc with q | q | q | q | q | q | q <;> subst q <;> decide
  have hnz : ¬ (rn : Int) - 1 = 0 := by omega
  go_enter Tryd.func110, Tryd.ntmps110
  go_wp2
  go_loopw [5, 41] (fun n i wr => ∃ k N : Nat, k ≤ rn ∧ i = .int .i64 (k : Int) ∧ n = .int .i64 (N : Int) ∧ (N : Int) ≤ 14 + 20 * k ∧ wr = w) (fun _ i _ => rn - (intOf i).toNat)
  case atStart => exact ⟨0, 2 * (rn - 1), Nat.zero_le _, rfl, by congr 1; omega, by omega, rfl⟩
  case round =>
    obtain ⟨k, N, hk, rfl, rfl, hN, hwr⟩ := hrel
    subst hwr
    by_cases hlt : k < rn
    · have hlt2 : (k : Int) < (rn : Int) := by omega
      have d0 := HR.out.cell hlt
      have rsz := HZ.out k hlt
      obtain ⟨R, hRz⟩ : ∃ x, rz k = x := ⟨_, rfl⟩
      rw [hRz] at d0 rsz
      clear hRz
      go_wp2
      go_roundw
      case rel => exact ⟨k + 1, N + R.size, by omega, by go_num, by push_cast; rfl, by push_cast; omega, by first | rfl | trivial⟩
      case measure => simp [intOf]; omega
    · obtain rfl : k = rn := by omega
      have lkk : ¬ (k : Int) < (k : Int) := by omega
      have hs0 : (rz 0).size ≤ 20 := HZ.out 0 (by omega)
      have HBA : Hid (Below wr.heap.size wr (wr.alloc (.cells #[.pointer none, .slice none 0 0] 94 (0, 0)))) := (Below.refl _ _).alloc (Nat.le_refl _) _
      have HG := hid (Tryd.Builder_Grow_fresh wr.heap.size wr.heap.size N (wr.alloc (.cells #[.pointer none, .slice none 0 0] 94 (0, 0))) (Nat.le_refl _) (CB.new _ _) (by simp) (by omega))
      go_wp2_with (first
        | (go_at_call 133; go_loud (refine HG.out.mono ?_; rintro e w2 ⟨rfl, g2, b2⟩; have HB2 : Hid (Below wr.heap.size wr w2) := HBA.out.trans b2; have HL2 : Hid (BLD w2 wr.heap.size nilT) := .inr g2; have c2 := (HR.out.below HB2.out).cell (j := 0) (by omega); simp only [Nat.add_zero] at c2; clear b2 g2 HG))
        | (go_at_call 66; go_loud (refine (Tryd.Builder_WriteString wr.heap.size wr.heap.size _ _ _ HL2.out (by rw [Lib.byteCells_length]; have : nilT.data.toList.length = 0 := rfl; omega) (by have := HB2.out.size; omega)).mono ?_; rintro e w3 ⟨rfl, g3, b3⟩; rw [cells_add] at g3; have HB3 : Hid (Below wr.heap.size wr w3) := HB2.out.trans b3; have HL3 : Hid (BLD w3 wr.heap.size (nilT ++ rz 0)) := .inr g3; clear b3 g3)))
      have HL4 : Hid (BLD w3 wr.heap.size (jonT nilT rz 1)) := hid (by rw [jon_one]; exact HL3.out)
      obtain ⟨w0, rfl⟩ : ∃ x, x = wr := ⟨wr, rfl⟩
      have HJS : Hid (∀ j, j ≤ k → (jonT nilT rz j).size ≤ 107 + 22 * j) := fun j hj => jonT_size (n := k) nilT_size HZ.out j hj
      have hk8 : k ≤ 8 := by omega
      clear HL3 HL2 c2
      go_loopw [65] (fun i wr => ∃ m : Nat, m ≤ k - 1 ∧ i = .int .i64 (m : Int) ∧ Hid (BLD wr w0.heap.size (jonT nilT rz (m + 1)) ∧ Below w0.heap.size w0 wr)) (fun i _ => k - (intOf i).toNat)
      case atStart => exact ⟨0, Nat.zero_le _, rfl, HL4.out, HB3.out⟩
      case round =>
        obtain ⟨m, hm, rfl, HH⟩ := hrel
        have hs1 : w0.heap.size ≤ wr.heap.size := HH.out.2.size
        have js := HJS.out (m + 1) (by omega)
        by_cases hlt : m < k - 1
        · have hlt2 : (m : Int) < ((k - 1 : Nat) : Int) := by omega
          have hlt3 : (m : Int) < (k : Int) - 1 := by omega
          have d0 := (HR.out.below HH.out.2).cell (j := m + 1) (by omega)
          rw [show off + (m + 1) = off + 1 + m by omega] at d0
          have rsz := HZ.out (m + 1) (by omega)
          have HJ : Hid (jonT nilT rz (m + 1 + 1) = (jonT nilT rz (m + 1) ++ ⟨#[44, 32]⟩) ++ rz (m + 1)) := hid (by rw [jonT, if_neg (by omega)])
          obtain ⟨R, hRz⟩ : ∃ x, rz (m + 1) = x := ⟨_, rfl⟩
          rw [hRz] at d0 rsz HJ
          obtain ⟨T, hT⟩ : ∃ x, jonT nilT rz (m + 1) = x := ⟨_, rfl⟩
          rw [hT] at HH js HJ
          clear hRz hT
          have tk : True := trivial
          go_wp2_with (first
            | (go_at_call 66; clear tk; go_loud (refine (Tryd.Builder_WriteString w0.heap.size w0.heap.size _ _ _ HH.out.1 (by rw [Lib.byteCells_length]; have e1 : T.data.toList.length = T.size := rfl; have e2 : (⟨#[44, 32]⟩ : ByteArray).size = 2 := rfl; omega) hs1).mono ?_; rintro e w4 ⟨rfl, g4, b4⟩; rw [cells_add] at g4; have HB4 : Hid (Below w0.heap.size w0 w4) := HH.out.2.trans b4; have HL5 : Hid (BLD w4 w0.heap.size (T ++ ⟨#[44, 32]⟩)) := .inr g4; clear b4 g4))
            | (go_at_call 66; go_loud (refine (Tryd.Builder_WriteString w0.heap.size w0.heap.size _ _ _ HL5.out (by rw [Lib.byteCells_length]; have e1 : (T ++ (⟨#[44, 32]⟩ : ByteArray)).data.toList.length = (T ++ (⟨#[44, 32]⟩ : ByteArray)).size := rfl; have e2 : (⟨#[44, 32]⟩ : ByteArray).size = 2 := rfl; rw [ByteArray.size_append] at e1; omega) HB4.out.size).mono ?_; rintro e w5 ⟨rfl, g5, b5⟩; rw [cells_add] at g5; have HB5 : Hid (Below w0.heap.size w0 w5) := HB4.out.trans b5; have HL6 : Hid (BLD w5 w0.heap.size ((T ++ ⟨#[44, 32]⟩) ++ R)) := .inr g5; clear b5 g5)))
          go_roundw
          case rel => exact ⟨m + 1, by omega, by go_num, by rw [HJ.out]; exact HL6.out, HB5.out⟩
          case measure => simp [intOf]; omega
        · have hmk : m + 1 = k := by omega
          have lkk : ¬ (m : Int) < ((k - 1 : Nat) : Int) := by omega
          have lk2 : ¬ (m : Int) < (k : Int) - 1 := by omega
          go_wp2_with (go_at_call 69; go_loud (refine (Tryd.Builder_String_any w0.heap.size w0.heap.size _ _ HH.out.1 hs1).mono ?_; rintro e w6 ⟨rfl, b6⟩; have HB6 : Hid (Below w0.heap.size w0 w6) := HH.out.2.trans b6; clear b6))
          go_returns
          exact ⟨ret_t (by subst hmk; rfl), HB6.out⟩
end Go.Proofs.YtdhpadcihlmhiaaDoor
