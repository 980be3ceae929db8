/- A step's line: the plain text, and the model's. -/
import Derived.Test.YtdhpadcihlmhiaaDoorUh
import Derived.Test.YtdhpadcihlmhiaaDoorVh
namespace Go.Proofs.YtdhpadcihlmhiaaDoor
open Go.ChangeShapes Go.WideShapes Go.ChangeAt Go.RowKit
set_option linter.unusedVariables false
set_option linter.unusedSimpArgs false

def begT (A : ByteArray) : ByteArray := (⟨#[111, 118, 101, 114, 32]⟩ : ByteArray) ++ A ++ ⟨#[58, 32]⟩
/-- The roles after a text, each after the first behind a mark. -/
def jonT (b : ByteArray) (z : Nat → ByteArray) : Nat → ByteArray
  | 0 => b
  | k + 1 => (if k = 0 then jonT b z k else jonT b z k ++ ⟨#[44, 32]⟩) ++ z k
def amT (over : Int) : ByteArray := Mny.str (Mny.smL over 2)
def stepT (p : ST) : ByteArray := jonT (begT (amT p.over)) p.rz p.rn ++ ⟨#[10]⟩
theorem name_size {s : ByteArray} (h : nameB s = true) : s.size ≤ 20 := by
  unfold nameB at h; simp at h; omega
theorem amT_size {a : Int} (h0 : 0 ≤ a) (h1 : a ≤ 100000000000) : (amT a).size ≤ 100 := by
  unfold amT
  rw [Mny.sm_ok ⟨by omega, h1, by omega, by omega⟩, Mny.showI_pos h0]
  have := Mny.showL_len a.toNat 2 (by omega) (by omega)
  unfold Mny.str; simpa [ByteArray.size] using this
theorem begT_size {A : ByteArray} (h : A.size ≤ 100) : (begT A).size ≤ 107 := by
  unfold begT; rw [ByteArray.size_append, ByteArray.size_append]
  have e1 : (⟨#[111, 118, 101, 114, 32]⟩ : ByteArray).size = 5 := rfl
  have e2 : (⟨#[58, 32]⟩ : ByteArray).size = 2 := rfl
  omega
theorem jonT_size {b : ByteArray} {z : Nat → ByteArray} {n : Nat} (hb : b.size ≤ 107) (hz : ∀ j, j < n → (z j).size ≤ 20) : ∀ k, k ≤ n → (jonT b z k).size ≤ 107 + 22 * k
  | 0, _ => by unfold jonT; omega
  | k + 1, h => by
    have ih := jonT_size hb hz k (by omega)
    have hk := hz k (by omega)
    have e2 : (⟨#[44, 32]⟩ : ByteArray).size = 2 := rfl
    unfold jonT
    rw [ByteArray.size_append]
    split
    · omega
    · rw [ByteArray.size_append]; omega
theorem ret_t {a b : ByteArray} (h : a = b) : Ending.returned (.string a) = .returned (.string b) := by rw [h]

set_option maxRecDepth 20000 in
set_option maxHeartbeats 4000000 in
theorem specStep_any (over : Int) (ra : Option Addr) (rn rc : Nat) (rz : Nat → ByteArray) (w : World) (hp : StpP ⟨over, rn, rz⟩) (hr : STR w ra rn rz) :
    Calls Tryd.prog 71 #[.agg #[.int .i64 over, .slice ra rn rc]] w fun e w' => e = .returned (.string (stepT ⟨over, rn, rz⟩)) ∧ Below w.heap.size w w' := by
  have HBA : Hid (Below w.heap.size w (w.alloc (.cells #[.int .i64 over, .slice ra rn rc] 46 (0, 0)))) := (Below.refl _ _).alloc (Nat.le_refl _) _
  have HR := hid hr
  have h8 : (rn : Int) ≤ 8 := by have := hp.2.2.2.1; dsimp only at this; omega
  have HZ : Hid (∀ j, j < rn → (rz j).size ≤ 20) := fun j hj => name_size (hp.2.2.2.2 j hj).1
  have HBS : Hid ((begT (amT over)).size ≤ 107) := begT_size (amT_size hp.1 hp.2.1)
  have HSM : Hid (∀ w : World, Calls Tryd.prog 112 #[.int .i64 over, .int .i64 2] w fun e w' => e = .returned (.string (amT over)) ∧ ∃ q, w' = w.drewN q) := fun w => Mny.specShow_any over 2 w
  have asz := amT_size hp.1 hp.2.1
  have HE : Hid (stepT ⟨over, rn, rz⟩ = jonT (begT (amT over)) rz rn ++ ⟨#[10]⟩) := rfl
  clear hp hr
  obtain ⟨AM, hAM⟩ : ∃ x, amT over = x := ⟨_, rfl⟩
  rw [hAM] at asz HBS HSM HE
  have HAM := hid hAM
  clear hAM
  obtain ⟨BT, hBT⟩ : ∃ x, begT AM = x := ⟨_, rfl⟩
  rw [hBT] at HBS HE
  have HBT : Hid (((⟨#[111, 118, 101, 114, 32]⟩ : ByteArray) ++ AM) ++ ⟨#[58, 32]⟩ = BT) := hBT
  clear hBT
  have z1 : ¬ 9223372036854775807 < (⟨#[111, 118, 101, 114, 32]⟩ : ByteArray).size + AM.size := by
    have e1 : (⟨#[111, 118, 101, 114, 32]⟩ : ByteArray).size = 5 := rfl
    omega
  have z2 : ¬ 9223372036854775807 < ((⟨#[111, 118, 101, 114, 32]⟩ : ByteArray) ++ AM).size + (⟨#[58, 32]⟩ : ByteArray).size := by
    have e1 : (⟨#[111, 118, 101, 114, 32]⟩ : ByteArray).size = 5 := rfl
    have e2 : (⟨#[58, 32]⟩ : ByteArray).size = 2 := rfl
    rw [ByteArray.size_append]; omega
  go_enter Tryd.func71, Tryd.ntmps71
  go_wp2_with (go_at_call 112; go_loud (refine (HSM.out _).mono ?_; rintro e w1 ⟨rfl, q, rfl⟩))
  have X : CB ((w.alloc (.cells #[.int .i64 over, .slice ra rn rc] 46 (0, 0))).drewN q) w.heap.size #[.int .i64 over, .slice ra rn rc] 46 := (CB.new _ _ : CB (w.alloc _) _ _ _)
  have HB1 := hid (bd_N HBA.out q)
  have HR1 := hid (HR.out.below HB1.out)
  generalize ((w.alloc (.cells #[.int .i64 over, .slice ra rn rc] 46 (0, 0))).drewN q) = wp at X HB1 HR1 ⊢
  have k1 : wp.cell? ⟨w.heap.size, 1, none⟩ = some (.slice ra rn rc) := (X.cell 1).trans rfl
  clear X z1 z2 HSM
  go_loopw [3, 4] (fun t i wr => ∃ (k : Nat), k ≤ rn ∧ i = .int .i64 (k : Int) ∧ t = .string (jonT BT rz k) ∧ wr = wp) (fun _ i _ => rn - (intOf i).toNat)
  case atStart => exact ⟨0, Nat.zero_le _, rfl, by rw [← HBT.out]; rfl, rfl⟩
  case round =>
    obtain ⟨k, hk, rfl, rfl, hwr⟩ := hrel
    subst hwr
    obtain ⟨wp, rfl⟩ : ∃ x, x = wr := ⟨wr, rfl⟩
    have hsz := jonT_size HBS.out HZ.out k hk
    have HJ : Hid (jonT BT rz (k + 1) = (if k = 0 then jonT BT rz k else jonT BT rz k ++ ⟨#[44, 32]⟩) ++ rz k) := rfl
    obtain ⟨T, hT⟩ : ∃ x, jonT BT rz k = x := ⟨_, rfl⟩
    have HT := hid hT
    rw [hT] at hsz HJ ⊢
    clear hT
    by_cases hlt : k < rn
    · have hlt2 : (k : Int) < (rn : Int) := by omega
      obtain ⟨kb, off, ea, hkb⟩ := HR1.out.addr (by omega)
      subst ea
      have d0 := HR1.out.cell hlt
      have rsz := HZ.out k hlt
      obtain ⟨R, hRz⟩ : ∃ x, rz k = x := ⟨_, rfl⟩
      rw [hRz] at d0 rsz HJ
      clear hRz
      by_cases hk0 : k = 0
      · have g0 : ¬ (0 : Int) < (k : Int) := by omega
        have HJ2 : Hid (jonT BT rz (k + 1) = T ++ R) := hid (by rw [HJ.out, if_pos hk0])
        have z1 : ¬ 9223372036854775807 < T.size + R.size := by omega
        clear HJ hk0
        go_wp2
        go_roundw
        case rel => exact ⟨k + 1, by omega, by go_num, by rw [HJ2.out], by first | rfl | trivial⟩
        case measure => simp [intOf]; omega
      · have g0 : (0 : Int) < (k : Int) := by omega
        have HJ2 : Hid (jonT BT rz (k + 1) = (T ++ ⟨#[44, 32]⟩) ++ R) := hid (by rw [HJ.out, if_neg hk0])
        have e2 : (⟨#[44, 32]⟩ : ByteArray).size = 2 := rfl
        have z1 : ¬ 9223372036854775807 < T.size + (⟨#[44, 32]⟩ : ByteArray).size := by omega
        have z2 : ¬ 9223372036854775807 < (T ++ ⟨#[44, 32]⟩).size + R.size := by rw [ByteArray.size_append]; omega
        clear HJ hk0 e2
        go_wp2
        go_roundw
        case rel => exact ⟨k + 1, by omega, by go_num, by rw [HJ2.out], by first | rfl | trivial⟩
        case measure => simp [intOf]; omega
    · obtain rfl : k = rn := by omega
      have lkk : ¬ (k : Int) < (k : Int) := by omega
      have e2 : (⟨#[10]⟩ : ByteArray).size = 1 := rfl
      have z1 : ¬ 9223372036854775807 < T.size + (⟨#[10]⟩ : ByteArray).size := by omega
      have HE2 : Hid (T ++ ⟨#[10]⟩ = stepT ⟨over, k, rz⟩) := hid (by rw [HE.out, HT.out])
      clear e2 HJ
      go_wp2
      go_returns
      exact ⟨ret_t HE2.out, HB1.out⟩
end Go.Proofs.YtdhpadcihlmhiaaDoor
