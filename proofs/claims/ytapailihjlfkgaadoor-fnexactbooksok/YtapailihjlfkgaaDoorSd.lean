/- How deep an account lies, in the model. -/
import Derived.Test.YtapailihjlfkgaaDoorTi
namespace Go.Proofs.YtapailihjlfkgaaDoor
open Go.ChangeShapes Go.WideShapes Go.ChangeAt Go.RowKit
set_option linter.unusedVariables false
set_option linter.unusedSimpArgs false

theorem dep_self {P : Nat → Int} {n : Nat} (L : Low P n) : ∀ s, s ≤ n → dep P s ≤ s := by
  intro s
  induction s using Nat.strongRecOn with
  | _ s ih =>
    intro hs
    cases s with
    | zero => rw [dep_zero]; omega
    | succ i =>
      have hl := L i (by omega)
      rw [dep_step L (by omega)]
      have := ih (P i + 1).toNat (by omega) (by omega)
      omega
theorem dep_pos {P : Nat → Int} {n : Nat} (L : Low P n) {i : Nat} (hi : i < n) : 1 ≤ dep P (i + 1) := by rw [dep_step L hi]; omega

set_option maxRecDepth 20000 in
set_option maxHeartbeats 1000000 in
theorem l4Deep_eq (ad : Option Addr) (len cap : Nat) (c : Nat → C3) (w : World) (i : Nat) {d : Int} (hl : (len : Int) ≤ 1048576) (hr : CR w ad len c) (hi : i < len) (L : Low (par c) (i + 1)) (hd : (dep (par c) (i + 1) : Int) - 1 = d) :
    Calls Tryd.prog 98 #[.slice ad len cap, .int .i64 (i : Int)] w fun e w' => e = .returned (.int .i64 d) ∧ w' = w := by
  obtain ⟨kb, off, rfl, hkb⟩ := hr.addr (by omega)
  have HR : Hid (CR w (some ⟨kb, off, none⟩) len c) := hr
  have HL : Hid (Low (par c) (i + 1)) := L
  have HD : Hid ((dep (par c) (i + 1) : Int) - 1 = d) := hd
  clear hr L hd
  go_enter Tryd.func98, Tryd.ntmps98
  go_wp2
  go_loop [1, 5] (fun a b => ∃ (s m : Nat), s ≤ i ∧ a = .int .i64 (s : Int) ∧ b = .int .i64 (m : Int) ∧ m + dep (par c) (s + 1) = dep (par c) (i + 1)) (fun a b => (intOf a).toNat)
  case atStart => exact ⟨i, 0, Nat.le_refl _, rfl, rfl, by omega⟩
  case round =>
    obtain ⟨s, m, hs, rfl, rfl, hm⟩ := hrel
    obtain ⟨c1, c2, c3⟩ := HR.out.cell (by omega : s < len)
    have hsl : (s : Int) < (len : Int) := by omega
    have hlow := HL.out s (by omega)
    have hstep := dep_step HL.out (by omega : s < i + 1)
    have hmi := dep_self HL.out (i + 1) (Nat.le_refl _)
    have HM : Hid (m + (dep (par c) (par c s + 1).toNat + 1) = dep (par c) (i + 1)) := by show _ = _; rw [← hstep]; exact hm
    have hm2 : (m : Int) ≤ 1048577 := by omega
    have hp : (c s).places = par c s := rfl
    rw [hp] at c2
    generalize par c s = p at c2 hlow HM
    clear hstep hmi hm c1 c3 hp
    by_cases h0 : 0 ≤ p
    · obtain ⟨t, rfl⟩ : ∃ t : Nat, p = (t : Int) := ⟨p.toNat, by omega⟩
      go_wp2
      go_round
      case rel => exact ⟨t, m + 1, by omega, rfl, by go_num, by have := HM.out; rw [show ((t : Int) + 1).toNat = t + 1 by omega] at this; omega⟩
      case measure => simp [intOf]; omega
    · have hp1 : p = -1 := by omega
      subst hp1
      have HE : Hid ((m : Int) = d) := by
        have h1 := HM.out
        have h2 := HD.out
        rw [show ((-1 : Int) + 1).toNat = 0 by rfl, dep_zero] at h1
        show (m : Int) = d
        omega
      clear hlow
      go_wp2
      go_returns
      rw [HE.out]
      exact ⟨rfl, rfl⟩

end Go.Proofs.YtapailihjlfkgaaDoor
