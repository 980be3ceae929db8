/- The search for a day in a table, and what the tables tell of a place and a day. -/
import Derived.Test.YtghphlnpginmhaaVGt
import Derived.Test.YtghphlnpginmhaaVGs
namespace Go.Proofs.Ytghphlnpginmhaa.Rt
open Go.ChangeShapes Go.WideShapes Go.ChangeAt Go.RowKit
set_option linter.unusedVariables false
set_option linter.unusedSimpArgs false
theorem wpList_lookup_mp {P : Program} (w : World) {ops : Array Oper} {rest : List Oper} {o : Oper} {a : Act} {Q : Exit → Act → World → Prop}
    (hg : o.guard = none) (m x : Operand) (t : TypeId) (hop : o.op = Op.lookup t m x false)
    (k e : TypeId) (KK : Go.Maps.Keyed P k) (hk : P.underlying k = some (.int .i64)) (ht : P.underlying t = some (.map k e)) (z : Value) (hz : (zeroValue e).run P w = .ok z w) (b n : Nat) (F : Int → Value)
    (hm : a.eval m = .map (some b)) (hown : MP P k z w b n F) (key : Int) (hx : a.eval x = .int .i64 key) (hw : (Lit.int .i64 key).wf = true) (v : Value) (hF : F key = v)
    (hK : wpList P ops Q rest (a.put o.dst v) w) : wpList P ops Q (o :: rest) a w := by
  refine wpList_plain hg fun K' hK' => ?_
  have hrun := hown.lookup KK hk ht hz key hw
  rw [hF] at hrun
  unfold Oper.wp
  simp [execOp, hop, hm, hx, hrun, Result.andThen]
  exact hK' _ _ hK
theorem key3 : Go.Maps.Keyed Try.prog 3 := Go.Maps.int_keyed Try.underlying3
theorem zero25 (w : World) : (zeroValue 25).run Try.prog w = .ok nilS w := by kernel_rfl
theorem atC_eq (b8 b5 : Nat) (ad : Option Addr) (n cap : Nat) (r : Nat → R4) (d : Int) (i : Nat) {v : Bool} (w : World) (h8 : w.cell? ⟨b8, 0, none⟩ = some (.slice ad n cap)) (h5 : w.cell? ⟨b5, 0, none⟩ = some (.int .i64 d)) (hr : RR w ad n r) (hi : i < n) (hn : (n : Int) ≤ 400) (hv : decide (d < (r i).day) = v) :
    Calls Try.prog 152 #[.int .i64 (i : Int), .pointer (some ⟨b8, 0, none⟩), .pointer (some ⟨b5, 0, none⟩)] w fun e w' => e = .returned (.bool v) ∧ ∃ q, w' = w.drewN q := by
  subst hv
  obtain ⟨kb, off, rfl, _⟩ := hr.addr (by omega)
  obtain ⟨c1, _, _, _⟩ := hr.cell hi
  have hi1 : (i : Int) < (n : Int) := by omega
  clear hr
  go_enter Try.func152, Try.ntmps152
  go_wp2
  go_quiet (fail)
  go_wp2
  go_returns
  exact ⟨rfl, _, rfl⟩
set_option maxHeartbeats 1000000 in
theorem search_any (b8 b5 : Nat) (ad : Option Addr) (n cap : Nat) (r : Nat → R4) (d : Int) (w : World) (h8 : w.cell? ⟨b8, 0, none⟩ = some (.slice ad n cap)) (h5 : w.cell? ⟨b5, 0, none⟩ = some (.int .i64 d)) (hr : RR w ad n r) (hn : (n : Int) ≤ 400)
    (hmono : ∀ i j, i ≤ j → j < n → (r i).day ≤ (r j).day) :
    Calls Try.prog 151 #[.int .i64 (n : Int), .func (Fn.func 152) #[] #[.pointer (some ⟨b8, 0, none⟩), .pointer (some ⟨b5, 0, none⟩)]] w fun e w' => (∃ s : Nat, e = .returned (.int .i64 (s : Int)) ∧ s ≤ n ∧ (∀ i, i < s → (r i).day ≤ d) ∧ (∀ i, s ≤ i → i < n → d < (r i).day)) ∧ ∃ q, w' = w.drewN q := by
  have HR : Hid (RR w ad n r) := hr
  have H8 : Hid (w.cell? ⟨b8, 0, none⟩ = some (.slice ad n cap)) := h8
  have H5 : Hid (w.cell? ⟨b5, 0, none⟩ = some (.int .i64 d)) := h5
  have HM : Hid (∀ i j, i ≤ j → j < n → (r i).day ≤ (r j).day) := hmono
  clear hr h8 h5 hmono
  go_enter Try.func151, Try.ntmps151
  go_wp2
  go_loopw [5, 6] (fun u v wr => ∃ i j q : Nat, u = .int .i64 (i : Int) ∧ v = .int .i64 (j : Int) ∧ i ≤ j ∧ j ≤ n ∧ Hid ((∀ p, p < i → (r p).day ≤ d) ∧ (∀ p, j ≤ p → p < n → d < (r p).day)) ∧ wr = w.drewN q) (fun u v _ => (intOf v).toNat - (intOf u).toNat)
  case atStart => exact ⟨0, n, 0, rfl, rfl, Nat.zero_le _, Nat.le_refl _, ⟨fun p hp => by omega, fun p h1 h2 => by omega⟩, rfl⟩
  case round =>
    obtain ⟨i, j, q, rfl, rfl, hij, hj, HP, rfl⟩ := hrel
    by_cases hlt : i < j
    · obtain ⟨m, hm⟩ : ∃ m : Nat, (i + j) / 2 = m := ⟨_, rfl⟩
      have em : ((i : Int) + (j : Int)) / 2 = (m : Int) := by omega
      have m1 : i ≤ m := by omega
      have m2 : m < j := by omega
      have m3 : m < n := by omega
      clear hm
      by_cases hz : d < (r m).day
      · have hv : Hid (decide (d < (r m).day) = true) := decide_eq_true hz
        have HP2 : Hid ((∀ p, p < i → (r p).day ≤ d) ∧ (∀ p, m ≤ p → p < n → d < (r p).day)) := ⟨HP.out.1, fun p h1 h2 => by have := HM.out m p h1 h2; omega⟩
        clear hz
        go_wp2_with (go_at_call 152; refine (atC_eq b8 b5 ad n cap r d m (w.drewN q) H8.out H5.out (HR.out.drewN q) m3 hn hv.out).mono ?_; rintro e w1 ⟨rfl, q1, rfl⟩)
        go_roundw
        case rel => exact ⟨i, m, q + q1, rfl, by go_num, by omega, by omega, HP2, rfl⟩
        case measure => simp [intOf]; omega
      · have hv : Hid (decide (d < (r m).day) = false) := decide_eq_false hz
        have HP2 : Hid ((∀ p, p < m + 1 → (r p).day ≤ d) ∧ (∀ p, j ≤ p → p < n → d < (r p).day)) := ⟨fun p hp => by have := HM.out p m (by omega) m3; omega, HP.out.2⟩
        clear hz
        go_wp2_with (go_at_call 152; refine (atC_eq b8 b5 ad n cap r d m (w.drewN q) H8.out H5.out (HR.out.drewN q) m3 hn hv.out).mono ?_; rintro e w1 ⟨rfl, q1, rfl⟩)
        go_roundw
        case rel => exact ⟨m + 1, j, q + q1, by go_num, rfl, by omega, hj, HP2, rfl⟩
        case measure => simp [intOf]; omega
    · obtain rfl : i = j := by omega
      go_wp2
      go_returns
      exact ⟨⟨i, rfl, hj, HP.out.1, HP.out.2⟩, q, rfl⟩
end Go.Proofs.Ytghphlnpginmhaa.Rt
