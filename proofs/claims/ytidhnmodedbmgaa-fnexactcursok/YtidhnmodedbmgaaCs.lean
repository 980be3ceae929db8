/- CursOk in the model: it answers 'cursB'. -/
import Derived.Test.YtidhnmodedbmgaaCk
namespace Go.Proofs.Ytidhnmodedbmgaa
open Go.ChangeShapes Go.WideShapes Go.ChangeAt Go.RowKit
set_option linter.unusedVariables false
set_option linter.unusedSimpArgs false

theorem lists_t {s t : ByteArray} (h : s = t) : (s.toList == t.toList) = true := by subst h; simp
theorem lists_f {s t : ByteArray} (h : s ≠ t) : (s.toList == t.toList) = false := by
  rw [Bool.eq_false_iff]
  intro g
  simp only [beq_iff_eq, ByteArray.toList_eq] at g
  exact h (ByteArray.ext (Array.toList_inj.1 g))
theorem in_eq {x lo hi : Int} {v : Bool} (w : World) (h : inB x lo hi = v) : Calls Try.prog 49 #[.int .i64 x, .int .i64 lo, .int .i64 hi] w fun e w' => e = .returned (.bool v) ∧ w' = w := h ▸ l1In_any x lo hi w
theorem bd_N {n : Nat} {A W : World} (h : Below n A W) (q : Nat) : Below n A (W.drewN q) := ⟨h.os, h.tape, h.output, h.size, h.block⟩

set_option maxHeartbeats 4000000 in
theorem specCursOk_any (ad : Option Addr) (len cap : Nat) (c : Nat → C3) (w : World) (h : (len : Int) ≤ 1048576) (hs : ∀ j, (c j).code.size ≤ maxLen) (hr : CR w ad len c) :
    Calls Try.prog 19 #[.slice ad len cap] w fun e w' => e = .returned (.bool (cursB len c)) ∧ Below w.heap.size w w' := by
  have HR : Hid (CR w ad len c) := hr
  have HS0 : Hid (∀ j, (c j).code.size ≤ maxLen) := hs
  clear hr hs
  cases hm : inB (len : Int) 1 20
  · have HF : Hid (cursB len c = false) := cursB_f fun H => by have := inB_t (x := (len : Int)) (lo := 1) (hi := 20) (by have := H.1; omega) (by have := H.2.1; omega); rw [this] at hm; cases hm
    go_enter Try.func19, Try.ntmps19
    go_wp2_with (go_at_call 49; refine (in_eq _ hm).mono ?_; rintro e w1 ⟨rfl, ew⟩; replace ew := ew.symm; subst ew)
    go_returns
    exact ⟨ret_bool HF.out.symm, by go_grown⟩
  have hm3 := inB_iff.1 hm
  go_enter Try.func19, Try.ntmps19
  go_wp2_with (go_at_call 49; refine (in_eq _ hm).mono ?_; rintro e w1 ⟨rfl, ew⟩; replace ew := ew.symm; subst ew)
  go_loopw [3] (fun i wr => ∃ k : Nat, k ≤ len ∧ i = .int .i64 (k : Int) ∧ Hid (∀ j, j < k → cGood c j) ∧ Below w.heap.size w wr) (fun i _ => len - (intOf i).toNat)
  case atStart => exact ⟨0, Nat.zero_le _, rfl, fun j hj => by omega, Below.refl _ _⟩
  case round =>
    obtain ⟨k, hk, rfl, HP, hB⟩ := hrel
    by_cases hlt : k < len
    · obtain ⟨kb, off, rfl, _⟩ := HR.out.addr (by omega)
      have RC : Hid (CR wr (some ⟨kb, off, none⟩) len c) := HR.out.below hB
      obtain ⟨xs, xp, xq, hx⟩ : ∃ a b d, c k = ⟨a, b, d⟩ := ⟨_, _, _, rfl⟩
      obtain ⟨c1, c2, c3⟩ := RC.out.cell hlt
      rw [hx] at c1 c2 c3
      simp only at c1 c2 c3
      have HX : Hid (c k = ⟨xs, xp, xq⟩) := hx
      have hxs : xs.size ≤ maxLen := by have := HS0.out k; rw [hx] at this; exact this
      have HB : Hid (Below w.heap.size w wr) := hB
      have hk20 : (k : Int) ≤ 20 := by omega
      clear hx hB
      go_wp2
      go_loopw [4] (fun i w2 => ∃ n q : Nat, n ≤ k ∧ i = .int .i64 (n : Int) ∧ Hid (∀ j, j < n → (c j).code ≠ xs) ∧ w2 = wr.drewN q) (fun i _ => k - (intOf i).toNat)
      case atStart => exact ⟨0, 0, Nat.zero_le _, rfl, fun j hj => by omega, rfl⟩
      case round =>
        obtain ⟨n, q, hn, rfl, HN, rfl⟩ := hrel
        by_cases hnk : n < k
        · obtain ⟨d1, _, _⟩ := RC.out.cell (j := n) (by omega)
          obtain ⟨ys, hy⟩ : ∃ s, (c n).code = s := ⟨_, rfl⟩
          rw [hy] at d1
          have hn20 : (n : Int) < (len : Int) := by omega
          by_cases g : ys = xs
          · have HF : Hid (cursB len c = false) := cursB_bad hlt fun H => by have := H.2; rw [HX.out] at this; simp only at this; rw [hasB_t ⟨n, hnk, hy.trans g⟩] at this; cases this
            have e1 := lists_t g
            clear g hy
            go_wp2
            go_quiet (fail)
            go_wp2
            go_returns
            exact ⟨ret_bool HF.out.symm, bd_N (bd_N HB.out _) _⟩
          · have HF : Hid (∀ j, j < n + 1 → (c j).code ≠ xs) := fun j hj => by
              by_cases e : j = n
              · subst e; rw [hy]; exact g
              · exact HN.out j (by omega)
            have e1 := lists_f g
            clear g hy
            go_wp2
            go_quiet (fail)
            go_wp2
            go_roundw
            case rel => exact ⟨n + 1, q + nq, by omega, by go_num, HF, rfl⟩
            case measure => simp [intOf]; omega
        · obtain rfl : n = k := by omega
          have hd : hasB n c xs = false := hasB_f fun ⟨j, h1, h2⟩ => HN.out j h1 h2
          cases hb : curB ⟨xs, xp, xq⟩
          · have HF : Hid (cursB len c = false) := cursB_bad hlt fun H => by have := H.1; rw [HX.out] at this; rw [hb] at this; cases this
            go_wp2_with (go_at_call 50; refine (l3Cur_eq _ hxs hb).mono ?_; rintro e w3 ⟨rfl, b3⟩; have HB3 : Hid (Below w.heap.size w w3) := bel_on (bd_N HB.out q) b3; clear b3)
            go_returns
            exact ⟨ret_bool HF.out.symm, HB3.out⟩
          · have HG : Hid (∀ j, j < n + 1 → cGood c j) := cgood_step HP.out ⟨by rw [HX.out]; exact hb, by rw [HX.out]; exact hd⟩
            go_wp2_with (go_at_call 50; refine (l3Cur_eq _ hxs hb).mono ?_; rintro e w3 ⟨rfl, b3⟩; have HB3 : Hid (Below w.heap.size w w3) := bel_on (bd_N HB.out q) b3; clear b3)
            go_roundw
            case rel => exact ⟨n + 1, by omega, by go_num, HG, HB3.out⟩
            case measure => simp [intOf]; omega
    · obtain rfl : k = len := by omega
      have HF : Hid (cursB k c = true) := cursB_t ⟨by omega, by omega, HP.out⟩
      have HB : Hid (Below w.heap.size w wr) := hB
      clear hB
      go_wp2
      go_returns
      exact ⟨ret_bool HF.out.symm, HB.out⟩

end Go.Proofs.Ytidhnmodedbmgaa
