/- The tree below an account is walked place by place, in the program: with the closure of Roll. -/
import Derived.Test.YtkplhiahfebmlaaDoorRw
namespace Go.Proofs.YtkplhiahfebmlaaDoor
open Go.ChangeShapes Go.WideShapes Go.ChangeAt Go.RowKit
set_option linter.unusedVariables false
set_option linter.unusedSimpArgs false

set_option maxRecDepth 20000 in
set_option maxHeartbeats 2000000 in
theorem walk45_any {base T mp n : Nat} {c : Nat → C3} {N : Nat → Nat} {S : Nat → Value} {ns : Value} (I : Nat → World → Prop) (rb ib lb : Nat) (hn : n ≤ 120) (R : RightTo c n)
    (hT : ∀ k w, I k w → TR Tryd.prog w base T mp n c N S ns)
    (hI : ∀ k w, k < n → I k w → Calls Tryd.prog 45 #[.pointer (some ⟨N (k + 1), 0, none⟩), .pointer (some ⟨rb, 0, none⟩), .pointer (some ⟨ib, 0, none⟩), .pointer (some ⟨lb, 0, none⟩)] w fun e w' => e = .returned (.tuple #[]) ∧ I (k + 1) w') :
    ∀ d a E, n - a = d → a < n → IsEnd (par c) n a E → ∀ w, I a w → Calls Tryd.prog 44 #[.pointer (some ⟨N (a + 1), 0, none⟩), .func (Fn.func 45) #[] #[.pointer (some ⟨rb, 0, none⟩), .pointer (some ⟨ib, 0, none⟩), .pointer (some ⟨lb, 0, none⟩)]] w fun e w' => e = .returned (.tuple #[]) ∧ I E w' := by
  intro d
  induction d using Nat.strongRecOn with
  | _ d ih =>
    intro a E hd ha hE w h0
    have HI0 : Hid (Calls Tryd.prog 45 #[.pointer (some ⟨N (a + 1), 0, none⟩), .pointer (some ⟨rb, 0, none⟩), .pointer (some ⟨ib, 0, none⟩), .pointer (some ⟨lb, 0, none⟩)] w fun e w' => e = .returned (.tuple #[]) ∧ I (a + 1) w') := hI a w ha h0
    have HT : Hid (∀ k w, I k w → TR Tryd.prog w base T mp n c N S ns) := hT
    have HE : Hid (IsEnd (par c) n a E) := hE
    have HIH : Hid (∀ x X, a < x → x < n → IsEnd (par c) n x X → ∀ w, I x w → Calls Tryd.prog 44 #[.pointer (some ⟨N (x + 1), 0, none⟩), .func (Fn.func 45) #[] #[.pointer (some ⟨rb, 0, none⟩), .pointer (some ⟨ib, 0, none⟩), .pointer (some ⟨lb, 0, none⟩)]] w fun e w' => e = .returned (.tuple #[]) ∧ I X w') := fun x X h1 h2 h3 w h4 => ih (n - x) (by omega) x X rfl h2 h3 w h4
    obtain ⟨ad, cap, hS⟩ := row_form ((hT a w h0).parts (a + 1) (by omega))
    have HS : Hid (S (a + 1) = .slice ad (chL (par c) n (a + 1)).length cap) := hS
    have hlen := chL_len (par c) n (a + 1)
    obtain ⟨m, hm⟩ : ∃ m, (chL (par c) n (a + 1)).length = m := ⟨_, rfl⟩
    have hm120 : m ≤ 120 := by omega
    rw [hm] at HS
    have HM : Hid ((chL (par c) n (a + 1)).length = m) := hm
    have HL := R.low
    have HG := R.gapless
    have HLL : Hid (Low (par c) n) := HL
    have HGG : Hid (Gapless (par c) n) := HG
    clear hT hI ih hS hlen hm hE HL HG h0
    go_enter Tryd.func44, Tryd.ntmps44
    go_wp2_with (go_at_call 45; refine HI0.out.mono ?_; rintro e w1 ⟨rfl, h1⟩; have p6 := (HT.out _ _ h1).partsC (by omega : a + 1 ≤ n); rw [HS.out] at p6; have HI1 : Hid (I (a + 1) w1) := h1; clear h1)
    go_loopw [14] (fun i wr => ∃ j k : Nat, i = .int .i64 (j : Int) ∧ a < k ∧ k ≤ E ∧ (chL (par c) k (a + 1)).length = j ∧ (k < E → par c k = (a : Int)) ∧ I k wr) (fun i _ => m - (intOf i).toNat)
    case atStart =>
      refine ⟨0, a + 1, rfl, by omega, HE.out.1, ?_, fun h => first_part HLL.out HE.out h, HI1.out⟩
      rw [chL_same (x := 0) (Nat.zero_le _) (fun y _ hy => by have := HLL.out y (by omega); omega)]; rfl
    case round =>
      obtain ⟨j, k, rfl, hak, hkE, hj, hpk, hIk⟩ := hrel
      have hEn := HE.out.2.1
      by_cases hlt : k < E
      · have hkn : k < n := by omega
        have hp := hpk hlt
        obtain ⟨X, hX⟩ := end_ex HLL.out HGG.out hkn
        obtain ⟨q1, q2, q3⟩ := next_part HLL.out HGG.out HE.out hkn hp hX
        have hget := chL_get (P := par c) (s := a + 1) hkn (by omega)
        rw [hj] at hget
        have hjm : j < m := by
          rw [← HM.out]
          rcases Nat.lt_or_ge j (chL (par c) n (a + 1)).length with q | q
          · exact q
          · rw [List.getElem?_eq_none q] at hget; cases hget
        have hj2 : (j : Int) < (m : Int) := by omega
        obtain ⟨g, cp, hSg, _, _, hcell⟩ := row_get ((HT.out _ _ hIk).parts (a + 1) (by omega)) (j := j) (by rw [HM.out]; exact hjm)
        have hc1 := hcell j (by rw [HM.out]; exact hjm)
        have e1 : wr.cell? ⟨g, j, none⟩ = some (.pointer (some ⟨N (k + 1), 0, none⟩)) := by rw [hc1]; simp [ptrs, hget, pn]
        have hS2 := HS.out
        rw [hSg, HM.out] at hS2
        obtain ⟨rfl, rfl⟩ : ad = some ⟨g, 0, none⟩ ∧ cap = cp := by
          simp only [Value.slice.injEq] at hS2
          exact ⟨hS2.1.symm, hS2.2.2.symm⟩
        have HC : Hid (Calls Tryd.prog 44 #[.pointer (some ⟨N (k + 1), 0, none⟩), .func (Fn.func 45) #[] #[.pointer (some ⟨rb, 0, none⟩), .pointer (some ⟨ib, 0, none⟩), .pointer (some ⟨lb, 0, none⟩)]] wr fun e w' => e = .returned (.tuple #[]) ∧ I X w') := HIH.out k X hak hkn hX wr hIk
        have HN : Hid (a < X ∧ X ≤ E ∧ (chL (par c) X (a + 1)).length = j + 1 ∧ (X < E → par c X = (a : Int))) := by
          refine ⟨by have := hX.1; omega, q1, ?_, q3⟩
          rw [chL_same (x := k + 1) (by have := hX.1; omega) (fun y h1 h2 => by have := q2 y (by omega) h2; omega), chL_hit (by omega), List.length_append, hj]
          rfl
        clear hS2 hSg hcell hc1 hget q1 q2 q3 hX hp hpk hj hIk
        go_wp2_with (go_at_call 44; refine HC.out.mono ?_; rintro e w2 ⟨rfl, h2⟩; have HI2 : Hid (I X w2) := h2; clear h2)
        go_roundw
        case rel =>
          obtain ⟨z1, z2, z3, z4⟩ := HN.out
          exact ⟨j + 1, X, by go_num, z1, z2, z3, z4, HI2.out⟩
        case measure => simp [intOf]; omega
      · obtain rfl : k = E := by omega
        have hmj : m = j := by
          rw [← HM.out, ← hj, chL_same (x := k) (m := n) hEn (fun y h1 h2 e => ?_)]
          have hy := HLL.out y h2
          have : Anc (par c) a y := (anc_step HLL.out h2 (by omega)).2 ⟨by omega, by rw [show (par c y).toNat = a by omega]; exact anc_self _ _⟩
          have := (HE.out.2.2 y h2).1 this
          omega
        subst hmj
        have HIk : Hid (I k wr) := hIk
        clear hIk hj
        go_wp2
        go_end0
        exact ⟨rfl, HIk.out⟩

end Go.Proofs.YtkplhiahfebmlaaDoor
