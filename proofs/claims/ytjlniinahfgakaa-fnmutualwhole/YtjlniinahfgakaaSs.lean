/- The model's Shares. -/
import Derived.Test.YtjlniinahfgakaaSj
import Derived.Maps.AppendAt
namespace Go.Proofs.Ytjlniinahfgakaa
open Go.ChangeShapes Go.WideShapes Go.ChangeAt Go.RowKit
set_option linter.unusedVariables false
set_option linter.unusedSimpArgs false

theorem cell_one_at {w : World} {b : Nat} {x : Value} {t : TypeId} (hb : w.heap.size = b) : ∀ j u, [x][j]? = some u → (w.alloc (.cells #[x] t (0, 0))).cell? ((⟨b, 0, none⟩ : Addr).add j) = some u := by
  subst hb
  intro j u h
  have hj : j = 0 := by
    rcases j with _ | j
    · rfl
    · simp at h
  subst hj
  simp at h
  subst h
  exact ((CB.new (w := w) #[x] t).cell 0).trans rfl

theorem none_own2 (w : World) (o : Obj) : ((w.alloc o).alloc (.cells #[] 3 (0, 0))).ownsRow w.heap.size 3 1 (.slice (some ⟨w.heap.size + 1, 0, none⟩) 0 0) 0 [] := by
  have := none_own (w.alloc o)
  rw [show (w.alloc o).heap.size = w.heap.size + 1 by simp] at this
  exact row_lower this (by omega)

/-- Two rows of the call's own that share no memory. -/
def Two (base : Nat) (w : World) (u : Value) (n : Nat) (xs : List Value) (v : Value) (m : Nat) (ys : List Value) : Prop :=
  w.ownsRow base 3 1 u n xs ∧ w.ownsRow base 3 1 v m ys ∧ ∀ g h, u.ownBlock = some g → v.ownBlock = some h → g ≠ h
section
variable {base n m n' : Nat} {w w' : World} {u v u' : Value} {xs ys xs' : List Value}
theorem Two.swap (H : Two base w u n xs v m ys) : Two base w v m ys u n xs := ⟨H.2.1, H.1, fun g h h1 h2 e => H.2.2 h g h2 h1 e.symm⟩
theorem Two.below (H : Two base w u n xs v m ys) (k : Below w.heap.size w w') : Two base w' u n xs v m ys := ⟨row_below H.1 k, row_below H.2.1 k, H.2.2⟩
theorem alloc_old (w : World) (o : Obj) {g : Nat} (h : g < w.heap.size) : (w.alloc o).heap[g]? = w.heap[g]? := ((Below.refl w.heap.size w).alloc (Nat.le_refl _) o).block g h
theorem Two.app {o : Obj} (H : Two base w u n xs v m ys) (hown : w'.ownsRow base 3 1 u' n' xs') (hg : (w.alloc o).grownBy w' u.ownBlock) (hl : u'.ownBlock = u.ownBlock ∨ u'.ownBlock = some (w.alloc o).heap.size) : Two base w' u' n' xs' v m ys := by
  refine ⟨hown, row_block H.2.1 (fun g e => ?_), fun g h h1 h2 => ?_⟩
  · have hlt := (H.2.1.lt g e).2
    exact (hg.block g (by simp; omega) (fun q => H.2.2 g g q.symm e rfl)).trans (alloc_old w o hlt)
  · rcases hl with q | q
    · exact H.2.2 g h (q ▸ h1) h2
    · have hlt := (H.2.1.lt h h2).2
      rw [q] at h1
      simp at h1
      omega
theorem Two.set {g cap j : Nat} {x : Value} (H : Two base w (.slice (some ⟨g, 0, none⟩) n cap) n xs v m ys) : Two base (w.setCell ⟨g, j, none⟩ x) (.slice (some ⟨g, 0, none⟩) n cap) n (xs.set j x) v m ys :=
  ⟨(H.1.stored j x).1, row_block H.2.1 (fun h e => heap_set (fun q => H.2.2 g h rfl e q.symm)), H.2.2⟩
end
theorem intL_set {o : Nat → Int} {n j : Nat} (x : Int) (hj : j < n) : (intL o n).set j (.int .i64 x) = intL (upd o j x) n := by
  apply List.ext_getElem?
  intro i
  rw [List.getElem?_set, intL_len]
  by_cases e : j = i
  · subst e; rw [if_pos rfl, if_pos hj, intL_get hj, upd_eq]
  · rw [if_neg e]
    by_cases hi : i < n
    · rw [intL_get hi, intL_get hi, upd_ne (by omega)]
    · rw [List.getElem?_eq_none (by rw [intL_len]; omega), List.getElem?_eq_none (by rw [intL_len]; omega)]

theorem gst_bd {one : Int} {N : Nat} {o r : Nat → Int} {M : Int} (h1 : one = 1 ∨ one = -1) (hN : 0 < N) (h : ∀ j, j < N → -M ≤ o j ∧ o j ≤ M) : ∀ (k j : Nat), j < N → -(M + k) ≤ (gst one N o r k).1 j ∧ (gst one N o r k).1 j ≤ M + k
  | 0, j, hj => by have := h j hj; rw [gst]; simp; omega
  | k + 1, j, hj => by
    have i1 := gst_bd (r := r) h1 hN h k _ (bst_lt (gst one N o r k).2 N hN)
    have i2 := gst_bd (r := r) h1 hN h k j hj
    rw [gst]; simp only; unfold upd
    split <;> omega

theorem l1In_any (x lo hi : Int) (w : World) : Calls Try.prog 60 #[.int .i64 x, .int .i64 lo, .int .i64 hi] w fun e w' => e = .returned (.bool (inB x lo hi)) ∧ w' = w := by
  go_enter Try.func60, Try.ntmps60
  go_wp2
  all_goals go_returns
  all_goals exact ⟨ret_bool (by unfold inB; rw [Bool.eq_iff_iff]; simp; try omega), rfl⟩
theorem l1Amount_eq {x : Int} {v : Bool} (w : World) (h : inB x (-100000000000) 100000000000 = v) : Calls Try.prog 44 #[.int .i64 x] w fun e w' => e = .returned (.bool v) ∧ w' = w := by
  subst h
  go_enter Try.func44, Try.ntmps44
  go_wp2_with (go_at_call 60; refine (l1In_any _ _ _ _).mono ?_; rintro e w' ⟨rfl, ew⟩; replace ew := ew.symm; subst ew)
  go_returns
  exact ⟨rfl, rfl⟩
theorem l1Factor_eq {x : Int} {v : Bool} (w : World) (h : inB x 0 10000000 = v) : Calls Try.prog 45 #[.int .i64 x] w fun e w' => e = .returned (.bool v) ∧ w' = w := by
  subst h
  go_enter Try.func45, Try.ntmps45
  go_wp2_with (go_at_call 60; refine (l1In_any _ _ _ _).mono ?_; rintro e w' ⟨rfl, ew⟩; replace ew := ew.symm; subst ew)
  go_returns
  exact ⟨rfl, rfl⟩
theorem l1Abs_eq (x v : Int) (w : World) (h0 : -1000000000000000000 ≤ x) (h1 : x ≤ 1000000000000000000) (h : v = if x < 0 then -x else x) : Calls Try.prog 46 #[.int .i64 x] w fun e w' => e = .returned (.int .i64 v) ∧ w' = w := by
  subst h
  by_cases g : x < 0
  · rw [if_pos g]
    go_enter Try.func46, Try.ntmps46
    go_wp2
    go_returns
    exact ⟨rfl, rfl⟩
  · rw [if_neg g]
    go_enter Try.func46, Try.ntmps46
    go_wp2
    go_returns
    exact ⟨rfl, rfl⟩

set_option maxRecDepth 20000 in
set_option maxHeartbeats 8000000 in
theorem specShares_any (T : Int) (ad : Option Addr) (N cap : Nat) (z : Nat → Int) (w : World) (hN : (N : Int) ≤ 1048576) (hr : IR w ad N z) :
    Calls Try.prog 12 #[.int .i64 T, .slice ad N cap] w (NewI (shM T N z) (intL (shV T N z) (shM T N z)) w) := by
  have HR : Hid (IR w ad N z) := hr
  have HY1 : Hid (Below w.heap.size w (w.alloc (.cells #[] 3 (0, 0)))) := (Below.refl _ _).alloc (Nat.le_refl _) _
  clear hr
  by_cases hT : -100000000000 ≤ T ∧ T ≤ 100000000000
  case neg =>
    rw [shM_no (fun q => hT q.1)]
    have hb := inB_f hT
    clear hT
    go_enter Try.func12, Try.ntmps12
    go_wp2_with (go_at_call 44; refine (l1Amount_eq _ hb).mono ?_; rintro e w' ⟨rfl, ew⟩; replace ew := ew.symm; subst ew)
    go_returns
    exact ⟨_, _, rfl, none_own w, HY1.out⟩
  have hb := inB_t hT.1 hT.2
  by_cases hn : N ≤ 200
  case neg =>
    rw [shM_no (fun q => hn q.2.1)]
    have l1 : (N : Int) > 200 := by omega
    clear hT
    go_enter Try.func12, Try.ntmps12
    go_wp2_with (go_at_call 44; refine (l1Amount_eq _ hb).mono ?_; rintro e w' ⟨rfl, ew⟩; replace ew := ew.symm; subst ew)
    go_returns
    exact ⟨_, _, rfl, none_own w, HY1.out⟩
  have l1 : ¬ (N : Int) > 200 := by omega
  have l1b : (N : Int) ≤ 200 := by omega
  obtain ⟨hT1, hT2⟩ := hT
  obtain ⟨i0, hi, hz0, hz1, hz2⟩ := info3
  go_enter Try.func12, Try.ntmps12
  go_wp2_with (go_at_call 44; refine (l1Amount_eq _ hb).mono ?_; rintro e w' ⟨rfl, ew⟩; replace ew := ew.symm; subst ew)
  go_loop [6, 7] (fun u v => ∃ (k : Nat) (s : Int), k ≤ N ∧ v = .int .i64 (k : Int) ∧ u = .int .i64 s ∧ 0 ≤ s ∧ s ≤ 2000000000 ∧ Hid (s = sm z k ∧ ∀ j, j < k → 0 ≤ z j ∧ z j ≤ 10000000)) (fun u v => N - (intOf v).toNat)
  case atStart => exact ⟨0, 0, Nat.zero_le _, rfl, rfl, Int.le_refl _, by omega, rfl, fun j hj => by omega⟩
  case round =>
    obtain ⟨k, s, hk, rfl, rfl, hs1, hs2, hs⟩ := hrel
    by_cases hlt : k < N
    · obtain ⟨kb, off, rfl, _⟩ := HR.out.addr (by omega)
      have c1 := (HR.out.below HY1.out).cell hlt
      have hlt2 : (k : Int) < (N : Int) := by omega
      obtain ⟨y, hy⟩ : ∃ y, z k = y := ⟨_, rfl⟩
      rw [hy] at c1
      have HY : Hid (z k = y) := hy
      clear hy
      by_cases hf : 0 ≤ y ∧ y ≤ 10000000
      · have hb2 := inB_t hf.1 hf.2
        have HS : Hid (s + y = sm z (k + 1) ∧ ∀ j, j < k + 1 → 0 ≤ z j ∧ z j ≤ 10000000) := ⟨by rw [sm_succ, HY.out, ← hs.out.1], fun j hj => by
          by_cases e : j = k
          · rw [e, HY.out]; exact hf
          · exact hs.out.2 j (by omega)⟩
        have hs3 : s + y ≤ 2000000000 := by have := fac_sum (N := k + 1) (by omega) HS.out.2 (Nat.le_refl _); rw [← HS.out.1] at this; exact this.2
        obtain ⟨hf1, hf2⟩ := hf
        go_wp2_with (go_at_call 45; refine (l1Factor_eq _ hb2).mono ?_; rintro e w' ⟨rfl, ew⟩; replace ew := ew.symm; subst ew)
        go_round
        case rel => exact ⟨k + 1, s + y, by omega, by go_num, by go_num, by omega, hs3, HS⟩
        case measure => simp [intOf]; omega
      · have hb2 := inB_f hf
        have HF : Hid (shM T N z = 0) := shM_no (fun q => hf (HY.out ▸ q.2.2.1 k hlt))
        clear hf
        go_wp2_with (go_at_call 45; refine (l1Factor_eq _ hb2).mono ?_; rintro e w' ⟨rfl, ew⟩; replace ew := ew.symm; subst ew)
        go_returns
        rw [HF.out]
        exact ⟨_, _, rfl, none_own w, HY1.out⟩
    · obtain rfl : k = N := by omega
      have lkk : ¬ (k : Int) < (k : Int) := by omega
      by_cases hs0 : s = 0
      · have e0 : (s == 0) = true := by simpa using hs0
        have HF : Hid (shM T k z = 0) := shM_no (fun q => by have := q.2.2.2; rw [← hs.out.1] at this; omega)
        go_wp2
        go_returns
        rw [HF.out]
        exact ⟨_, _, rfl, none_own w, HY1.out⟩
      have e0 : (s == 0) = false := by simpa using hs0
      have HOk : Hid (ShOk T k z) := ⟨⟨hT1, hT2⟩, hn, hs.out.2, by rw [← hs.out.1]; omega⟩
      have HS : Hid (sm z k = s) := hs.out.1.symm
      have HZ : Hid (∀ j, j < k → 0 ≤ z j ∧ z j ≤ 10000000) := hs.out.2
      have hs3 : 1 ≤ s := by omega
      have HK : Hid (∃ K : Nat, K < k ∧ (lf T k z).natAbs = K ∧ ((lf T k z = (K : Int) ∧ 0 ≤ lf T k z) ∨ (lf T k z = -(K : Int) ∧ lf T k z < 0))) := by
        obtain ⟨K, k1, k2, k3, _⟩ := lf_bd HOk.out
        exact ⟨K, k1, k2, k3⟩
      have HQ : Hid (∀ j, j < k → -100000000000 ≤ qv T k z j ∧ qv T k z j ≤ 100000000000) := fun j hj => qv_bd HOk.out hj
      clear hs hs0 hs1
      go_wp2
      go_loopw [5, 8, 9, 10] (fun u v x y wr => ∃ (i : Nat) (L : Int) (adu adv : Option Addr) (cu cv : Nat), i ≤ k ∧ y = .int .i64 (i : Int) ∧ x = .int .i64 L ∧ u = .slice adu i cu ∧ v = .slice adv i cv ∧ -30000000000000 ≤ L ∧ L ≤ 30000000000000 ∧ Hid (L = T - sm (qv T k z) i) ∧ Hid (Two w.heap.size wr (.slice adu i cu) i (intL (qv T k z) i) (.slice adv i cv) i (intL (rs T k z) i) ∧ Below w.heap.size w wr)) (fun _ _ _ y _ => k - (intOf y).toNat)
      case atStart =>
        refine ⟨0, T, _, _, _, _, Nat.zero_le _, rfl, rfl, rfl, rfl, by omega, by omega, by show T = T - 0; omega, ⟨row_below (none_own w) ((Below.refl _ _).alloc (Nat.le_refl _) _), none_own2 w _, fun g h h1 h2 => ?_⟩, ((Below.refl _ _).alloc (Nat.le_refl _) _).alloc (by simp) _⟩
        simp [Value.ownBlock] at h1 h2
        omega
      case round =>
        obtain ⟨i, L, adu, adv, cu, cv, hi1, rfl, rfl, rfl, rfl, hL1, hL2, HL, HW⟩ := hrel
        by_cases hlt2 : i < k
        · have hlt3 : (i : Int) < (k : Int) := by omega
          obtain ⟨kb, off, rfl, _⟩ := HR.out.addr (by omega)
          have c1 := (HR.out.below HW.out.2).cell hlt2
          obtain ⟨y, hy⟩ : ∃ y, z i = y := ⟨_, rfl⟩
          have hyb := HZ.out i hlt2
          rw [hy] at c1 hyb
          obtain ⟨P, hP⟩ : ∃ P, T * y = P := ⟨_, rfl⟩
          have hPb := mul_bd T y 100000000000 10000000 hT1 hT2 hyb.1 hyb.2 (by omega)
          rw [hP] at hPb
          obtain ⟨hP1, hP2⟩ := hPb
          have hP3 : -1000000000000000000 ≤ P := by omega
          have hP4 : P ≤ 1000000000000000000 := by omega
          obtain ⟨fc0, fc1, fcp, fcn⟩ := cut_facts P s hs3
          obtain ⟨d, hd⟩ : ∃ d, P.tdiv s = d := ⟨_, rfl⟩
          obtain ⟨r, hr⟩ : ∃ r, cr P s = r := ⟨_, rfl⟩
          rw [hd, hr] at fcp fcn
          rw [hr] at fc0 fc1
          have HQi : Hid (qv T k z i = d ∧ rs T k z i = r) := by
            constructor
            · unfold qv; rw [hy, HS.out, hP, hd]
            · unfold rs; rw [hy, HS.out, hP, hr]
          have hdb := HQ.out i hlt2
          rw [HQi.out.1] at hdb
          obtain ⟨hd1, hd2⟩ := hdb
          have HLn : Hid (L - d = T - sm (qv T k z) (i + 1)) := by show _ = _; rw [sm_succ, HQi.out.1, HL.out]; omega
          have hLb : -30000000000000 ≤ L - d ∧ L - d ≤ 30000000000000 := by
            rw [HLn.out]
            have := sm_bound (z := qv T k z) (M := 100000000000) (by omega) HQ.out 0 (i + 1) (Nat.zero_le _) (by omega)
            rw [show sm (qv T k z) 0 = 0 from rfl] at this
            omega
          obtain ⟨hL3, hL4⟩ := hLb
          have hsz := HW.out.2.size
          have HH : Hid (P.tdiv s = d) := hd
          clear hy hr hyb hP1 hP2 HL
          rcases (show P < 0 ∧ r = 0 ∨ P < 0 ∧ 0 < r ∨ 0 ≤ P by omega) with ⟨p0, r0⟩ | ⟨p0, r0⟩ | p0
          · subst r0
            obtain ⟨n1, n2, n3, n4⟩ := fcn p0
            clear n4
            have tok1 : True := trivial
            clear fcp fcn
            go_wp2_with (first
            | (at_builtin; have := tok1; clear this tok1; refine wpList_append_own_at _ rfl _ _ 24 rfl w.heap.size 3 i0 (.int .i64 0) 1 8 Try.underlying24 hi hz0 hz1 hz2 rfl (by decide) (.slice adu i cu) i (intL (qv T k z) i) rfl (row_below HW.out.1.1 ((Below.refl _ _).alloc (Nat.le_refl _) _)) ⟨wr.heap.size, 0, none⟩ 1 1 [.int .i64 d] rfl rfl (cell_one_at rfl) (fun x hx => by simp at hx; subst hx; rfl) (by unfold maxLen; omega) (by omega) (by simp; omega) ?_
               intro u' w3 hown' hgrow3 _ hloc3
               obtain ⟨adu', cu', rfl⟩ := row_form hown'
               have hown2 : w3.ownsRow w.heap.size 3 1 (.slice adu' (i + 1) cu') (i + 1) (intL (qv T k z) (i + 1)) := (by rw [intL_succ, HQi.out.1]; exact hown')
               have HW3 : Hid (Two w.heap.size w3 (.slice adu' (i + 1) cu') (i + 1) (intL (qv T k z) (i + 1)) (.slice adv i cv) i (intL (rs T k z) i) ∧ Below w.heap.size w w3) := ⟨HW.out.1.app hown2 hgrow3 hloc3, Below.grown (HW.out.2.alloc HW.out.2.size _) hgrow3 (by simp; omega) (fun j hj => (HW.out.1.1.lt _ hj).1)⟩
               have hsz3 := HW3.out.2.size
               clear hown' hown2 hgrow3 hloc3)
            | (go_at_call 46; refine (l1Abs_eq _ 0 _ (by omega) (by omega) (by split <;> omega)).mono ?_; rintro e w' ⟨rfl, ew⟩; replace ew := ew.symm; subst ew)
            | (at_builtin; have := HW3; refine wpList_append_own_at _ rfl _ _ 24 rfl w.heap.size 3 i0 (.int .i64 0) 1 8 Try.underlying24 hi hz0 hz1 hz2 rfl (by decide) (.slice adv i cv) i (intL (rs T k z) i) rfl (row_below HW3.out.1.2.1 ((Below.refl _ _).alloc (Nat.le_refl _) _)) ⟨w3.heap.size, 0, none⟩ 1 1 [.int .i64 0] rfl rfl (cell_one_at rfl) (fun x hx => by simp at hx; subst hx; rfl) (by unfold maxLen; omega) (by omega) (by simp; omega) ?_
               intro v' w5 hown' hgrow5 _ hloc5
               obtain ⟨adv', cv', rfl⟩ := row_form hown'
               have hown2 : w5.ownsRow w.heap.size 3 1 (.slice adv' (i + 1) cv') (i + 1) (intL (rs T k z) (i + 1)) := (by rw [intL_succ, HQi.out.2]; exact hown')
               have HW5 : Hid (Two w.heap.size w5 (.slice adu' (i + 1) cu') (i + 1) (intL (qv T k z) (i + 1)) (.slice adv' (i + 1) cv') (i + 1) (intL (rs T k z) (i + 1)) ∧ Below w.heap.size w w5) := ⟨(HW3.out.1.swap.app hown2 hgrow5 hloc5).swap, Below.grown (HW3.out.2.alloc HW3.out.2.size _) hgrow5 (by simp; omega) (fun j hj => (HW3.out.1.2.1.lt _ hj).1)⟩
               clear hown' hown2 hgrow5 hloc5))
            go_roundw
            case rel => exact ⟨i + 1, L - d, _, _, _, _, by omega, by go_num, by go_num, rfl, rfl, hL3, hL4, HLn, HW5⟩
            case measure => simp [intOf]; omega
          · obtain ⟨n1, n2, n3, n4⟩ := fcn p0
            clear n4
            have tok1 : True := trivial
            clear fcp fcn
            go_wp2_with (first
            | (at_builtin; have := tok1; clear this tok1; refine wpList_append_own_at _ rfl _ _ 24 rfl w.heap.size 3 i0 (.int .i64 0) 1 8 Try.underlying24 hi hz0 hz1 hz2 rfl (by decide) (.slice adu i cu) i (intL (qv T k z) i) rfl (row_below HW.out.1.1 ((Below.refl _ _).alloc (Nat.le_refl _) _)) ⟨wr.heap.size, 0, none⟩ 1 1 [.int .i64 d] rfl rfl (cell_one_at rfl) (fun x hx => by simp at hx; subst hx; rfl) (by unfold maxLen; omega) (by omega) (by simp; omega) ?_
               intro u' w3 hown' hgrow3 _ hloc3
               obtain ⟨adu', cu', rfl⟩ := row_form hown'
               have hown2 : w3.ownsRow w.heap.size 3 1 (.slice adu' (i + 1) cu') (i + 1) (intL (qv T k z) (i + 1)) := (by rw [intL_succ, HQi.out.1]; exact hown')
               have HW3 : Hid (Two w.heap.size w3 (.slice adu' (i + 1) cu') (i + 1) (intL (qv T k z) (i + 1)) (.slice adv i cv) i (intL (rs T k z) i) ∧ Below w.heap.size w w3) := ⟨HW.out.1.app hown2 hgrow3 hloc3, Below.grown (HW.out.2.alloc HW.out.2.size _) hgrow3 (by simp; omega) (fun j hj => (HW.out.1.1.lt _ hj).1)⟩
               have hsz3 := HW3.out.2.size
               clear hown' hown2 hgrow3 hloc3)
            | (go_at_call 46; refine (l1Abs_eq _ r _ (by omega) (by omega) (by split <;> omega)).mono ?_; rintro e w' ⟨rfl, ew⟩; replace ew := ew.symm; subst ew)
            | (at_builtin; have := HW3; refine wpList_append_own_at _ rfl _ _ 24 rfl w.heap.size 3 i0 (.int .i64 0) 1 8 Try.underlying24 hi hz0 hz1 hz2 rfl (by decide) (.slice adv i cv) i (intL (rs T k z) i) rfl (row_below HW3.out.1.2.1 ((Below.refl _ _).alloc (Nat.le_refl _) _)) ⟨w3.heap.size, 0, none⟩ 1 1 [.int .i64 r] rfl rfl (cell_one_at rfl) (fun x hx => by simp at hx; subst hx; rfl) (by unfold maxLen; omega) (by omega) (by simp; omega) ?_
               intro v' w5 hown' hgrow5 _ hloc5
               obtain ⟨adv', cv', rfl⟩ := row_form hown'
               have hown2 : w5.ownsRow w.heap.size 3 1 (.slice adv' (i + 1) cv') (i + 1) (intL (rs T k z) (i + 1)) := (by rw [intL_succ, HQi.out.2]; exact hown')
               have HW5 : Hid (Two w.heap.size w5 (.slice adu' (i + 1) cu') (i + 1) (intL (qv T k z) (i + 1)) (.slice adv' (i + 1) cv') (i + 1) (intL (rs T k z) (i + 1)) ∧ Below w.heap.size w w5) := ⟨(HW3.out.1.swap.app hown2 hgrow5 hloc5).swap, Below.grown (HW3.out.2.alloc HW3.out.2.size _) hgrow5 (by simp; omega) (fun j hj => (HW3.out.1.2.1.lt _ hj).1)⟩
               clear hown' hown2 hgrow5 hloc5))
            go_roundw
            case rel => exact ⟨i + 1, L - d, _, _, _, _, by omega, by go_num, by go_num, rfl, rfl, hL3, hL4, HLn, HW5⟩
            case measure => simp [intOf]; omega
          · obtain ⟨n1, n2, n3, n4, n5⟩ := fcp p0
            clear n5
            have tok1 : True := trivial
            clear fcp fcn
            go_wp2_with (first
            | (at_builtin; have := tok1; clear this tok1; refine wpList_append_own_at _ rfl _ _ 24 rfl w.heap.size 3 i0 (.int .i64 0) 1 8 Try.underlying24 hi hz0 hz1 hz2 rfl (by decide) (.slice adu i cu) i (intL (qv T k z) i) rfl (row_below HW.out.1.1 ((Below.refl _ _).alloc (Nat.le_refl _) _)) ⟨wr.heap.size, 0, none⟩ 1 1 [.int .i64 d] rfl rfl (cell_one_at rfl) (fun x hx => by simp at hx; subst hx; rfl) (by unfold maxLen; omega) (by omega) (by simp; omega) ?_
               intro u' w3 hown' hgrow3 _ hloc3
               obtain ⟨adu', cu', rfl⟩ := row_form hown'
               have hown2 : w3.ownsRow w.heap.size 3 1 (.slice adu' (i + 1) cu') (i + 1) (intL (qv T k z) (i + 1)) := (by rw [intL_succ, HQi.out.1]; exact hown')
               have HW3 : Hid (Two w.heap.size w3 (.slice adu' (i + 1) cu') (i + 1) (intL (qv T k z) (i + 1)) (.slice adv i cv) i (intL (rs T k z) i) ∧ Below w.heap.size w w3) := ⟨HW.out.1.app hown2 hgrow3 hloc3, Below.grown (HW.out.2.alloc HW.out.2.size _) hgrow3 (by simp; omega) (fun j hj => (HW.out.1.1.lt _ hj).1)⟩
               have hsz3 := HW3.out.2.size
               clear hown' hown2 hgrow3 hloc3)
            | (go_at_call 46; refine (l1Abs_eq _ r _ (by omega) (by omega) (by split <;> omega)).mono ?_; rintro e w' ⟨rfl, ew⟩; replace ew := ew.symm; subst ew)
            | (at_builtin; have := HW3; refine wpList_append_own_at _ rfl _ _ 24 rfl w.heap.size 3 i0 (.int .i64 0) 1 8 Try.underlying24 hi hz0 hz1 hz2 rfl (by decide) (.slice adv i cv) i (intL (rs T k z) i) rfl (row_below HW3.out.1.2.1 ((Below.refl _ _).alloc (Nat.le_refl _) _)) ⟨w3.heap.size, 0, none⟩ 1 1 [.int .i64 r] rfl rfl (cell_one_at rfl) (fun x hx => by simp at hx; subst hx; rfl) (by unfold maxLen; omega) (by omega) (by simp; omega) ?_
               intro v' w5 hown' hgrow5 _ hloc5
               obtain ⟨adv', cv', rfl⟩ := row_form hown'
               have hown2 : w5.ownsRow w.heap.size 3 1 (.slice adv' (i + 1) cv') (i + 1) (intL (rs T k z) (i + 1)) := (by rw [intL_succ, HQi.out.2]; exact hown')
               have HW5 : Hid (Two w.heap.size w5 (.slice adu' (i + 1) cu') (i + 1) (intL (qv T k z) (i + 1)) (.slice adv' (i + 1) cv') (i + 1) (intL (rs T k z) (i + 1)) ∧ Below w.heap.size w w5) := ⟨(HW3.out.1.swap.app hown2 hgrow5 hloc5).swap, Below.grown (HW3.out.2.alloc HW3.out.2.size _) hgrow5 (by simp; omega) (fun j hj => (HW3.out.1.2.1.lt _ hj).1)⟩
               clear hown' hown2 hgrow5 hloc5))
            go_roundw
            case rel => exact ⟨i + 1, L - d, _, _, _, _, by omega, by go_num, by go_num, rfl, rfl, hL3, hL4, HLn, HW5⟩
            case measure => simp [intOf]; omega
        · obtain rfl : i = k := by omega
          have lkk2 : ¬ (i : Int) < (i : Int) := by omega
          obtain ⟨K, k1, k2, k3⟩ := HK.out
          have hL5 : L = lf T i z := HL.out
          have hi0 : 0 < i := by omega
          obtain ⟨⟨o1, o2, o3⟩, hB⟩ := HW.out
          obtain ⟨g1, cp1, e1, _⟩ := row_get o1 (j := 0) hi0
          obtain ⟨g2, cp2, e2, _⟩ := row_get o2 (j := 0) hi0
          simp only [Value.slice.injEq] at e1 e2
          obtain ⟨rfl, _, rfl⟩ := e1
          obtain ⟨rfl, _, rfl⟩ := e2
          have HT : Hid (Two w.heap.size wr (.slice (some ⟨g1, 0, none⟩) i cu) i (intL (qv T i z) i) (.slice (some ⟨g2, 0, none⟩) i cv) i (intL (rs T i z) i) ∧ Below w.heap.size w wr) := ⟨⟨o1, o2, o3⟩, hB⟩
          have hg12 : g1 ≠ g2 := o3 g1 g2 rfl rfl
          have hg21 : g2 ≠ g1 := fun q => hg12 q.symm
          rw [← hL5] at k2 k3
          have Hk2 : Hid (L.natAbs = K) := k2
          have HLL : Hid (lf T i z = L) := hL5.symm
          clear HW o1 o2 o3 hB hL5 HL hL1 hL2 k2
          rcases k3 with ⟨k3, k4⟩ | ⟨k3, k4⟩
          · subst k3
            have hon : Hid (on1 (K : Int) = 1) := by show on1 _ = _; unfold on1; rw [if_neg (by omega)]
            have hlr : ¬ (K : Int) < 0 := by omega
            go_wp2
            go_loopw [9] (fun x wq => ∃ (q : Nat) (M : Int), q ≤ K ∧ x = .int .i64 M ∧ M = (K : Int) - (q : Int) ∧ Hid (Two w.heap.size wq (.slice (some ⟨g1, 0, none⟩) i cu) i (intL (gst (1) i (qv T i z) (rs T i z) q).1 i) (.slice (some ⟨g2, 0, none⟩) i cv) i (intL (gst (1) i (qv T i z) (rs T i z) q).2 i) ∧ Below w.heap.size w wq)) (fun x _ => (intOf x).natAbs)
            case atStart => exact ⟨0, _, Nat.zero_le _, rfl, by simp, HT.out⟩
            case round =>
              clear HT
              rename_i wr0
              obtain ⟨q, M, hq, rfl, hM, HW⟩ := hrel
              by_cases hqK : q < K
              · have hM0 : (M != 0) = true := by simp; omega
                have hMb1 : -200 ≤ M := by omega
                have hMb2 : M ≤ 200 := by omega
                have HM : Hid (M = (K : Int) - (q : Int)) := hM
                obtain ⟨O, hO⟩ : ∃ O, (gst (1) i (qv T i z) (rs T i z) q).1 = O := ⟨_, rfl⟩
                obtain ⟨R, hR⟩ : ∃ R, (gst (1) i (qv T i z) (rs T i z) q).2 = R := ⟨_, rfl⟩
                have HG : Hid ((gst (1) i (qv T i z) (rs T i z) (q + 1)).1 = upd O (bst R i) (O (bst R i) + 1) ∧ (gst (1) i (qv T i z) (rs T i z) (q + 1)).2 = upd R (bst R i) (-1)) := by
                  rw [gst, hO, hR]; exact ⟨rfl, rfl⟩
                have hOb : ∀ j, j < i → -200000000000 ≤ O j ∧ O j ≤ 200000000000 := fun j hj => by
                  have := gst_bd (one := 1) (r := rs T i z) (M := 100000000000) (by omega) hi0 HQ.out q j hj
                  rw [hO] at this; omega
                have HOb : Hid (∀ j, j < i → -200000000000 ≤ O j ∧ O j ≤ 200000000000) := hOb
                rw [hO, hR] at HW
                clear hO hR hOb hM
                have lil : (1 : Int) ≤ (i : Int) := by omega
                go_wp2
                go_loopw [13, 14] (fun x y wv => ∃ (b j nq : Nat), x = .int .i64 (b : Int) ∧ y = .int .i64 (j : Int) ∧ 1 ≤ j ∧ j ≤ i ∧ b < i ∧ Hid (b = bst R j) ∧ wv = wr.drewN nq) (fun x y _ => i - (intOf y).toNat)
                case atStart => exact ⟨0, 1, 0, rfl, rfl, Nat.le_refl _, hi0, hi0, rfl, rfl⟩
                case round =>
                  rename_i wr1
                  obtain ⟨b, j, nq, rfl, rfl, hj1, hji, hbi, hbj, rfl⟩ := hrel
                  by_cases hj : j < i
                  · have hj2 : (j : Int) < (i : Int) := by omega
                    have hb2 : (b : Int) < (i : Int) := by omega
                    have x1 := (HW.out.1.2.1.cellAt j (by omega)).trans (intL_get hj)
                    have x2 := (HW.out.1.2.1.cellAt b (by omega)).trans (intL_get hbi)
                    obtain ⟨rj, hrj⟩ : ∃ rj, R j = rj := ⟨_, rfl⟩
                    obtain ⟨rb, hrb⟩ : ∃ rb, R b = rb := ⟨_, rfl⟩
                    rw [hrj] at x1
                    rw [hrb] at x2
                    by_cases hcmp : rb < rj
                    · have dc : decide (rb < rj) = true := decide_eq_true hcmp
                      have HN : Hid (j = bst R (j + 1)) := by
                        show _ = _
                        rw [bst_succ (by omega), ← hbj.out, hrj, hrb, if_pos hcmp]
                      clear hrj hrb hbj
                      go_wp2
                      go_quiet (fail)
                      go_wp2
                      go_roundw
                      case rel => exact ⟨j, j + 1, _, rfl, by go_num, by omega, by omega, hj, HN, rfl⟩
                      case measure => simp [intOf]; omega
                    · have dc : decide (rb < rj) = false := decide_eq_false hcmp
                      have HN : Hid (b = bst R (j + 1)) := by
                        show _ = _
                        rw [bst_succ (by omega), ← hbj.out, hrj, hrb, if_neg hcmp]
                      clear hrj hrb hbj
                      go_wp2
                      go_quiet (fail)
                      go_wp2
                      go_roundw
                      case rel => exact ⟨b, j + 1, _, rfl, by go_num, by omega, by omega, hbi, HN, rfl⟩
                      case measure => simp [intOf]; omega
                  · obtain rfl : j = i := by omega
                    have ljj : ¬ (j : Int) < (j : Int) := by omega
                    have hb2 : (b : Int) < (j : Int) := by omega
                    have x1 : (wr.drewN nq).cell? ⟨g1, b, none⟩ = _ := (HW.out.1.1.cellAt b (by omega)).trans (intL_get hbi)
                    have x2 : (wr.drewN nq).cell? ⟨g2, b, none⟩ = _ := (HW.out.1.2.1.cellAt b (by omega)).trans (intL_get hbi)
                    have f1 : (wr.drewN nq).frozen? ⟨g1, b, none⟩ = false := HW.out.1.1.frozenAt b
                    have f2 : (wr.drewN nq).frozen? ⟨g2, b, none⟩ = false := HW.out.1.2.1.frozenAt b
                    obtain ⟨v, hv⟩ : ∃ v, O b = v := ⟨_, rfl⟩
                    obtain ⟨rb, hrb⟩ : ∃ rb, R b = rb := ⟨_, rfl⟩
                    have hvb := HOb.out b hbi
                    rw [hv] at x1 hvb
                    rw [hrb] at x2
                    obtain ⟨hv1, hv2⟩ := hvb
                    have HN : Hid (Two w.heap.size (((wr.drewN nq).setCell ⟨g1, b, none⟩ (.int .i64 (v + 1))).setCell ⟨g2, b, none⟩ (.int .i64 (-1))) (.slice (some ⟨g1, 0, none⟩) j cu) j (intL (gst (1) j (qv T j z) (rs T j z) (q + 1)).1 j) (.slice (some ⟨g2, 0, none⟩) j cv) j (intL (gst (1) j (qv T j z) (rs T j z) (q + 1)).2 j) ∧ Below w.heap.size w (((wr.drewN nq).setCell ⟨g1, b, none⟩ (.int .i64 (v + 1))).setCell ⟨g2, b, none⟩ (.int .i64 (-1)))) := by
                      have hD : Two w.heap.size (wr.drewN nq) (.slice (some ⟨g1, 0, none⟩) j cu) j (intL O j) (.slice (some ⟨g2, 0, none⟩) j cv) j (intL R j) := HW.out.1
                      have hD2 := (hD.set (j := b) (x := .int .i64 (v + 1))).swap.set (j := b) (x := .int .i64 (-1))
                      rw [intL_set _ hbi, intL_set _ hbi] at hD2
                      rw [HG.out.1, HG.out.2, ← hbj.out, hv]
                      exact ⟨hD2.swap, ((belowN HW.out.2 nq).setCell (HW.out.1.1.lt g1 rfl).1 _).setCell (HW.out.1.2.1.lt g2 rfl).1 _⟩
                    clear hv hrb hbj HW HG
                    go_wp2
                    go_roundw
                    case rel => exact ⟨q + 1, M - 1, by omega, by go_num, by have := HM.out; omega, HN⟩
                    case measure => have := HM.out; simp [intOf]; omega
              · obtain rfl : q = K := by omega
                have hM0 : M = 0 := by omega
                subst hM0
                have HF : Hid (wr.ownsRow w.heap.size 3 1 (.slice (some ⟨g1, 0, none⟩) i cu) i (intL (shV T i z) i) ∧ Below w.heap.size w wr) := by
                  refine ⟨?_, HW.out.2⟩
                  have := HW.out.1.1
                  unfold shV; rw [HLL.out, Hk2.out, hon.out]; exact this
                clear HW hM hq hqK k1
                go_wp2
                go_returns
                rw [shM_ok HOk.out]
                exact ⟨_, _, rfl, HF.out.1, HF.out.2⟩
          · subst k3
            have hon : Hid (on1 (-(K : Int)) = -1) := by show on1 _ = _; unfold on1; rw [if_pos (by omega)]
            have hlr : -(K : Int) < 0 := by omega
            go_wp2
            go_loopw [9] (fun x wq => ∃ (q : Nat) (M : Int), q ≤ K ∧ x = .int .i64 M ∧ M = -((K : Int) - (q : Int)) ∧ Hid (Two w.heap.size wq (.slice (some ⟨g1, 0, none⟩) i cu) i (intL (gst (-1) i (qv T i z) (rs T i z) q).1 i) (.slice (some ⟨g2, 0, none⟩) i cv) i (intL (gst (-1) i (qv T i z) (rs T i z) q).2 i) ∧ Below w.heap.size w wq)) (fun x _ => (intOf x).natAbs)
            case atStart => exact ⟨0, _, Nat.zero_le _, rfl, by simp, HT.out⟩
            case round =>
              clear HT
              rename_i wr0
              obtain ⟨q, M, hq, rfl, hM, HW⟩ := hrel
              by_cases hqK : q < K
              · have hM0 : (M != 0) = true := by simp; omega
                have hMb1 : -200 ≤ M := by omega
                have hMb2 : M ≤ 200 := by omega
                have HM : Hid (M = -((K : Int) - (q : Int))) := hM
                obtain ⟨O, hO⟩ : ∃ O, (gst (-1) i (qv T i z) (rs T i z) q).1 = O := ⟨_, rfl⟩
                obtain ⟨R, hR⟩ : ∃ R, (gst (-1) i (qv T i z) (rs T i z) q).2 = R := ⟨_, rfl⟩
                have HG : Hid ((gst (-1) i (qv T i z) (rs T i z) (q + 1)).1 = upd O (bst R i) (O (bst R i) + -1) ∧ (gst (-1) i (qv T i z) (rs T i z) (q + 1)).2 = upd R (bst R i) (-1)) := by
                  rw [gst, hO, hR]; exact ⟨rfl, rfl⟩
                have hOb : ∀ j, j < i → -200000000000 ≤ O j ∧ O j ≤ 200000000000 := fun j hj => by
                  have := gst_bd (one := -1) (r := rs T i z) (M := 100000000000) (by omega) hi0 HQ.out q j hj
                  rw [hO] at this; omega
                have HOb : Hid (∀ j, j < i → -200000000000 ≤ O j ∧ O j ≤ 200000000000) := hOb
                rw [hO, hR] at HW
                clear hO hR hOb hM
                have lil : (1 : Int) ≤ (i : Int) := by omega
                go_wp2
                go_loopw [13, 14] (fun x y wv => ∃ (b j nq : Nat), x = .int .i64 (b : Int) ∧ y = .int .i64 (j : Int) ∧ 1 ≤ j ∧ j ≤ i ∧ b < i ∧ Hid (b = bst R j) ∧ wv = wr.drewN nq) (fun x y _ => i - (intOf y).toNat)
                case atStart => exact ⟨0, 1, 0, rfl, rfl, Nat.le_refl _, hi0, hi0, rfl, rfl⟩
                case round =>
                  rename_i wr1
                  obtain ⟨b, j, nq, rfl, rfl, hj1, hji, hbi, hbj, rfl⟩ := hrel
                  by_cases hj : j < i
                  · have hj2 : (j : Int) < (i : Int) := by omega
                    have hb2 : (b : Int) < (i : Int) := by omega
                    have x1 := (HW.out.1.2.1.cellAt j (by omega)).trans (intL_get hj)
                    have x2 := (HW.out.1.2.1.cellAt b (by omega)).trans (intL_get hbi)
                    obtain ⟨rj, hrj⟩ : ∃ rj, R j = rj := ⟨_, rfl⟩
                    obtain ⟨rb, hrb⟩ : ∃ rb, R b = rb := ⟨_, rfl⟩
                    rw [hrj] at x1
                    rw [hrb] at x2
                    by_cases hcmp : rb < rj
                    · have dc : decide (rb < rj) = true := decide_eq_true hcmp
                      have HN : Hid (j = bst R (j + 1)) := by
                        show _ = _
                        rw [bst_succ (by omega), ← hbj.out, hrj, hrb, if_pos hcmp]
                      clear hrj hrb hbj
                      go_wp2
                      go_quiet (fail)
                      go_wp2
                      go_roundw
                      case rel => exact ⟨j, j + 1, _, rfl, by go_num, by omega, by omega, hj, HN, rfl⟩
                      case measure => simp [intOf]; omega
                    · have dc : decide (rb < rj) = false := decide_eq_false hcmp
                      have HN : Hid (b = bst R (j + 1)) := by
                        show _ = _
                        rw [bst_succ (by omega), ← hbj.out, hrj, hrb, if_neg hcmp]
                      clear hrj hrb hbj
                      go_wp2
                      go_quiet (fail)
                      go_wp2
                      go_roundw
                      case rel => exact ⟨b, j + 1, _, rfl, by go_num, by omega, by omega, hbi, HN, rfl⟩
                      case measure => simp [intOf]; omega
                  · obtain rfl : j = i := by omega
                    have ljj : ¬ (j : Int) < (j : Int) := by omega
                    have hb2 : (b : Int) < (j : Int) := by omega
                    have x1 : (wr.drewN nq).cell? ⟨g1, b, none⟩ = _ := (HW.out.1.1.cellAt b (by omega)).trans (intL_get hbi)
                    have x2 : (wr.drewN nq).cell? ⟨g2, b, none⟩ = _ := (HW.out.1.2.1.cellAt b (by omega)).trans (intL_get hbi)
                    have f1 : (wr.drewN nq).frozen? ⟨g1, b, none⟩ = false := HW.out.1.1.frozenAt b
                    have f2 : (wr.drewN nq).frozen? ⟨g2, b, none⟩ = false := HW.out.1.2.1.frozenAt b
                    obtain ⟨v, hv⟩ : ∃ v, O b = v := ⟨_, rfl⟩
                    obtain ⟨rb, hrb⟩ : ∃ rb, R b = rb := ⟨_, rfl⟩
                    have hvb := HOb.out b hbi
                    rw [hv] at x1 hvb
                    rw [hrb] at x2
                    obtain ⟨hv1, hv2⟩ := hvb
                    have HN : Hid (Two w.heap.size (((wr.drewN nq).setCell ⟨g1, b, none⟩ (.int .i64 (v + -1))).setCell ⟨g2, b, none⟩ (.int .i64 (-1))) (.slice (some ⟨g1, 0, none⟩) j cu) j (intL (gst (-1) j (qv T j z) (rs T j z) (q + 1)).1 j) (.slice (some ⟨g2, 0, none⟩) j cv) j (intL (gst (-1) j (qv T j z) (rs T j z) (q + 1)).2 j) ∧ Below w.heap.size w (((wr.drewN nq).setCell ⟨g1, b, none⟩ (.int .i64 (v + -1))).setCell ⟨g2, b, none⟩ (.int .i64 (-1)))) := by
                      have hD : Two w.heap.size (wr.drewN nq) (.slice (some ⟨g1, 0, none⟩) j cu) j (intL O j) (.slice (some ⟨g2, 0, none⟩) j cv) j (intL R j) := HW.out.1
                      have hD2 := (hD.set (j := b) (x := .int .i64 (v + -1))).swap.set (j := b) (x := .int .i64 (-1))
                      rw [intL_set _ hbi, intL_set _ hbi] at hD2
                      rw [HG.out.1, HG.out.2, ← hbj.out, hv]
                      exact ⟨hD2.swap, ((belowN HW.out.2 nq).setCell (HW.out.1.1.lt g1 rfl).1 _).setCell (HW.out.1.2.1.lt g2 rfl).1 _⟩
                    clear hv hrb hbj HW HG
                    go_wp2
                    go_roundw
                    case rel => exact ⟨q + 1, M - -1, by omega, by go_num, by have := HM.out; omega, HN⟩
                    case measure => have := HM.out; simp [intOf]; omega
              · obtain rfl : q = K := by omega
                have hM0 : M = 0 := by omega
                subst hM0
                have HF : Hid (wr.ownsRow w.heap.size 3 1 (.slice (some ⟨g1, 0, none⟩) i cu) i (intL (shV T i z) i) ∧ Below w.heap.size w wr) := by
                  refine ⟨?_, HW.out.2⟩
                  have := HW.out.1.1
                  unfold shV; rw [HLL.out, Hk2.out, hon.out]; exact this
                clear HW hM hq hqK k1
                go_wp2
                go_returns
                rw [shM_ok HOk.out]
                exact ⟨_, _, rfl, HF.out.1, HF.out.2⟩
end Go.Proofs.Ytjlniinahfgakaa
