/- Landed of the model. -/
import Derived.Test.YtdgccdlaokbnhaaNb
namespace Go.Proofs.Ytdgccdlaokbnhaa
open Go Go.ChangeShapes Go.WideShapes Go.ChangeAt Go.RowKit
set_option linter.unusedVariables false
set_option linter.unusedSimpArgs false


theorem IR.grown {w w9 : World} {sb so n : Nat} {z : Nat → Int} {row : Option Nat} (H : IR w (some ⟨sb, so, none⟩) n z) (hg : w.grownBy w9 row) (hne : ¬ some sb = row) : IR w9 (some ⟨sb, so, none⟩) n z := by
  rcases H with h | ⟨k, off, e, hk, hc⟩
  · exact .inl h
  · cases e
    refine .inr ⟨_, _, rfl, Nat.lt_of_lt_of_le hk hg.size, fun j hj => ?_⟩
    rw [World.cell?_of_block (w := w) (hg.block _ hk (fun e => hne e))]; exact hc j hj
set_option maxRecDepth 20000 in
set_option maxHeartbeats 8000000 in
theorem specLanded_any (ad : Option Addr) (n cap : Nat) (T b : Int) (c : Nat → LA2) (w : World) (h : (n : Int) ≤ 1048576) (hr : LAr w ad n c) :
    Calls Try.prog 26 #[.slice ad n cap, .int .i64 T, .int .i64 b] w (LdR n c T b w) := by
  have HR : Hid (LAr w ad n c) := hr
  clear hr
  unfold LdR
  have t1k : True := trivial
  have t2k : True := trivial
  cases q1 : inB (n : Int) 1 200
  · have hno : ¬ LdP n c T b := fun H => by
      have h1 := H.ar.1
      have h2 : n ≠ 0 := fun e => by subst e; have := H.sh.2.2.2; simp [Sh.sm] at this
      have := inB_f q1
      omega
    rw [ldM_no hno, ldB_f hno]
    have H1 : Hid (inB (n : Int) 1 200 = false) := hid q1
    have H2 : Hid (inB T 0 100000000000 = inB T 0 100000000000) := hid rfl
    have H3 : Hid (inB b 1 3 = inB b 1 3) := hid rfl
    clear hno
    try clear q1
    try clear q2
    try clear q3
    go_enter Try.func26, Try.ntmps26
    go_wp2_with (first
    | (go_at_call 60; clear t1k; refine (l1In_eq _ _ _ _ _ H1.out).mono ?_; rintro e w1 ⟨rfl, rfl⟩)
    | (go_at_call 60; clear t2k; refine (l1In_eq _ _ _ _ _ H2.out).mono ?_; rintro e w1 ⟨rfl, rfl⟩)
    | (go_at_call 60; refine (l1In_eq _ _ _ _ _ H3.out).mono ?_; rintro e w1 ⟨rfl, rfl⟩))
    go_returns
    exact ⟨_, _, rfl, .inl rfl, (Below.refl _ _).alloc (Nat.le_refl _) _⟩
  obtain ⟨n1, n2⟩ := inB_t q1
  cases q2 : inB T 0 100000000000
  · have hno : ¬ LdP n c T b := fun H => by have := H.ex; have := inB_f q2; omega
    rw [ldM_no hno, ldB_f hno]
    have H1 : Hid (inB (n : Int) 1 200 = true) := hid q1
    have H2 : Hid (inB T 0 100000000000 = false) := hid q2
    have H3 : Hid (inB b 1 3 = inB b 1 3) := hid rfl
    clear hno
    try clear q1
    try clear q2
    try clear q3
    go_enter Try.func26, Try.ntmps26
    go_wp2_with (first
    | (go_at_call 60; clear t1k; refine (l1In_eq _ _ _ _ _ H1.out).mono ?_; rintro e w1 ⟨rfl, rfl⟩)
    | (go_at_call 60; clear t2k; refine (l1In_eq _ _ _ _ _ H2.out).mono ?_; rintro e w1 ⟨rfl, rfl⟩)
    | (go_at_call 60; refine (l1In_eq _ _ _ _ _ H3.out).mono ?_; rintro e w1 ⟨rfl, rfl⟩))
    go_returns
    exact ⟨_, _, rfl, .inl rfl, (Below.refl _ _).alloc (Nat.le_refl _) _⟩
  obtain ⟨t0, t1⟩ := inB_t q2
  cases q3 : inB b 1 3
  · have hno : ¬ LdP n c T b := fun H => by have := H.bb; have := inB_f q3; omega
    rw [ldM_no hno, ldB_f hno]
    have H1 : Hid (inB (n : Int) 1 200 = true) := hid q1
    have H2 : Hid (inB T 0 100000000000 = true) := hid q2
    have H3 : Hid (inB b 1 3 = false) := hid q3
    clear hno
    try clear q1
    try clear q2
    try clear q3
    go_enter Try.func26, Try.ntmps26
    go_wp2_with (first
    | (go_at_call 60; clear t1k; refine (l1In_eq _ _ _ _ _ H1.out).mono ?_; rintro e w1 ⟨rfl, rfl⟩)
    | (go_at_call 60; clear t2k; refine (l1In_eq _ _ _ _ _ H2.out).mono ?_; rintro e w1 ⟨rfl, rfl⟩)
    | (go_at_call 60; refine (l1In_eq _ _ _ _ _ H3.out).mono ?_; rintro e w1 ⟨rfl, rfl⟩))
    go_returns
    exact ⟨_, _, rfl, .inl rfl, (Below.refl _ _).alloc (Nat.le_refl _) _⟩
  obtain ⟨b1, b3⟩ := inB_t q3
  have H1 : Hid (inB (n : Int) 1 200 = true) := q1
  have H2 : Hid (inB T 0 100000000000 = true) := q2
  have H3 : Hid (inB b 1 3 = true) := q3
  clear q1 q2 q3
  obtain ⟨M, hM⟩ : ∃ M, ldM n c T b = M := ⟨_, rfl⟩
  obtain ⟨BV, hBV⟩ : ∃ BV, ldB n c T b = BV := ⟨_, rfl⟩
  rw [hM, hBV]
  have HM : Hid (ldM n c T b = M ∧ ldB n c T b = BV) := ⟨hM, hBV⟩
  clear hM hBV
  obtain ⟨i0, hi, hz0, hz1, hz2⟩ := Sh.info3
  obtain ⟨i4, hi4, hz40, hz41, hz42⟩ := infoLA2
  go_enter Try.func26, Try.ntmps26
  go_wp2_with (first
    | (go_at_call 60; clear t1k; refine (l1In_eq _ _ _ _ _ H1.out).mono ?_; rintro e w1 ⟨rfl, rfl⟩)
    | (go_at_call 60; clear t2k; refine (l1In_eq _ _ _ _ _ H2.out).mono ?_; rintro e w1 ⟨rfl, rfl⟩)
    | (go_at_call 60; refine (l1In_eq _ _ _ _ _ H3.out).mono ?_; rintro e w1 ⟨rfl, rfl⟩))
  go_loopw [9, 10] (fun u i wr => ∃ (k : Nat) (adu : Option Addr) (cu : Nat), k ≤ n ∧ i = .int .i64 (k : Int) ∧ u = .slice adu k cu ∧ Hid (wr.ownsRow w.heap.size 3 1 (.slice adu k cu) k (Sh.intL (wtF b c) k)) ∧ Hid (∀ j, j < k → laB (c j) = true) ∧ Hid (Below w.heap.size w wr)) (fun u i _ => n - (intOf i).toNat)
  case atStart => exact ⟨0, _, _, Nat.zero_le _, rfl, rfl, madeI (CB.newAt (by simp) _ _) (by simp), fun j hj => by omega, ((Below.refl _ _).alloc (Nat.le_refl _) _).alloc (by simp) _⟩
  case round =>
    obtain ⟨k, adu, cu, hk, rfl, rfl, HW, HL, HB⟩ := hrel
    have hsz := HB.out.size
    by_cases hlt : k < n
    · have hlt2 : (k : Int) < (n : Int) := by omega
      obtain ⟨kb, of, rfl, hkb⟩ := HR.out.addr (by omega)
      obtain ⟨c0, c1⟩ := (HR.out.below HB.out).cell hlt
      obtain ⟨rr, hrr⟩ : ∃ r, c k = r := ⟨_, rfl⟩
      have HX : Hid (c k = rr) := hrr
      rw [hrr] at c0 c1
      obtain ⟨x, y⟩ := rr
      simp only at c0 c1
      clear hrr
      cases hg : laB ⟨x, y⟩
      · have hno : ¬ LdP n c T b := fun H => by have := H.ar.2 k hlt; rw [HX.out, hg] at this; cases this
        obtain rfl : M = 0 := by rw [← HM.out.1]; exact ldM_no hno
        obtain rfl : BV = false := by rw [← HM.out.2]; exact ldB_f hno
        have HG : Hid (laB ⟨x, y⟩ = false) := hg
        clear hg hno
        go_wp2_with (go_at_call 67; refine (l16Lay_eq ⟨x, y⟩ _ _ HG.out).mono ?_; rintro e w2 ⟨rfl, b2⟩; have HB2 : Hid (Below w.heap.size w w2) := hid (bel_on HB.out b2); have HW2 : Hid (w2.ownsRow w.heap.size 3 1 (.slice adu k cu) k (Sh.intL (wtF b c) k)) := hid (Sh.row_below HW.out b2); have p0 : w2.cell? ⟨kb, of + k * 2, none⟩ = some (.int .i64 x) := keep_cell b2 c0; have p1 : w2.cell? ⟨kb, of + k * 2 + 1, none⟩ = some (.int .i64 y) := keep_cell b2 c1; clear b2)
        go_returns
        exact ⟨_, _, rfl, .inl rfl, HB2.out⟩
      have HG : Hid (laB ⟨x, y⟩ = true) := hg
      have HN : Hid (∀ j, j < k + 1 → laB (c j) = true) := hid (fun j hj => by by_cases e : j = k; (subst e; rw [HX.out]; exact hg); (exact HL.out j (by omega)))
      clear hg
      rcases (show b = 1 ∨ b = 2 ∨ b = 3 by omega) with hb | hb | hb
      · have e1 : (b == 1) = true := by rw [hb]; rfl
        have e2 : (b == 2) = false := by rw [hb]; rfl
        have HZ : Hid (wtF b c k = y) := hid (by unfold wtF; rw [hb, HX.out]; rfl)
        clear hb
        go_wp2_with (first
          | (go_at_call 67; refine (l16Lay_eq ⟨x, y⟩ _ _ HG.out).mono ?_; rintro e w2 ⟨rfl, b2⟩; have HB2 : Hid (Below w.heap.size w w2) := hid (bel_on HB.out b2); have HW2 : Hid (w2.ownsRow w.heap.size 3 1 (.slice adu k cu) k (Sh.intL (wtF b c) k)) := hid (Sh.row_below HW.out b2); have p0 : w2.cell? ⟨kb, of + k * 2, none⟩ = some (.int .i64 x) := keep_cell b2 c0; have p1 : w2.cell? ⟨kb, of + k * 2 + 1, none⟩ = some (.int .i64 y) := keep_cell b2 c1; clear b2)
          | (at_builtin; go_loud (refine wpList_append_own_at _ rfl _ _ 27 rfl w.heap.size 3 i0 (.int .i64 0) 1 8 Try.underlying27 hi hz0 hz1 hz2 rfl (by decide) (.slice adu k cu) k (Sh.intL (wtF b c) k) rfl (Sh.row_below HW2.out ((Below.refl _ _).alloc (Nat.le_refl _) _)) ⟨_, 0, none⟩ 1 1 [.int .i64 y] rfl rfl (ecells (by first | rfl | simp)) (fun u hu => by simp at hu; subst hu; rfl) (by unfold maxLen; omega) (by omega) (by have := HB2.out.size; simp; omega) ?_); intro v9 w9 hown hgr _ hloc; obtain ⟨ad9, cu9, rfl⟩ := Sh.row_form hown; have HW9 : Hid (w9.ownsRow w.heap.size 3 1 (.slice ad9 (k + 1) cu9) (k + 1) (Sh.intL (wtF b c) (k + 1))) := hid (by rw [Sh.intL_succ, HZ.out]; exact hown); have HB9 : Hid (Below w.heap.size w w9) := hid (Below.grown (HB2.out.alloc HB2.out.size _) hgr (by have := HB2.out.size; simp; omega) (fun j hj => (HW2.out.lt _ hj).1)); clear hown hgr hloc))
        go_roundw
        case rel => exact ⟨k + 1, ad9, cu9, by omega, by go_num, rfl, HW9.out, HN.out, HB9.out⟩
        case measure => simp [intOf]; omega
      · have e1 : (b == 1) = false := by rw [hb]; rfl
        have e2 : (b == 2) = true := by rw [hb]; rfl
        have HZ : Hid (wtF b c k = x) := hid (by unfold wtF; rw [hb, HX.out]; rfl)
        clear hb
        go_wp2_with (first
          | (go_at_call 67; refine (l16Lay_eq ⟨x, y⟩ _ _ HG.out).mono ?_; rintro e w2 ⟨rfl, b2⟩; have HB2 : Hid (Below w.heap.size w w2) := hid (bel_on HB.out b2); have HW2 : Hid (w2.ownsRow w.heap.size 3 1 (.slice adu k cu) k (Sh.intL (wtF b c) k)) := hid (Sh.row_below HW.out b2); have p0 : w2.cell? ⟨kb, of + k * 2, none⟩ = some (.int .i64 x) := keep_cell b2 c0; have p1 : w2.cell? ⟨kb, of + k * 2 + 1, none⟩ = some (.int .i64 y) := keep_cell b2 c1; clear b2)
          | (at_builtin; go_loud (refine wpList_append_own_at _ rfl _ _ 27 rfl w.heap.size 3 i0 (.int .i64 0) 1 8 Try.underlying27 hi hz0 hz1 hz2 rfl (by decide) (.slice adu k cu) k (Sh.intL (wtF b c) k) rfl (Sh.row_below HW2.out ((Below.refl _ _).alloc (Nat.le_refl _) _)) ⟨_, 0, none⟩ 1 1 [.int .i64 x] rfl rfl (ecells (by first | rfl | simp)) (fun u hu => by simp at hu; subst hu; rfl) (by unfold maxLen; omega) (by omega) (by have := HB2.out.size; simp; omega) ?_); intro v9 w9 hown hgr _ hloc; obtain ⟨ad9, cu9, rfl⟩ := Sh.row_form hown; have HW9 : Hid (w9.ownsRow w.heap.size 3 1 (.slice ad9 (k + 1) cu9) (k + 1) (Sh.intL (wtF b c) (k + 1))) := hid (by rw [Sh.intL_succ, HZ.out]; exact hown); have HB9 : Hid (Below w.heap.size w w9) := hid (Below.grown (HB2.out.alloc HB2.out.size _) hgr (by have := HB2.out.size; simp; omega) (fun j hj => (HW2.out.lt _ hj).1)); clear hown hgr hloc))
        go_roundw
        case rel => exact ⟨k + 1, ad9, cu9, by omega, by go_num, rfl, HW9.out, HN.out, HB9.out⟩
        case measure => simp [intOf]; omega
      · have e1 : (b == 1) = false := by rw [hb]; rfl
        have e2 : (b == 2) = false := by rw [hb]; rfl
        have HZ : Hid (wtF b c k = 1) := hid (by unfold wtF; rw [hb, HX.out]; rfl)
        clear hb
        go_wp2_with (first
          | (go_at_call 67; refine (l16Lay_eq ⟨x, y⟩ _ _ HG.out).mono ?_; rintro e w2 ⟨rfl, b2⟩; have HB2 : Hid (Below w.heap.size w w2) := hid (bel_on HB.out b2); have HW2 : Hid (w2.ownsRow w.heap.size 3 1 (.slice adu k cu) k (Sh.intL (wtF b c) k)) := hid (Sh.row_below HW.out b2); have p0 : w2.cell? ⟨kb, of + k * 2, none⟩ = some (.int .i64 x) := keep_cell b2 c0; have p1 : w2.cell? ⟨kb, of + k * 2 + 1, none⟩ = some (.int .i64 y) := keep_cell b2 c1; clear b2)
          | (at_builtin; go_loud (refine wpList_append_own_at _ rfl _ _ 27 rfl w.heap.size 3 i0 (.int .i64 0) 1 8 Try.underlying27 hi hz0 hz1 hz2 rfl (by decide) (.slice adu k cu) k (Sh.intL (wtF b c) k) rfl (Sh.row_below HW2.out ((Below.refl _ _).alloc (Nat.le_refl _) _)) ⟨_, 0, none⟩ 1 1 [.int .i64 1] rfl rfl (ecells (by first | rfl | simp)) (fun u hu => by simp at hu; subst hu; rfl) (by unfold maxLen; omega) (by omega) (by have := HB2.out.size; simp; omega) ?_); intro v9 w9 hown hgr _ hloc; obtain ⟨ad9, cu9, rfl⟩ := Sh.row_form hown; have HW9 : Hid (w9.ownsRow w.heap.size 3 1 (.slice ad9 (k + 1) cu9) (k + 1) (Sh.intL (wtF b c) (k + 1))) := hid (by rw [Sh.intL_succ, HZ.out]; exact hown); have HB9 : Hid (Below w.heap.size w w9) := hid (Below.grown (HB2.out.alloc HB2.out.size _) hgr (by have := HB2.out.size; simp; omega) (fun j hj => (HW2.out.lt _ hj).1)); clear hown hgr hloc))
        go_roundw
        case rel => exact ⟨k + 1, ad9, cu9, by omega, by go_num, rfl, HW9.out, HN.out, HB9.out⟩
        case measure => simp [intOf]; omega
    · obtain rfl : k = n := by omega
      have lkk : ¬ (k : Int) < (k : Int) := by omega
      have HI3 : Hid (IR wr adu k (wtF b c)) := hid (own_IR HW.out (fun j hj => Sh.intL_get hj))
      by_cases hs : Sh.ShOk T k (wtF b c)
      case neg =>
        have hno : ¬ LdP k c T b := fun H => hs H.sh
        obtain rfl : M = 0 := by rw [← HM.out.1]; exact ldM_no hno
        obtain rfl : BV = false := by rw [← HM.out.2]; exact ldB_f hno
        have HSM : Hid (Sh.shM T k (wtF b c) = 0) := Sh.shM_no hs
        clear hno hs
        go_wp2_with (go_at_call 76; refine (Sh.specShares_any T adu k cu (wtF b c) _ (by omega) HI3.out).mono ?_; rintro e w4 ⟨ads, caps, he, o4, b4⟩; rw [HSM.out] at he o4; subst he; have HB4 : Hid (Below w.heap.size w w4) := hid (bel_on HB.out b4); clear o4 b4)
        go_returns
        exact ⟨_, _, rfl, .inl rfl, HB4.out⟩
      have HSM : Hid (Sh.shM T k (wtF b c) = k) := Sh.shM_ok hs
      have HBD : Hid (∀ j, j < k → 0 ≤ Sh.shV T k (wtF b c) j ∧ Sh.shV T k (wtF b c) j ≤ T) := hid (sh_bd hs t0)
      obtain ⟨V0, hV0⟩ : ∃ V0, Sh.shV T k (wtF b c) = V0 := ⟨_, rfl⟩
      have HV0 : Hid (Sh.shV T k (wtF b c) = V0) := hV0
      have HS : Hid (Sh.ShOk T k (wtF b c)) := hs
      have hne : ((k : Int) == 0) = false := by simp; omega
      clear hs hV0
      obtain ⟨n, hkn⟩ : ∃ n, n = k := ⟨_, rfl⟩
      subst hkn
      go_wp2_with (go_at_call 76; refine (Sh.specShares_any T adu n cu (wtF b c) _ (by omega) HI3.out).mono ?_; rintro e w4 ⟨ads, caps, he, o4, b4⟩; rw [HSM.out] at he o4; subst he; have HI4 : Hid (IR w4 ads n V0) := hid (own_IR o4 (fun j hj => by rw [← HV0.out]; exact Sh.intL_get hj)); obtain ⟨sb, so, rfl, hsb⟩ := HI4.out.addr (by omega); have HB4 : Hid (Below w.heap.size w w4) := hid (bel_on HB.out b4); clear o4 b4)
      go_loopw [13, 14] (fun u i wr => ∃ (k : Nat) (adu : Option Addr) (cu : Nat), k ≤ n ∧ i = .int .i64 (k : Int) ∧ u = .slice adu k cu ∧ Hid (wr.ownsRow w4.heap.size 40 2 (.slice adu k cu) k (rowLA2 (laF T n b c) k)) ∧ Hid (∀ j, j < k → (laF T n b c j).cost ≤ 100000000000) ∧ Hid (IR wr (some ⟨sb, so, none⟩) n V0) ∧ Hid (Below w4.heap.size w4 wr)) (fun u i _ => n - (intOf i).toNat)
      case atStart => exact ⟨0, _, _, Nat.zero_le _, rfl, rfl, madeLA2 (CB.new _ _) (Nat.le_refl _), fun j hj => by omega, HI4.out.alloc _, (Below.refl _ _).alloc (Nat.le_refl _) _⟩
      case round =>
        obtain ⟨k, ado, cuo, hk, rfl, rfl, HW5, HCO, HI5, HB5⟩ := hrel
        have hsz5 := HB5.out.size
        have HBW : Hid (Below w.heap.size w wr) := hid (bel_on HB4.out HB5.out)
        by_cases hlt : k < n
        · have hlt2 : (k : Int) < (n : Int) := by omega
          obtain ⟨kb, of, rfl, hkb⟩ := HR.out.addr (by omega)
          obtain ⟨c0, c1⟩ := (HR.out.below HBW.out).cell hlt
          have sv := HI5.out.cell hlt
          obtain ⟨rr, hrr⟩ : ∃ r, c k = r := ⟨_, rfl⟩
          have HX : Hid (c k = rr) := hrr
          obtain ⟨⟨g1, g2⟩, g3, g4⟩ := laB_p (HL.out k hlt)
          rw [hrr] at c0 c1 g1 g2 g3 g4
          obtain ⟨x, y⟩ := rr
          simp only at c0 c1 g1 g2 g3 g4
          clear hrr
          obtain ⟨v1, v2⟩ := HBD.out k hlt
          rw [HV0.out] at v1 v2
          obtain ⟨V, hV⟩ : ∃ V, V0 k = V := ⟨_, rfl⟩
          rw [hV] at v1 v2 sv
          have HF : Hid (laF T n b c k = ⟨x, y + V⟩) := hid (by unfold laF; rw [HV0.out, HX.out, hV])
          clear hV
          have hwp : IntKind.i64.wrap (y + V) = y + V := IntWalk.i64_in _ ⟨by omega, by omega⟩
          go_wp2
          refine wp_region_noPanic ?_
          refine wp_region_held_drew (S := fun w' => (w'.cell? ⟨kb, of + k * 2, none⟩ = some (.int .i64 x)) ∧ (w'.cell? ⟨kb, of + k * 2 + 1, none⟩ = some (.int .i64 y)) ∧ (w'.cell? ⟨sb, so + k, none⟩ = some (.int .i64 V))) (by kernel_rfl) (by exact ⟨c0, c1, sv⟩) (fun hHeld => ?_)
          refine wpAnyH_take (i := 0) (oi := { dst := some 79, op := Go.Op.move (Go.Operand.tmp 0), type := 24, pos := "l16_cost.go:166", after := #[], guard := none }) (v := ?_) rfl (by kernel_rfl) (by kernel_rfl) (by kernel_rfl) (fun _ _ _ h => h) (Or.inl ⟨by rfl, ?_⟩) (by assumption) ?_
          rotate_left
          · (intro w hSw; (try dsimp only at hSw); go_simp <;> try with_reducible rfl)
          try simp only [Act.put, List.setIfInBounds_toArray, List.set_cons_zero, List.set_cons_succ]
          refine wpAnyH_take (i := 1) (oi := { dst := some 80, op := Go.Op.move (Go.Operand.tmp 14), type := 3, pos := "l16_cost.go:166", after := #[], guard := none }) (v := ?_) rfl (by kernel_rfl) (by kernel_rfl) (by kernel_rfl) (fun _ _ _ h => h) (Or.inl ⟨by rfl, ?_⟩) (by assumption) ?_
          rotate_left
          · (intro w hSw; (try dsimp only at hSw); go_simp <;> try with_reducible rfl)
          try simp only [Act.put, List.setIfInBounds_toArray, List.set_cons_zero, List.set_cons_succ]
          refine wpAnyH_take (i := 2) (oi := { dst := some 81, op := Go.Op.indexAddr 24 (Go.Operand.tmp 79) (Go.Operand.tmp 80), type := 0, pos := "l16_cost.go:166", after := #[{ on := 0, ground := Go.Ground.data }, { on := 1, ground := Go.Ground.data }], guard := none }) (v := ?_) rfl (by kernel_rfl) (by kernel_rfl) (by kernel_rfl) (fun _ _ _ h => h) (Or.inl ⟨by rfl, ?_⟩) (by assumption) ?_
          rotate_left
          · (intro w hSw; (try dsimp only at hSw); go_simp <;> try with_reducible rfl)
          try simp only [Act.put, List.setIfInBounds_toArray, List.set_cons_zero, List.set_cons_succ]
          refine wpAnyH_take (i := 3) (oi := { dst := some 82, op := Go.Op.fieldAddr 40 (Go.Operand.tmp 81) 0, type := 0, pos := "l16_cost.go:166", after := #[{ on := 2, ground := Go.Ground.data }], guard := none }) (v := ?_) rfl (by kernel_rfl) (by kernel_rfl) (by kernel_rfl) (fun _ _ _ h => h) (Or.inl ⟨by rfl, ?_⟩) (by assumption) ?_
          rotate_left
          · (intro w hSw; (try dsimp only at hSw); go_simp <;> try with_reducible rfl)
          try simp only [Act.put, List.setIfInBounds_toArray, List.set_cons_zero, List.set_cons_succ]
          refine wpAnyH_take (i := 4) (oi := { dst := some 83, op := Go.Op.load 3 (Go.Operand.tmp 82), type := 3, pos := "l16_cost.go:166", after := #[{ on := 3, ground := Go.Ground.data }], guard := none }) (v := ?_) rfl (by kernel_rfl) (by kernel_rfl) (by kernel_rfl) (fun _ _ _ h => h) (Or.inl ⟨by rfl, ?_⟩) (by assumption) ?_
          rotate_left
          · (intro w hSw; (try dsimp only at hSw); go_simp <;> try with_reducible rfl)
          try simp only [Act.put, List.setIfInBounds_toArray, List.set_cons_zero, List.set_cons_succ]
          refine wpAnyH_take (i := 5) (oi := { dst := some 84, op := Go.Op.move (Go.Operand.tmp 0), type := 24, pos := "l16_cost.go:166", after := #[], guard := none }) (v := ?_) rfl (by kernel_rfl) (by kernel_rfl) (by kernel_rfl) (fun _ _ _ h => h) (Or.inl ⟨by rfl, ?_⟩) (by assumption) ?_
          rotate_left
          · (intro w hSw; (try dsimp only at hSw); go_simp <;> try with_reducible rfl)
          try simp only [Act.put, List.setIfInBounds_toArray, List.set_cons_zero, List.set_cons_succ]
          refine wpAnyH_take (i := 6) (oi := { dst := some 85, op := Go.Op.move (Go.Operand.tmp 14), type := 3, pos := "l16_cost.go:166", after := #[], guard := none }) (v := ?_) rfl (by kernel_rfl) (by kernel_rfl) (by kernel_rfl) (fun _ _ _ h => h) (Or.inl ⟨by rfl, ?_⟩) (by assumption) ?_
          rotate_left
          · (intro w hSw; (try dsimp only at hSw); go_simp <;> try with_reducible rfl)
          try simp only [Act.put, List.setIfInBounds_toArray, List.set_cons_zero, List.set_cons_succ]
          refine wpAnyH_take (i := 7) (oi := { dst := some 86, op := Go.Op.indexAddr 24 (Go.Operand.tmp 84) (Go.Operand.tmp 85), type := 0, pos := "l16_cost.go:166", after := #[{ on := 5, ground := Go.Ground.data }, { on := 6, ground := Go.Ground.data }], guard := none }) (v := ?_) rfl (by kernel_rfl) (by kernel_rfl) (by kernel_rfl) (fun _ _ _ h => h) (Or.inl ⟨by rfl, ?_⟩) (by assumption) ?_
          rotate_left
          · (intro w hSw; (try dsimp only at hSw); go_simp <;> try with_reducible rfl)
          try simp only [Act.put, List.setIfInBounds_toArray, List.set_cons_zero, List.set_cons_succ]
          refine wpAnyH_take (i := 8) (oi := { dst := some 87, op := Go.Op.fieldAddr 40 (Go.Operand.tmp 86) 1, type := 0, pos := "l16_cost.go:166", after := #[{ on := 7, ground := Go.Ground.data }], guard := none }) (v := ?_) rfl (by kernel_rfl) (by kernel_rfl) (by kernel_rfl) (fun _ _ _ h => h) (Or.inl ⟨by rfl, ?_⟩) (by assumption) ?_
          rotate_left
          · (intro w hSw; (try dsimp only at hSw); go_simp <;> try with_reducible rfl)
          try simp only [Act.put, List.setIfInBounds_toArray, List.set_cons_zero, List.set_cons_succ]
          refine wpAnyH_take (i := 9) (oi := { dst := some 88, op := Go.Op.load 3 (Go.Operand.tmp 87), type := 3, pos := "l16_cost.go:166", after := #[{ on := 8, ground := Go.Ground.data }], guard := none }) (v := ?_) rfl (by kernel_rfl) (by kernel_rfl) (by kernel_rfl) (fun _ _ _ h => h) (Or.inl ⟨by rfl, ?_⟩) (by assumption) ?_
          rotate_left
          · (intro w hSw; (try dsimp only at hSw); go_simp <;> try with_reducible rfl)
          try simp only [Act.put, List.setIfInBounds_toArray, List.set_cons_zero, List.set_cons_succ]
          refine wpAnyH_take (i := 10) (oi := { dst := some 89, op := Go.Op.move (Go.Operand.tmp 12), type := 27, pos := "l16_cost.go:166", after := #[], guard := none }) (v := ?_) rfl (by kernel_rfl) (by kernel_rfl) (by kernel_rfl) (fun _ _ _ h => h) (Or.inl ⟨by rfl, ?_⟩) (by assumption) ?_
          rotate_left
          · (intro w hSw; (try dsimp only at hSw); go_simp <;> try with_reducible rfl)
          try simp only [Act.put, List.setIfInBounds_toArray, List.set_cons_zero, List.set_cons_succ]
          refine wpAnyH_take (i := 11) (oi := { dst := some 90, op := Go.Op.move (Go.Operand.tmp 14), type := 3, pos := "l16_cost.go:166", after := #[], guard := none }) (v := ?_) rfl (by kernel_rfl) (by kernel_rfl) (by kernel_rfl) (fun _ _ _ h => h) (Or.inl ⟨by rfl, ?_⟩) (by assumption) ?_
          rotate_left
          · (intro w hSw; (try dsimp only at hSw); go_simp <;> try with_reducible rfl)
          try simp only [Act.put, List.setIfInBounds_toArray, List.set_cons_zero, List.set_cons_succ]
          refine wpAnyH_take (i := 12) (oi := { dst := some 91, op := Go.Op.indexAddr 27 (Go.Operand.tmp 89) (Go.Operand.tmp 90), type := 0, pos := "l16_cost.go:166", after := #[{ on := 10, ground := Go.Ground.data }, { on := 11, ground := Go.Ground.data }], guard := none }) (v := ?_) rfl (by kernel_rfl) (by kernel_rfl) (by kernel_rfl) (fun _ _ _ h => h) (Or.inl ⟨by rfl, ?_⟩) (by assumption) ?_
          rotate_left
          · (intro w hSw; (try dsimp only at hSw); go_simp <;> try with_reducible rfl)
          try simp only [Act.put, List.setIfInBounds_toArray, List.set_cons_zero, List.set_cons_succ]
          refine wpAnyH_take (i := 13) (oi := { dst := some 92, op := Go.Op.load 3 (Go.Operand.tmp 91), type := 3, pos := "l16_cost.go:166", after := #[{ on := 12, ground := Go.Ground.data }], guard := none }) (v := ?_) rfl (by kernel_rfl) (by kernel_rfl) (by kernel_rfl) (fun _ _ _ h => h) (Or.inl ⟨by rfl, ?_⟩) (by assumption) ?_
          rotate_left
          · (intro w hSw; (try dsimp only at hSw); go_simp <;> try with_reducible rfl)
          try simp only [Act.put, List.setIfInBounds_toArray, List.set_cons_zero, List.set_cons_succ]
          refine wpAnyH_take (i := 14) (oi := { dst := some 93, op := Go.Op.binOp Go.BinOp.add 3 (Go.Operand.tmp 88) (Go.Operand.tmp 92) 3, type := 3, pos := "l16_cost.go:166", after := #[{ on := 9, ground := Go.Ground.data }, { on := 13, ground := Go.Ground.data }], guard := none }) (v := ?_) rfl (by kernel_rfl) (by kernel_rfl) (by kernel_rfl) (fun _ _ _ h => h) (Or.inl ⟨by rfl, ?_⟩) (by assumption) ?_
          rotate_left
          · (intro w hSw; (try dsimp only at hSw); go_simp <;> try with_reducible rfl)
          try simp only [Act.put, List.setIfInBounds_toArray, List.set_cons_zero, List.set_cons_succ]
          refine wpAnyH_take (i := 15) (oi := { dst := some 94, op := Go.Op.build 40 #[(0, Go.Operand.tmp 83), (1, Go.Operand.tmp 93)], type := 40, pos := "l16_cost.go:166", after := #[{ on := 4, ground := Go.Ground.data }, { on := 14, ground := Go.Ground.data }], guard := none }) (v := ?_) rfl (by kernel_rfl) (by kernel_rfl) (by kernel_rfl) (fun _ _ _ h => h) (Or.inl ⟨by rfl, ?_⟩) (by assumption) ?_
          rotate_left
          · (intro w hSw; (try dsimp only at hSw); go_simp <;> try with_reducible rfl)
          try simp only [Act.put, List.setIfInBounds_toArray, List.set_cons_zero, List.set_cons_succ]
          refine wpAnyH_ready (rs := [16]) (by kernel_rfl) (by simp) ?_
          refine AllReadyH.cons (o := { dst := some 15, op := Go.Op.alloc 40, type := 0, pos := "l16_cost.go:166", after := #[], guard := none }) rfl (fun K hK => ?_) (AllReadyH.nil)
          go_simp
          have Q1 : ((wr.drew.alloc (.cells #[.int .i64 0, .int .i64 0] 40 (0, 0))).cell? ⟨kb, of + k * 2, none⟩ = some (.int .i64 x)) ∧ ((wr.drew.alloc (.cells #[.int .i64 0, .int .i64 0] 40 (0, 0))).cell? ⟨kb, of + k * 2 + 1, none⟩ = some (.int .i64 y)) ∧ ((wr.drew.alloc (.cells #[.int .i64 0, .int .i64 0] 40 (0, 0))).cell? ⟨sb, so + k, none⟩ = some (.int .i64 V)) := ⟨keep_cell ((Below.refl _ _).alloc (Nat.le_refl _) _) hHeld.1, keep_cell ((Below.refl _ _).alloc (Nat.le_refl _) _) hHeld.2.1, keep_cell ((Below.refl _ _).alloc (Nat.le_refl _) _) hHeld.2.2⟩
          first | refine hK.out _ _ (by exact Q1) (fun hHeld => ?_) | (go_wp2_with fail; refine hK.out _ _ (by exact Q1) (fun hHeld => ?_))
          clear hK K
          try simp only [Act.put, List.setIfInBounds_toArray, List.set_cons_zero, List.set_cons_succ]
          refine wpAnyH_ready (rs := [17]) (by kernel_rfl) (by simp) ?_
          refine AllReadyH.cons (o := { dst := none, op := Go.Op.store 40 (Go.Operand.tmp 15) (Go.Operand.tmp 94), type := 0, pos := "l16_cost.go:166", after := #[{ on := 16, ground := Go.Ground.data }, { on := 15, ground := Go.Ground.data }, { on := 0, ground := Go.Ground.phase }, { on := 1, ground := Go.Ground.phase }, { on := 2, ground := Go.Ground.phase }, { on := 3, ground := Go.Ground.phase }, { on := 4, ground := Go.Ground.phase }, { on := 5, ground := Go.Ground.phase }, { on := 6, ground := Go.Ground.phase }, { on := 7, ground := Go.Ground.phase }, { on := 8, ground := Go.Ground.phase }, { on := 9, ground := Go.Ground.phase }, { on := 10, ground := Go.Ground.phase }, { on := 11, ground := Go.Ground.phase }, { on := 12, ground := Go.Ground.phase }, { on := 13, ground := Go.Ground.phase }, { on := 14, ground := Go.Ground.phase }, { on := 15, ground := Go.Ground.phase }, { on := 16, ground := Go.Ground.phase }], guard := none }) rfl (fun K hK => ?_) (AllReadyH.nil)
          go_simp
          have Q2 : ((wr.alloc (.cells #[.int .i64 x, .int .i64 (y + V)] 40 (0, 0))).cell? ⟨kb, of + k * 2, none⟩ = some (.int .i64 x)) ∧ ((wr.alloc (.cells #[.int .i64 x, .int .i64 (y + V)] 40 (0, 0))).cell? ⟨kb, of + k * 2 + 1, none⟩ = some (.int .i64 y)) ∧ ((wr.alloc (.cells #[.int .i64 x, .int .i64 (y + V)] 40 (0, 0))).cell? ⟨sb, so + k, none⟩ = some (.int .i64 V)) := ⟨keep_cell ((Below.refl _ _).alloc (Nat.le_refl _) _) c0, keep_cell ((Below.refl _ _).alloc (Nat.le_refl _) _) c1, keep_cell ((Below.refl _ _).alloc (Nat.le_refl _) _) sv⟩
          first | refine hK.out _ _ (by exact Q2) (fun hHeld => ?_) | (go_wp2_with fail; refine hK.out _ _ (by exact Q2) (fun hHeld => ?_))
          clear hK K
          try simp only [Act.put, List.setIfInBounds_toArray, List.set_cons_zero, List.set_cons_succ]
          refine wpAnyH_done (by kernel_rfl) ?_ _
          refine NoPanic.normal ?_
          clear hHeld Q1 Q2
          have HC7 : Hid (CB (wr.alloc (.cells #[.int .i64 x, .int .i64 (y + V)] 40 (0, 0))).drew wr.heap.size #[.int .i64 x, .int .i64 (y + V)] 40) := hid (CB.new _ _)
          have HW7 : Hid ((wr.alloc (.cells #[.int .i64 x, .int .i64 (y + V)] 40 (0, 0))).drew.ownsRow w4.heap.size 40 2 (.slice ado k cuo) k (rowLA2 (laF T n b c) k)) := hid (Sh.row_below HW5.out (((Below.refl _ _).alloc (Nat.le_refl _) _).drew))
          have HI7 : Hid (IR (wr.alloc (.cells #[.int .i64 x, .int .i64 (y + V)] 40 (0, 0))).drew (some ⟨sb, so, none⟩) n V0) := hid (HI5.out.alloc _)
          have HB7 : Hid (Below w4.heap.size w4 (wr.alloc (.cells #[.int .i64 x, .int .i64 (y + V)] 40 (0, 0))).drew) := hid ((HB5.out.alloc HB5.out.size _).drew)
          obtain ⟨nb, hnb⟩ : ∃ nb, wr.heap.size = nb := ⟨_, rfl⟩
          rw [hnb] at HC7 ⊢
          clear hnb c0 c1 sv
          generalize (wr.alloc (.cells #[.int .i64 x, .int .i64 (y + V)] 40 (0, 0))).drew = w7 at HC7 HW7 HI7 HB7 ⊢
          have y0 : w7.cell? ⟨nb, 0, none⟩ = some (.int .i64 x) := HC7.out.cell 0
          have y1 : w7.cell? ⟨nb, 1, none⟩ = some (.int .i64 (y + V)) := HC7.out.cell 1
          cases hg : laB ⟨x, y + V⟩
          · have hno : ¬ LdP n c T b := fun H => by
              have := H.co k hlt
              rw [HF.out] at this
              simp only at this
              have hb2 : laB ⟨x, y + V⟩ = true := by unfold laB; rw [inB_y g1 g2, inB_y (by omega) this]; rfl
              rw [hb2] at hg; cases hg
            obtain rfl : M = 0 := by rw [← HM.out.1]; exact ldM_no hno
            obtain rfl : BV = false := by rw [← HM.out.2]; exact ldB_f hno
            have HG : Hid (laB ⟨x, y + V⟩ = false) := hg
            clear hg hno
            go_wp2_with (go_at_call 67; refine (l16Lay_eq ⟨x, y + V⟩ _ _ HG.out).mono ?_; rintro e w8 ⟨rfl, b8⟩; have HB8 : Hid (Below w.heap.size w w8) := hid (bel_on (bel_on HB4.out HB7.out) b8); clear b8)
            go_returns
            exact ⟨_, _, rfl, .inl rfl, HB8.out⟩
          have HG : Hid (laB ⟨x, y + V⟩ = true) := hg
          have HCO2 : Hid (∀ j, j < k + 1 → (laF T n b c j).cost ≤ 100000000000) := hid (fun j hj => by by_cases e : j = k; (subst e; rw [HF.out]; exact (laB_p hg).2.2); (exact HCO.out j (by omega)))
          clear hg
          go_wp2_with (first
            | (go_at_call 67; refine (l16Lay_eq ⟨x, y + V⟩ _ _ HG.out).mono ?_; rintro e w8 ⟨rfl, b8⟩; have HB8 := hid (bel_on HB7.out b8); have HW8 := hid (Sh.row_below HW7.out b8); have HI8 := hid (HI7.out.below b8); have z0 : w8.cell? ⟨nb, 0, none⟩ = some (.int .i64 x) := keep_cell b8 y0; have z1 : w8.cell? ⟨nb, 1, none⟩ = some (.int .i64 (y + V)) := keep_cell b8 y1; clear b8)
            | (at_builtin; go_loud (refine wpList_append_own_at _ rfl _ _ 24 rfl w4.heap.size 40 i4 (.agg #[.int .i64 0, .int .i64 0]) 2 16 Try.underlying24 hi4 hz40 hz41 hz42 rfl (by decide) (.slice ado k cuo) k (rowLA2 (laF T n b c) k) rfl (Sh.row_below HW8.out ((Below.refl _ _).alloc (Nat.le_refl _) _)) ⟨_, 0, none⟩ 1 1 [.int .i64 x, .int .i64 (y + V)] rfl rfl (ecells (by first | rfl | simp)) (fun u hu => by simp at hu; rcases hu with rfl | rfl <;> rfl) (by unfold maxLen; omega) (by omega) (by have := HB8.out.size; simp; omega) ?_); intro v9 w9 hown hgr _ hloc; obtain ⟨ad9, cu9, rfl⟩ := Sh.row_form hown; have HW9 : Hid (w9.ownsRow w4.heap.size 40 2 (.slice ad9 (k + 1) cu9) (k + 1) (rowLA2 (laF T n b c) (k + 1))) := hid (by simp only [rowLA2]; rw [HF.out]; exact hown); have HB9 : Hid (Below w4.heap.size w4 w9) := hid (Below.grown (HB8.out.alloc HB8.out.size _) hgr (by have := HB8.out.size; simp; omega) (fun j hj => (HW8.out.lt _ hj).1)); have HI9 : Hid (IR w9 (some ⟨sb, so, none⟩) n V0) := hid ((HI8.out.alloc _).grown hgr (fun e => by have := (HW8.out.lt sb e.symm).1; omega)); clear hown hgr hloc))
          go_roundw
          case rel => exact ⟨k + 1, ad9, cu9, by omega, by go_num, rfl, HW9.out, HCO2.out, HI9.out, HB9.out⟩
          case measure => simp [intOf]; omega
        · obtain rfl : k = n := by omega
          have lkk : ¬ (k : Int) < (k : Int) := by omega
          have hok : LdP k c T b := ⟨⟨by omega, HL.out⟩, ⟨t0, t1⟩, ⟨b1, b3⟩, HS.out, HCO.out⟩
          have hMk : k = M := by rw [← HM.out.1]; exact (ldM_ok hok).symm
          obtain rfl : BV = true := by rw [← HM.out.2]; exact ldB_t hok
          have HFIN : Hid (OwnLA2 wr w.heap.size ado k (laF T k b c)) := hid (by
            obtain ⟨a5, c5, e5, _, o5⟩ := ownLA2_of HW5.out
            cases e5
            exact o5.mono HB4.out.size)
          clear hok
          subst hMk
          go_wp2
          go_returns
          first | exact ⟨_, _, rfl, HFIN.out, HBW.out⟩ | exact ⟨_, ⟨_, rfl⟩, HFIN.out, HBW.out⟩ | exact ⟨ado, cuo, HFIN.out, HBW.out⟩
end Go.Proofs.Ytdgccdlaokbnhaa
