/- The program's Shares. -/
import Derived.Test.YtjlniinahfgakaaSv
namespace Go.Proofs.Ytjlniinahfgakaa
open Go.ChangeShapes Go.WideShapes Go.ChangeAt Go.RowKit
set_option linter.unusedVariables false
set_option linter.unusedSimpArgs false

def inB (x lo hi : Int) : Bool := decide (lo ≤ x ∧ x ≤ hi)
theorem inB_t {x lo hi : Int} (h1 : lo ≤ x) (h2 : x ≤ hi) : inB x lo hi = true := decide_eq_true ⟨h1, h2⟩
theorem inB_f {x lo hi : Int} (h : ¬ (lo ≤ x ∧ x ≤ hi)) : inB x lo hi = false := decide_eq_false h
theorem inB_iff {x lo hi : Int} : inB x lo hi = true ↔ lo ≤ x ∧ x ≤ hi := by unfold inB; simp
theorem isAmount_any (x : Int) (w : World) : Calls Try.prog 47 #[.int .i64 x] w fun e w' => e = .returned (.bool (inB x (-100000000000) 100000000000)) ∧ w' = w := by
  go_enter Try.func47, Try.ntmps47
  go_wp2
  all_goals go_returns
  all_goals exact ⟨ret_bool (by unfold inB; rw [Bool.eq_iff_iff]; simp; try omega), rfl⟩
theorem isFactor_any (x : Int) (w : World) : Calls Try.prog 72 #[.int .i64 x] w fun e w' => e = .returned (.bool (inB x 0 10000000)) ∧ w' = w := by
  go_enter Try.func72, Try.ntmps72
  go_wp2
  all_goals go_returns
  all_goals exact ⟨ret_bool (by unfold inB; rw [Bool.eq_iff_iff]; simp; try omega), rfl⟩
theorem isAmount_eq {x : Int} {v : Bool} (w : World) (h : inB x (-100000000000) 100000000000 = v) : Calls Try.prog 47 #[.int .i64 x] w fun e w' => e = .returned (.bool v) ∧ w' = w := h ▸ isAmount_any x w
theorem isFactor_eq {x : Int} {v : Bool} (w : World) (h : inB x 0 10000000 = v) : Calls Try.prog 72 #[.int .i64 x] w fun e w' => e = .returned (.bool v) ∧ w' = w := h ▸ isFactor_any x w

/-- All sums on the way stay small. -/
def SmB (z : Nat → Int) (N : Nat) : Prop := ∀ k, k ≤ N → -1000000000000000 ≤ sm z k ∧ sm z k ≤ 1000000000000000

set_option maxRecDepth 20000 in
set_option maxHeartbeats 1000000 in
theorem sum_any (ad : Option Addr) (N cap : Nat) (z : Nat → Int) (w : World) (h : (N : Int) ≤ 1048576) (hr : IR w ad N z) (hb : SmB z N) :
    Calls Try.prog 49 #[.slice ad N cap] w fun e w' => e = .returned (.int .i64 (sm z N)) ∧ w' = w := by
  have HR : Hid (IR w ad N z) := hr
  have HB : Hid (SmB z N) := hb
  clear hr hb
  go_enter Try.func49, Try.ntmps49
  go_wp2
  go_loop [3, 8] (fun u v => ∃ (k : Nat) (s : Int), k ≤ N ∧ v = .int .i64 (k : Int) ∧ u = .int .i64 s ∧ Hid (s = sm z k)) (fun u v => N - (intOf v).toNat)
  case atStart => exact ⟨0, 0, Nat.zero_le _, rfl, rfl, rfl⟩
  case round =>
    obtain ⟨k, s, hk, rfl, rfl, hs⟩ := hrel
    by_cases hlt : k < N
    · obtain ⟨kb, off, rfl, _⟩ := HR.out.addr (by omega)
      have c1 := HR.out.cell hlt
      have hlt2 : (k : Int) < (N : Int) := by omega
      obtain ⟨y, hy⟩ : ∃ y, z k = y := ⟨_, rfl⟩
      rw [hy] at c1
      have b1 := HB.out k (by omega)
      have b2 := HB.out (k + 1) (by omega)
      rw [sm_succ, hy, ← hs.out] at b2
      rw [← hs.out] at b1
      have HS : Hid (s + y = sm z (k + 1)) := by show _ = _; rw [sm_succ, hy, hs.out]
      clear hy hs
      obtain ⟨b3, b4⟩ := b1
      obtain ⟨b5, b6⟩ := b2
      go_wp2
      go_round
      case rel => exact ⟨k + 1, s + y, by omega, by go_num, by go_num, HS⟩
      case measure => simp [intOf]; omega
    · obtain rfl : k = N := by omega
      go_wp2
      go_returns
      exact ⟨ret_int hs.out, rfl⟩

/-- Weights that Shares takes. -/
def WOk (N : Nat) (z : Nat → Int) : Prop := N ≤ 200 ∧ (∀ j, j < N → 0 ≤ z j ∧ z j ≤ 10000000) ∧ 0 < sm z N
open Classical in
noncomputable def wOkB (N : Nat) (z : Nat → Int) : Bool := decide (WOk N z)
open Classical in
theorem wOkB_t {N : Nat} {z : Nat → Int} (h : WOk N z) : wOkB N z = true := decide_eq_true h
open Classical in
theorem wOkB_f {N : Nat} {z : Nat → Int} (h : ¬ WOk N z) : wOkB N z = false := decide_eq_false h
theorem fac_sum {N k : Nat} {z : Nat → Int} (h1 : N ≤ 200) (h : ∀ j, j < N → 0 ≤ z j ∧ z j ≤ 10000000) (hk : k ≤ N) : 0 ≤ sm z k ∧ sm z k ≤ 2000000000 := by
  have := sm_le (a := z) (M := 10000000) (n := k) (fun j hj => h j (by omega))
  omega
theorem fac_SmB {N : Nat} {z : Nat → Int} (h1 : N ≤ 200) (h : ∀ j, j < N → 0 ≤ z j ∧ z j ≤ 10000000) : SmB z N := fun k hk => by have := fac_sum h1 h hk; omega

set_option maxRecDepth 20000 in
set_option maxHeartbeats 1000000 in
theorem weightsOk_any (ad : Option Addr) (N cap : Nat) (z : Nat → Int) (w : World) (h : (N : Int) ≤ 1048576) (hr : IR w ad N z) :
    Calls Try.prog 48 #[.slice ad N cap] w fun e w' => e = .returned (.bool (wOkB N z)) ∧ w' = w := by
  have HR : Hid (IR w ad N z) := hr
  clear hr
  by_cases hn : N ≤ 200
  case neg =>
    have HF : Hid (wOkB N z = false) := wOkB_f (fun q => hn q.1)
    have l1 : (N : Int) > 200 := by omega
    go_enter Try.func48, Try.ntmps48
    go_wp2
    go_returns
    exact ⟨ret_bool HF.out.symm, rfl⟩
  have l1 : ¬ (N : Int) > 200 := by omega
  have l1b : (N : Int) ≤ 200 := by omega
  go_enter Try.func48, Try.ntmps48
  go_wp2
  go_loop [10] (fun v => ∃ (k : Nat), k ≤ N ∧ v = .int .i64 (k : Int) ∧ Hid (∀ j, j < k → 0 ≤ z j ∧ z j ≤ 10000000)) (fun v => N - (intOf v).toNat)
  case atStart => exact ⟨0, Nat.zero_le _, rfl, fun j hj => by omega⟩
  case round =>
    obtain ⟨k, hk, rfl, hs⟩ := hrel
    by_cases hlt : k < N
    · obtain ⟨kb, off, rfl, _⟩ := HR.out.addr (by omega)
      have c1 := HR.out.cell hlt
      have hlt2 : (k : Int) < (N : Int) := by omega
      obtain ⟨y, hy⟩ : ∃ y, z k = y := ⟨_, rfl⟩
      rw [hy] at c1
      have HY : Hid (z k = y) := hy
      clear hy
      by_cases hf : 0 ≤ y ∧ y ≤ 10000000
      · have hb := inB_t hf.1 hf.2
        have HS : Hid (∀ j, j < k + 1 → 0 ≤ z j ∧ z j ≤ 10000000) := fun j hj => by
          by_cases e : j = k
          · rw [e, HY.out]; exact hf
          · exact hs.out j (by omega)
        clear hf
        go_wp2_with (go_at_call 72; refine (isFactor_eq _ hb).mono ?_; rintro e w' ⟨rfl, ew⟩; replace ew := ew.symm; subst ew)
        go_round
        case rel => exact ⟨k + 1, by omega, by go_num, HS⟩
        case measure => simp [intOf]; omega
      · have hb := inB_f hf
        have HF : Hid (wOkB N z = false) := wOkB_f (fun q => hf (HY.out ▸ q.2.1 k hlt))
        clear hf
        go_wp2_with (go_at_call 72; refine (isFactor_eq _ hb).mono ?_; rintro e w' ⟨rfl, ew⟩; replace ew := ew.symm; subst ew)
        go_returns
        exact ⟨ret_bool HF.out.symm, rfl⟩
    · obtain rfl : k = N := by omega
      have HSB : Hid (SmB z k) := fac_SmB hn hs.out
      obtain ⟨S, hS⟩ : ∃ S, sm z k = S := ⟨_, rfl⟩
      have HF : Hid (wOkB k z = decide (0 < S)) := by
        show _ = _
        by_cases q : 0 < S
        · rw [decide_eq_true q]; exact wOkB_t ⟨hn, hs.out, by rw [hS]; exact q⟩
        · rw [decide_eq_false q]; exact wOkB_f (fun r => q (by rw [← hS]; exact r.2.2))
      have HC : Hid (Calls Try.prog 49 #[.slice ad k cap] w fun e w' => e = .returned (.int .i64 S) ∧ w' = w) := by
        have := sum_any ad k cap z w h HR.out HSB.out
        rw [hS] at this; exact this
      clear hS hs
      go_wp2_with (go_at_call 49; refine HC.out.mono ?_; rintro e w' ⟨rfl, ew⟩; replace ew := ew.symm; subst ew)
      go_returns
      exact ⟨ret_bool HF.out.symm, rfl⟩

theorem cutOf_any (p q : Int) (w : World) (h0 : -1000000000000000000 ≤ p) (h1 : p ≤ 1000000000000000000) (hq : 1 ≤ q) (hq1 : q ≤ 10000000000) :
    Calls Try.prog 50 #[.int .i64 p, .int .i64 q] w fun e w' => e = .returned (.agg #[.int .i64 (p.tdiv q), .int .i64 (cr p q), .int .i64 q, .bool (decide (p < 0))]) ∧ Below w.heap.size w w' := by
  obtain ⟨c0, c1, cp, cn⟩ := cut_facts p q hq
  by_cases h : p < 0
  · obtain ⟨n1, n2, n3, n4⟩ := cn h
    have hdec : decide (p < 0) = true := decide_eq_true h
    clear cp cn n4
    obtain ⟨d, hd⟩ : ∃ d, p.tdiv q = d := ⟨_, rfl⟩
    obtain ⟨r, hr⟩ : ∃ r, cr p q = r := ⟨_, rfl⟩
    rw [hd] at n1 n2
    rw [hr] at n3 c0 c1
    by_cases hr0 : r = 0
    · subst hr0
      go_enter Try.func50, Try.ntmps50
      go_wp2
      go_returns
      exact ⟨by simp [hr, hdec, hd], by go_grown⟩
    · go_enter Try.func50, Try.ntmps50
      go_wp2
      go_returns
      exact ⟨by simp [hr, hdec, hd], by go_grown⟩
  · obtain ⟨n1, n2, n3, n4, n5⟩ := cp (by omega)
    have hdec : decide (p < 0) = false := decide_eq_false h
    have hp : 0 ≤ p := by omega
    clear cp cn n5
    obtain ⟨d, hd⟩ : ∃ d, p.tdiv q = d := ⟨_, rfl⟩
    obtain ⟨r, hr⟩ : ∃ r, cr p q = r := ⟨_, rfl⟩
    rw [hd] at n1 n2 n3
    rw [hr] at n4 c0 c1
    go_enter Try.func50, Try.ntmps50
    go_wp2
    go_returns
    exact ⟨by simp [hr, hdec, hd], by go_grown⟩

set_option maxRecDepth 20000 in
set_option maxHeartbeats 2000000 in
/-- The first K of the rests' places get one more each (or one less). -/
theorem giveLeft_any (A B N capA : Nat) (t : TypeId) (o : Nat → Int) (g : Nat → Int × Int) (p : Nat → Nat) (K : Nat) (x one : Int) (w : World) (hN : (N : Int) ≤ 200) (hK : K ≤ N) (hAB : A < B) (H : IB w A N 3 o) (G : RB w B N t g) (hp : ∀ i, i < N → p i < N ∧ (g i).2 = (p i : Int)) (ho : ∀ k, k ≤ K → ∀ j, -200000000000 ≤ gs one p o k j ∧ gs one p o k j ≤ 200000000000)
    (hx : (x = (K : Int) ∧ one = 1) ∨ (x = -(K : Int) ∧ x < 0 ∧ one = -1)) :
    Calls Try.prog 53 #[.slice (some ⟨A, 0, none⟩) N capA, .slice (some ⟨B, 0, none⟩) N N, .int .i64 x] w fun e w' => e = .returned (.tuple #[]) ∧ IB w' A N 3 (gs one p o K) ∧ Below A w w' := by
  have HA : Hid (IB w A N 3 o) := H
  have HG : Hid (RB w B N t g) := G
  have HP : Hid (∀ i, i < N → p i < N ∧ (g i).2 = (p i : Int)) := hp
  have HO : Hid (∀ k, k ≤ K → ∀ j, -200000000000 ≤ gs one p o k j ∧ gs one p o k j ≤ 200000000000) := ho
  have lK : (K : Int) ≤ (N : Int) := by omega
  have lAB : A ≠ B := by omega
  have lBA : B ≠ A := by omega
  clear H G hp ho
  rcases hx with ⟨rfl, rfl⟩ | ⟨rfl, hx, rfl⟩
  · have l0 : ¬ (K : Int) < 0 := by omega
    go_enter Try.func53, Try.ntmps53
    go_wp2
    go_loopw [17] (fun v wr => ∃ (k : Nat), k ≤ K ∧ v = .int .i64 (k : Int) ∧ Hid (IB wr A N 3 (gs (1) p o k) ∧ RB wr B N t g ∧ Below A w wr)) (fun v _ => K - (intOf v).toNat)
    case atStart => exact ⟨0, Nat.zero_le _, rfl, HA.out, HG.out, Below.refl _ _⟩
    case round =>
      obtain ⟨k, hk, rfl, HW⟩ := hrel
      by_cases hlt : k < K
      · have hlt2 : (k : Int) < (K : Int) := by omega
        obtain ⟨p1, p2⟩ := HP.out k (by omega)
        obtain ⟨q, hq⟩ : ∃ q, p k = q := ⟨_, rfl⟩
        obtain ⟨d1, d2⟩ := HW.out.2.1.cell (j := k) (by omega)
        obtain ⟨x1, hx1⟩ : ∃ x1, (g k).1 = x1 := ⟨_, rfl⟩
        rw [hq] at p1 p2
        rw [p2] at d2
        rw [hx1] at d1
        have lq : (q : Int) < (N : Int) := by omega
        have c1 := HW.out.1.cell (j := q) p1
        have f1 := HW.out.1.fr q
        have b1 := HO.out k (by omega) q
        obtain ⟨v, hv⟩ : ∃ v, gs (1) p o k q = v := ⟨_, rfl⟩
        rw [hv] at c1 b1
        obtain ⟨b2, b3⟩ := b1
        have hlA := HW.out.1.lt
        have hlB := HW.out.2.1.lt
        have hAh : A ≠ wr.heap.size := by omega
        have HN : Hid (IB ((wr.setCell ⟨A, q, none⟩ (.int .i64 (v + 1))).alloc (.cells #[.int .i64 x1, .int .i64 (q : Int)] 73 (0, 0))) A N 3 (gs (1) p o (k + 1)) ∧ RB ((wr.setCell ⟨A, q, none⟩ (.int .i64 (v + 1))).alloc (.cells #[.int .i64 x1, .int .i64 (q : Int)] 73 (0, 0))) B N t g ∧ Below A w ((wr.setCell ⟨A, q, none⟩ (.int .i64 (v + 1))).alloc (.cells #[.int .i64 x1, .int .i64 (q : Int)] 73 (0, 0)))) := by
          refine ⟨?_, (HW.out.2.1.other _ lBA).alloc _, (HW.out.2.2.setCell (Nat.le_refl _) _).alloc (by simp; omega) _⟩
          have := (HW.out.1.set (i := q) p1 (v + 1)).alloc (.cells #[.int .i64 x1, .int .i64 (q : Int)] 73 (0, 0))
          rw [gs, hq, hv]; exact this
        clear hq hv hx1 p2 HW
        go_wp2
        go_roundw
        case rel => exact ⟨k + 1, by omega, by go_num, HN⟩
        case measure => simp [intOf]; omega
      · obtain rfl : k = K := by omega
        have lkk : ¬ (k : Int) < (k : Int) := by omega
        go_wp2
        go_returns
        exact ⟨rfl, HW.out.1, HW.out.2.2⟩
  · have e0 : -(K : Int) * -1 = (K : Int) := by omega
    go_enter Try.func53, Try.ntmps53
    go_wp2
    go_loopw [17] (fun v wr => ∃ (k : Nat), k ≤ K ∧ v = .int .i64 (k : Int) ∧ Hid (IB wr A N 3 (gs (-1) p o k) ∧ RB wr B N t g ∧ Below A w wr)) (fun v _ => K - (intOf v).toNat)
    case atStart => exact ⟨0, Nat.zero_le _, rfl, HA.out, HG.out, Below.refl _ _⟩
    case round =>
      obtain ⟨k, hk, rfl, HW⟩ := hrel
      by_cases hlt : k < K
      · have hlt2 : (k : Int) < (K : Int) := by omega
        obtain ⟨p1, p2⟩ := HP.out k (by omega)
        obtain ⟨q, hq⟩ : ∃ q, p k = q := ⟨_, rfl⟩
        obtain ⟨d1, d2⟩ := HW.out.2.1.cell (j := k) (by omega)
        obtain ⟨x1, hx1⟩ : ∃ x1, (g k).1 = x1 := ⟨_, rfl⟩
        rw [hq] at p1 p2
        rw [p2] at d2
        rw [hx1] at d1
        have lq : (q : Int) < (N : Int) := by omega
        have c1 := HW.out.1.cell (j := q) p1
        have f1 := HW.out.1.fr q
        have b1 := HO.out k (by omega) q
        obtain ⟨v, hv⟩ : ∃ v, gs (-1) p o k q = v := ⟨_, rfl⟩
        rw [hv] at c1 b1
        obtain ⟨b2, b3⟩ := b1
        have hlA := HW.out.1.lt
        have hlB := HW.out.2.1.lt
        have hAh : A ≠ wr.heap.size := by omega
        have HN : Hid (IB ((wr.setCell ⟨A, q, none⟩ (.int .i64 (v + -1))).alloc (.cells #[.int .i64 x1, .int .i64 (q : Int)] 73 (0, 0))) A N 3 (gs (-1) p o (k + 1)) ∧ RB ((wr.setCell ⟨A, q, none⟩ (.int .i64 (v + -1))).alloc (.cells #[.int .i64 x1, .int .i64 (q : Int)] 73 (0, 0))) B N t g ∧ Below A w ((wr.setCell ⟨A, q, none⟩ (.int .i64 (v + -1))).alloc (.cells #[.int .i64 x1, .int .i64 (q : Int)] 73 (0, 0)))) := by
          refine ⟨?_, (HW.out.2.1.other _ lBA).alloc _, (HW.out.2.2.setCell (Nat.le_refl _) _).alloc (by simp; omega) _⟩
          have := (HW.out.1.set (i := q) p1 (v + -1)).alloc (.cells #[.int .i64 x1, .int .i64 (q : Int)] 73 (0, 0))
          rw [gs, hq, hv]; exact this
        clear hq hv hx1 p2 HW
        go_wp2
        go_roundw
        case rel => exact ⟨k + 1, by omega, by go_num, HN⟩
        case measure => simp [intOf]; omega
      · obtain rfl : k = K := by omega
        have lkk : ¬ (k : Int) < (k : Int) := by omega
        go_wp2
        go_returns
        exact ⟨rfl, HW.out.1, HW.out.2.2⟩
end Go.Proofs.Ytjlniinahfgakaa
