/- Worths: WorthOk of the model answers woB -/
import Derived.Test.YtdgccdlaokbnhaaWa
import Derived.Deep.RegionHeld3
namespace Go.Proofs.Ytdgccdlaokbnhaa
open Go Go.ChangeShapes Go.WideShapes Go.ChangeAt Go.RowKit
set_option linter.unusedVariables false
set_option linter.unusedSimpArgs false


set_option maxRecDepth 20000 in
set_option maxHeartbeats 4000000 in
theorem specSums_any (ad : Option Addr) (n cap : Nat) (c : Nat → LA2) (w : World) (h : n ≤ 301) (hl : ∀ j, j < n → laB (c j) = true) (hr : LAr w ad n c) :
    Calls Try.prog 70 #[.slice ad n cap] w fun e w' => e = .returned (.tuple #[.int .i64 (qS c n), .int .i64 (kS c n)]) ∧ w' = w := by
  have HR : Hid (LAr w ad n c) := hr
  have HL : Hid (∀ j, j < n → laB (c j) = true) := hl
  clear hr hl
  have hn : (n : Int) ≤ 301 := by omega
  go_enter Try.func70, Try.ntmps70
  go_wp2
  go_loopw [4, 5, 6] (fun q s i wr => ∃ (k : Nat) (Q K : Int), k ≤ n ∧ i = .int .i64 (k : Int) ∧ q = .int .i64 Q ∧ s = .int .i64 K ∧ Hid (qS c k = Q ∧ kS c k = K) ∧ Hid (wr = w)) (fun q s i _ => n - (intOf i).toNat)
  case atStart => exact ⟨0, 0, 0, Nat.zero_le _, rfl, rfl, rfl, ⟨rfl, rfl⟩, rfl⟩
  case round =>
    obtain ⟨k, Q, K, hk, rfl, rfl, rfl, HS, HW⟩ := hrel
    by_cases hlt : k < n
    · have hlt2 : (k : Int) < (n : Int) := by omega
      obtain ⟨kb, off, rfl, hkb⟩ := HR.out.addr (by omega)
      obtain ⟨c0, c1⟩ := (show LAr wr (some ⟨kb, off, none⟩) n c by rw [HW.out]; exact HR.out).cell hlt
      obtain ⟨b1, b2, b3, b4⟩ := sums_bd k (fun j hj => HL.out j (by omega))
      rw [HS.out.1] at b1 b2
      rw [HS.out.2] at b3 b4
      obtain ⟨⟨g1, g2⟩, g3, g4⟩ := laB_p (HL.out k hlt)
      have HS2 : Hid (qS c (k + 1) = Q + (c k).qty ∧ kS c (k + 1) = K + (c k).cost) := ⟨by simp only [qS]; rw [HS.out.1], by simp only [kS]; rw [HS.out.2]⟩
      generalize (c k).qty = x at c0 g1 g2 HS2
      generalize (c k).cost = y at c1 g3 g4 HS2
      have k1 : Q ≤ 1000000000000 := by omega
      have k2 : 0 ≤ Q := by omega
      have k4 : K ≤ 100000000000000 := by omega
      clear b1 b2 b4 hkb
      go_wp2
      go_roundw
      case rel => exact ⟨k + 1, Q + x, K + y, by omega, by go_num, rfl, rfl, HS2.out, HW.out⟩
      case measure => simp [intOf]; omega
    · obtain rfl : k = n := by omega
      have lkk : ¬ (k : Int) < (k : Int) := by omega
      go_wp2
      go_returns
      exact ⟨by rw [HS.out.1, HS.out.2]; rfl, HW.out⟩
theorem specSums_eq (ad : Option Addr) (n cap : Nat) (c : Nat → LA2) (Q K : Int) (w : World) (h : n ≤ 301) (hl : ∀ j, j < n → laB (c j) = true) (hr : LAr w ad n c) (hQ : qS c n = Q) (hK : kS c n = K) :
    Calls Try.prog 70 #[.slice ad n cap] w fun e w' => e = .returned (.tuple #[.int .i64 Q, .int .i64 K]) ∧ w' = w := by
  subst hQ; subst hK; exact specSums_any ad n cap c w h hl hr

theorem inB_amt {K : Int} (h : 0 ≤ K) : inB K (-100000000000) 100000000000 = inB K 0 100000000000 := by
  unfold inB; rw [decide_eq_decide]; omega
/-- What the model's loop has seen of the first k lays. -/
def LyP (m p : Int) (c : Nat → LA2) (k : Nat) : Prop := (∀ j, j < k → laB (c j) = true) ∧ (m = 4 → ∀ j, j < k → (c j).cost = IntKind.i64.wrap ((c j).qty * p))
theorem LyP.std {m p : Int} {c : Nat → LA2} {n : Nat} (h : LyP m p c n) (h4 : m = 4) (hn : n ≤ 1) (h0 : 0 ≤ p) (h1 : p ≤ 100000) : kS c n = qS c n * p := by
  rcases (show n = 0 ∨ n = 1 by omega) with rfl | rfl
  · simp [kS, qS]
  · have := h.2 h4 0 (by omega)
    obtain ⟨⟨g1, g2⟩, _⟩ := laB_p (h.1 0 (by omega))
    simp only [kS, qS, Int.zero_add]
    generalize (c 0).qty = x at this g1 g2 ⊢
    rw [this]
    obtain ⟨R, hR⟩ : ∃ R, x * p = R := ⟨_, rfl⟩
    have hm0 : 0 ≤ R := by rw [← hR]; exact Int.mul_nonneg (by omega) h0
    have hm1 : R ≤ 1000000 * 100000 := by
      have h1' : x * p ≤ 1000000 * p := Int.mul_le_mul_of_nonneg_right g2 h0
      have h2' : 1000000 * p ≤ 1000000 * 100000 := Int.mul_le_mul_of_nonneg_left h1 (by decide)
      omega
    rw [hR]; exact IntWalk.i64_in (by omega) (by omega)
theorem LyP.bad {m p off : Int} {c : Nat → LA2} {n k : Nat} {x y : Int} (hk : k < n) (e : c k = ⟨x, y⟩) (h4 : m = 4) (h : (y != IntKind.i64.wrap (x * p)) = true) : woB m p n c off = false := woB_f fun H => by
  have hl := H.len
  unfold mlN at hl; rw [if_pos (Or.inr h4)] at hl
  obtain ⟨rfl, rfl⟩ : k = 0 ∧ n = 1 := by omega
  obtain ⟨⟨p0, p1⟩, _, hs⟩ := H.std h4
  simp only [kS, qS, Int.zero_add, e] at hs
  obtain ⟨⟨g1, g2⟩, _⟩ := laB_p (H.lay 0 (by omega))
  rw [e] at g1 g2
  simp only at g1 g2
  obtain ⟨R, hR⟩ : ∃ R, x * p = R := ⟨_, rfl⟩
  have hm0 : 0 ≤ R := by rw [← hR]; exact Int.mul_nonneg (by omega) p0
  have hm1 : R ≤ 1000000 * 100000 := by
    have h1' : x * p ≤ 1000000 * p := Int.mul_le_mul_of_nonneg_right g2 p0
    have h2' : 1000000 * p ≤ 1000000 * 100000 := Int.mul_le_mul_of_nonneg_left p1 (by decide)
    omega
  have hw : IntKind.i64.wrap R = R := IntWalk.i64_in (by omega) (by omega)
  rw [hR, hw] at h
  rw [hR] at hs
  rw [hs] at h
  simp at h
set_option maxRecDepth 20000 in
set_option maxHeartbeats 16000000 in
theorem specWorth_any (m p : Int) (ad : Option Addr) (n cap : Nat) (off : Int) (c : Nat → LA2) (w : World) (h : (n : Int) ≤ 1048576) (hr : LAr w ad n c) :
    Calls Try.prog 20 #[.agg #[.int .i64 m, .int .i64 p, .slice ad n cap, .int .i64 off]] w fun e w' => e = .returned (.bool (woB m p n c off)) ∧ Below w.heap.size w w' := by
  have HR : Hid (LAr w ad n c) := hr
  obtain ⟨v, hv⟩ : ∃ v, woB m p n c off = v := ⟨_, rfl⟩
  rw [hv]
  have HV : Hid (woB m p n c off = v) := hv
  clear hr hv
  cases hm : inB m 1 4
  · obtain rfl : v = false := by rw [← HV.out]; exact woB_f fun H => by have := H.met; have := inB_f hm; omega
    have HM : Hid (inB m 1 4 = false) := hm
    clear hm HV
    go_enter Try.func20, Try.ntmps20
    go_wp2_with (first | (go_at_call 60; refine (l1In_eq _ _ _ _ _ HM.out).mono ?_; rintro e w1 ⟨rfl, rfl⟩))
    go_returns
    exact ⟨rfl, by go_grown⟩
  obtain ⟨m1, m2⟩ := inB_t hm
  have HM : Hid (inB m 1 4 = true) := hm
  clear hm
  by_cases hn : (n : Int) ≤ 300
  case neg =>
    obtain rfl : v = false := by rw [← HV.out]; exact woB_f fun H => by have := H.len300; omega
    clear HV
    go_enter Try.func20, Try.ntmps20
    go_wp2_with (first | (go_at_call 60; refine (l1In_eq _ _ _ _ _ HM.out).mono ?_; rintro e w1 ⟨rfl, rfl⟩))
    go_returns
    exact ⟨rfl, by go_grown⟩
  by_cases hm3 : 3 ≤ m ∧ 1 < (n : Int)
  · obtain ⟨hm3, hn1⟩ := hm3
    obtain rfl : v = false := by rw [← HV.out]; exact woB_f fun H => by have := H.len; unfold mlN at this; rw [if_pos (by omega)] at this; omega
    clear HV
    go_enter Try.func20, Try.ntmps20
    go_wp2_with (first | (go_at_call 60; refine (l1In_eq _ _ _ _ _ HM.out).mono ?_; rintro e w1 ⟨rfl, rfl⟩))
    go_returns
    exact ⟨rfl, by go_grown⟩
  have HML : Hid (n ≤ mlN m) := hid (by unfold mlN; split <;> omega)
  have hT : Hid (3 ≤ m → (n : Int) ≤ 1) := hid (fun q => by omega)
  have key : ∀ (wl : World) (Q' : Prop), True := fun _ _ => trivial
  clear key
  go_enter Try.func20, Try.ntmps20
  by_cases q3 : 3 ≤ m
  case' pos => have q4 : (n : Int) ≤ 1 := hT.out q3
  case' neg => have q4 : True := trivial
  all_goals clear hm3
  all_goals go_wp2_with (first | (go_at_call 60; refine (l1In_eq _ _ _ _ _ HM.out).mono ?_; rintro e w1 ⟨rfl, rfl⟩))
  all_goals
    go_loopw [3] (fun i wr => ∃ (k : Nat), k ≤ n ∧ i = .int .i64 (k : Int) ∧ Hid (LyP m p c k) ∧ Hid (CB wr w.heap.size #[.int .i64 m, .int .i64 p, .slice ad n cap, .int .i64 off] 26) ∧ Hid (Below w.heap.size w wr)) (fun i _ => n - (intOf i).toNat)
    case atStart => exact ⟨0, Nat.zero_le _, rfl, ⟨fun j hj => by omega, fun _ j hj => by omega⟩, CB.new _ _, (Below.refl _ _).alloc (Nat.le_refl _) _⟩
    case round =>
      obtain ⟨k, hk, rfl, HL0, HC, HB⟩ := hrel
      have e0 : wr.cell? ⟨w.heap.size, 0, none⟩ = some (.int .i64 m) := HC.out.cell 0
      have e1 : wr.cell? ⟨w.heap.size, 1, none⟩ = some (.int .i64 p) := HC.out.cell 1
      have e2 : wr.cell? ⟨w.heap.size, 2, none⟩ = some (.slice ad n cap) := HC.out.cell 2
      have e3 : wr.cell? ⟨w.heap.size, 3, none⟩ = some (.int .i64 off) := HC.out.cell 3
      have hlw := HC.out.lt
      by_cases hlt : k < n
      · have hlt2 : (k : Int) < (n : Int) := by omega
        obtain ⟨kb, of, rfl, hkb⟩ := HR.out.addr (by omega)
        obtain ⟨c0, c1⟩ := (HR.out.below HB.out).cell hlt
        obtain ⟨rr, hrr⟩ : ∃ r, c k = r := ⟨_, rfl⟩
        have HX : Hid (c k = rr) := hrr
        rw [hrr] at c0 c1
        obtain ⟨x, y⟩ := rr
        simp only at c0 c1
        clear hrr
        cases hg : laB ⟨x, y⟩
        · obtain rfl : v = false := by rw [← HV.out]; exact woB_f fun H => by have := H.lay k hlt; rw [HX.out, hg] at this; cases this
          have HG : Hid (laB ⟨x, y⟩ = false) := hg
          clear hg HV
          go_wp2
          refine wp_region_noPanic ?_
          refine wp_region_held_drew (S := fun w' => (w'.cell? ⟨w.heap.size, 0, none⟩ = some (.int .i64 m)) ∧ (w'.cell? ⟨w.heap.size, 1, none⟩ = some (.int .i64 p)) ∧ (w'.cell? ⟨w.heap.size, 2, none⟩ = some (.slice (some ⟨kb, of, none⟩) n cap)) ∧ (w'.cell? ⟨kb, of + k * 2, none⟩ = some (.int .i64 x)) ∧ (w'.cell? ⟨kb, of + k * 2 + 1, none⟩ = some (.int .i64 y)) ∧ (CB w' w.heap.size #[.int .i64 m, .int .i64 p, .slice (some ⟨kb, of, none⟩) n cap, .int .i64 off] 26) ∧ (Below w.heap.size w w')) (by kernel_rfl) (by exact ⟨e0, e1, e2, c0, c1, HC.out, HB.out.drew⟩) (fun hHeld => ?_)
          refine wpAnyH_take (i := 0) (oi := { dst := some 34, op := Go.Op.fieldAddr 26 (Go.Operand.tmp 1) 2, type := 0, pos := "l16_cost.go:22", after := #[], guard := none }) (v := ?_) rfl (by kernel_rfl) (by kernel_rfl) (by kernel_rfl) (fun _ _ _ h => h) (Or.inl ⟨by rfl, ?_⟩) (by assumption) ?_
          rotate_left
          · (intro w hSw; (try dsimp only at hSw); go_simp <;> try with_reducible rfl)
          try simp only [Act.put, List.setIfInBounds_toArray, List.set_cons_zero, List.set_cons_succ]
          refine wpAnyH_take (i := 1) (oi := { dst := some 35, op := Go.Op.load 24 (Go.Operand.tmp 34), type := 24, pos := "l16_cost.go:22", after := #[{ on := 0, ground := Go.Ground.data }], guard := none }) (v := ?_) rfl (by kernel_rfl) (by kernel_rfl) (by kernel_rfl) (fun _ _ _ h => h) (Or.inl ⟨by rfl, ?_⟩) (by assumption) ?_
          rotate_left
          · (intro w hSw; (try dsimp only at hSw); go_simp <;> try with_reducible rfl)
          try simp only [Act.put, List.setIfInBounds_toArray, List.set_cons_zero, List.set_cons_succ]
          refine wpAnyH_take (i := 2) (oi := { dst := some 36, op := Go.Op.move (Go.Operand.tmp 3), type := 3, pos := "l16_cost.go:22", after := #[], guard := none }) (v := ?_) rfl (by kernel_rfl) (by kernel_rfl) (by kernel_rfl) (fun _ _ _ h => h) (Or.inl ⟨by rfl, ?_⟩) (by assumption) ?_
          rotate_left
          · (intro w hSw; (try dsimp only at hSw); go_simp <;> try with_reducible rfl)
          try simp only [Act.put, List.setIfInBounds_toArray, List.set_cons_zero, List.set_cons_succ]
          refine wpAnyH_take (i := 3) (oi := { dst := some 37, op := Go.Op.indexAddr 24 (Go.Operand.tmp 35) (Go.Operand.tmp 36), type := 0, pos := "l16_cost.go:22", after := #[{ on := 1, ground := Go.Ground.data }, { on := 2, ground := Go.Ground.data }], guard := none }) (v := ?_) rfl (by kernel_rfl) (by kernel_rfl) (by kernel_rfl) (fun _ _ _ h => h) (Or.inl ⟨by rfl, ?_⟩) (by assumption) ?_
          rotate_left
          · (intro w hSw; (try dsimp only at hSw); go_simp <;> try with_reducible rfl)
          try simp only [Act.put, List.setIfInBounds_toArray, List.set_cons_zero, List.set_cons_succ]
          refine wpAnyH_take (i := 4) (oi := { dst := some 38, op := Go.Op.load 40 (Go.Operand.tmp 37), type := 40, pos := "l16_cost.go:22", after := #[{ on := 3, ground := Go.Ground.data }], guard := none }) (v := ?_) rfl (by kernel_rfl) (by kernel_rfl) (by kernel_rfl) (fun _ _ _ h => h) (Or.inl ⟨by rfl, ?_⟩) (by assumption) ?_
          rotate_left
          · (intro w hSw; (try dsimp only at hSw); go_simp <;> try with_reducible rfl)
          try simp only [Act.put, List.setIfInBounds_toArray, List.set_cons_zero, List.set_cons_succ]
          refine wpAnyH_ready (rs := [5]) (by kernel_rfl) (by simp) ?_
          refine AllReadyH.cons (o := { dst := some 39, op := Go.Op.call { callee := Go.Callee.value (Go.Operand.func 67), args := #[Go.Operand.tmp 38], argTypes := #[40] }, type := 4, pos := "l16_cost.go:22", after := #[{ on := 4, ground := Go.Ground.data }], guard := none }) rfl (fun K hK => ?_) (AllReadyH.nil)
          go_simp
          refine (l16Lay_eq ⟨x, y⟩ false _ HG.out).mono ?_
          rintro e w2 ⟨rfl, b2⟩
          have Q2 : (w2.cell? ⟨w.heap.size, 0, none⟩ = some (.int .i64 m)) ∧ (w2.cell? ⟨w.heap.size, 1, none⟩ = some (.int .i64 p)) ∧ (w2.cell? ⟨w.heap.size, 2, none⟩ = some (.slice (some ⟨kb, of, none⟩) n cap)) ∧ (w2.cell? ⟨kb, of + k * 2, none⟩ = some (.int .i64 x)) ∧ (w2.cell? ⟨kb, of + k * 2 + 1, none⟩ = some (.int .i64 y)) ∧ (CB w2 w.heap.size #[.int .i64 m, .int .i64 p, .slice (some ⟨kb, of, none⟩) n cap, .int .i64 off] 26) ∧ (Below w.heap.size w w2) := ⟨keep_cell b2 hHeld.1, keep_cell b2 hHeld.2.1, keep_cell b2 hHeld.2.2.1, keep_cell b2 hHeld.2.2.2.1, keep_cell b2 hHeld.2.2.2.2.1, hHeld.2.2.2.2.2.1.below b2 hHeld.2.2.2.2.2.1.lt, bel_on hHeld.2.2.2.2.2.2 b2⟩
          clear b2
          first | refine hK.out _ _ (by exact Q2) (fun hHeld => ?_) | (go_wp2_with fail; refine hK.out _ _ (by exact Q2) (fun hHeld => ?_))
          clear hK K
          try simp only [Act.put, List.setIfInBounds_toArray, List.set_cons_zero, List.set_cons_succ]
          refine wpAnyH_take (i := 6) (oi := { dst := some 40, op := Go.Op.unOp Go.UnOp.not 4 (Go.Operand.tmp 39), type := 4, pos := "l16_cost.go:22", after := #[{ on := 5, ground := Go.Ground.data }], guard := none }) (v := ?_) rfl (by kernel_rfl) (by kernel_rfl) (by kernel_rfl) (fun _ _ _ h => h) (Or.inl ⟨by rfl, ?_⟩) (by assumption) ?_
          rotate_left
          · (intro w hSw; (try dsimp only at hSw); go_simp <;> try with_reducible rfl)
          try simp only [Act.put, List.setIfInBounds_toArray, List.set_cons_zero, List.set_cons_succ]
          refine wpAnyH_take (i := 7) (oi := { dst := some 41, op := Go.Op.move (Go.Operand.tmp 40), type := 4, pos := "l16_cost.go:22", after := #[{ on := 6, ground := Go.Ground.data }, { on := 5, ground := Go.Ground.chain }], guard := none }) (v := ?_) rfl (by kernel_rfl) (by kernel_rfl) (by kernel_rfl) (fun _ _ _ h => h) (Or.inl ⟨by rfl, ?_⟩) (by assumption) ?_
          rotate_left
          · (intro w hSw; (try dsimp only at hSw); go_simp <;> try with_reducible rfl)
          try simp only [Act.put, List.setIfInBounds_toArray, List.set_cons_zero, List.set_cons_succ]
          refine wpAnyH_take (i := 8) (oi := { dst := some 42, op := Go.Op.fieldAddr 26 (Go.Operand.tmp 1) 0, type := 0, pos := "l16_cost.go:22", after := #[{ on := 7, ground := Go.Ground.guard }], guard := some (7, false) }) (v := undef) rfl (by kernel_rfl) (by kernel_rfl) (by kernel_rfl) (fun _ _ _ h => h) (Or.inr ⟨by rfl, rfl⟩) (by assumption) ?_
          try simp only [Act.put, List.setIfInBounds_toArray, List.set_cons_zero, List.set_cons_succ]
          refine wpAnyH_take (i := 9) (oi := { dst := some 43, op := Go.Op.load 3 (Go.Operand.tmp 42), type := 3, pos := "l16_cost.go:22", after := #[{ on := 8, ground := Go.Ground.data }, { on := 7, ground := Go.Ground.guard }], guard := some (7, false) }) (v := undef) rfl (by kernel_rfl) (by kernel_rfl) (by kernel_rfl) (fun _ _ _ h => h) (Or.inr ⟨by rfl, rfl⟩) (by assumption) ?_
          try simp only [Act.put, List.setIfInBounds_toArray, List.set_cons_zero, List.set_cons_succ]
          refine wpAnyH_take (i := 10) (oi := { dst := some 44, op := Go.Op.binOp Go.BinOp.eql 3 (Go.Operand.tmp 43) (Go.Operand.const (Go.Value.int Go.IntKind.i64 4)) 3, type := 4, pos := "l16_cost.go:22", after := #[{ on := 9, ground := Go.Ground.data }, { on := 7, ground := Go.Ground.guard }], guard := some (7, false) }) (v := undef) rfl (by kernel_rfl) (by kernel_rfl) (by kernel_rfl) (fun _ _ _ h => h) (Or.inr ⟨by rfl, rfl⟩) (by assumption) ?_
          try simp only [Act.put, List.setIfInBounds_toArray, List.set_cons_zero, List.set_cons_succ]
          refine wpAnyH_take (i := 11) (oi := { dst := some 45, op := Go.Op.move (Go.Operand.tmp 44), type := 4, pos := "l16_cost.go:22", after := #[{ on := 10, ground := Go.Ground.data }, { on := 7, ground := Go.Ground.chain }, { on := 7, ground := Go.Ground.guard }], guard := some (7, false) }) (v := undef) rfl (by kernel_rfl) (by kernel_rfl) (by kernel_rfl) (fun _ _ _ h => h) (Or.inr ⟨by rfl, rfl⟩) (by assumption) ?_
          try simp only [Act.put, List.setIfInBounds_toArray, List.set_cons_zero, List.set_cons_succ]
          refine wpAnyH_take (i := 12) (oi := { dst := some 46, op := Go.Op.fieldAddr 26 (Go.Operand.tmp 1) 2, type := 0, pos := "l16_cost.go:22", after := #[{ on := 11, ground := Go.Ground.guard }], guard := some (11, true) }) (v := undef) rfl (by kernel_rfl) (by kernel_rfl) (by kernel_rfl) (fun _ _ _ h => h) (Or.inr ⟨by rfl, rfl⟩) (by assumption) ?_
          try simp only [Act.put, List.setIfInBounds_toArray, List.set_cons_zero, List.set_cons_succ]
          refine wpAnyH_take (i := 13) (oi := { dst := some 47, op := Go.Op.load 24 (Go.Operand.tmp 46), type := 24, pos := "l16_cost.go:22", after := #[{ on := 12, ground := Go.Ground.data }, { on := 11, ground := Go.Ground.guard }], guard := some (11, true) }) (v := undef) rfl (by kernel_rfl) (by kernel_rfl) (by kernel_rfl) (fun _ _ _ h => h) (Or.inr ⟨by rfl, rfl⟩) (by assumption) ?_
          try simp only [Act.put, List.setIfInBounds_toArray, List.set_cons_zero, List.set_cons_succ]
          refine wpAnyH_take (i := 14) (oi := { dst := some 48, op := Go.Op.move (Go.Operand.tmp 3), type := 3, pos := "l16_cost.go:22", after := #[{ on := 11, ground := Go.Ground.guard }], guard := some (11, true) }) (v := undef) rfl (by kernel_rfl) (by kernel_rfl) (by kernel_rfl) (fun _ _ _ h => h) (Or.inr ⟨by rfl, rfl⟩) (by assumption) ?_
          try simp only [Act.put, List.setIfInBounds_toArray, List.set_cons_zero, List.set_cons_succ]
          refine wpAnyH_take (i := 15) (oi := { dst := some 49, op := Go.Op.indexAddr 24 (Go.Operand.tmp 47) (Go.Operand.tmp 48), type := 0, pos := "l16_cost.go:22", after := #[{ on := 13, ground := Go.Ground.data }, { on := 14, ground := Go.Ground.data }, { on := 11, ground := Go.Ground.guard }], guard := some (11, true) }) (v := undef) rfl (by kernel_rfl) (by kernel_rfl) (by kernel_rfl) (fun _ _ _ h => h) (Or.inr ⟨by rfl, rfl⟩) (by assumption) ?_
          try simp only [Act.put, List.setIfInBounds_toArray, List.set_cons_zero, List.set_cons_succ]
          refine wpAnyH_take (i := 16) (oi := { dst := some 50, op := Go.Op.fieldAddr 40 (Go.Operand.tmp 49) 1, type := 0, pos := "l16_cost.go:22", after := #[{ on := 15, ground := Go.Ground.data }, { on := 11, ground := Go.Ground.guard }], guard := some (11, true) }) (v := undef) rfl (by kernel_rfl) (by kernel_rfl) (by kernel_rfl) (fun _ _ _ h => h) (Or.inr ⟨by rfl, rfl⟩) (by assumption) ?_
          try simp only [Act.put, List.setIfInBounds_toArray, List.set_cons_zero, List.set_cons_succ]
          refine wpAnyH_take (i := 17) (oi := { dst := some 51, op := Go.Op.load 3 (Go.Operand.tmp 50), type := 3, pos := "l16_cost.go:22", after := #[{ on := 16, ground := Go.Ground.data }, { on := 11, ground := Go.Ground.guard }], guard := some (11, true) }) (v := undef) rfl (by kernel_rfl) (by kernel_rfl) (by kernel_rfl) (fun _ _ _ h => h) (Or.inr ⟨by rfl, rfl⟩) (by assumption) ?_
          try simp only [Act.put, List.setIfInBounds_toArray, List.set_cons_zero, List.set_cons_succ]
          refine wpAnyH_take (i := 18) (oi := { dst := some 52, op := Go.Op.fieldAddr 26 (Go.Operand.tmp 1) 2, type := 0, pos := "l16_cost.go:22", after := #[{ on := 11, ground := Go.Ground.guard }], guard := some (11, true) }) (v := undef) rfl (by kernel_rfl) (by kernel_rfl) (by kernel_rfl) (fun _ _ _ h => h) (Or.inr ⟨by rfl, rfl⟩) (by assumption) ?_
          try simp only [Act.put, List.setIfInBounds_toArray, List.set_cons_zero, List.set_cons_succ]
          refine wpAnyH_take (i := 19) (oi := { dst := some 53, op := Go.Op.load 24 (Go.Operand.tmp 52), type := 24, pos := "l16_cost.go:22", after := #[{ on := 18, ground := Go.Ground.data }, { on := 11, ground := Go.Ground.guard }], guard := some (11, true) }) (v := undef) rfl (by kernel_rfl) (by kernel_rfl) (by kernel_rfl) (fun _ _ _ h => h) (Or.inr ⟨by rfl, rfl⟩) (by assumption) ?_
          try simp only [Act.put, List.setIfInBounds_toArray, List.set_cons_zero, List.set_cons_succ]
          refine wpAnyH_take (i := 20) (oi := { dst := some 54, op := Go.Op.move (Go.Operand.tmp 3), type := 3, pos := "l16_cost.go:22", after := #[{ on := 11, ground := Go.Ground.guard }], guard := some (11, true) }) (v := undef) rfl (by kernel_rfl) (by kernel_rfl) (by kernel_rfl) (fun _ _ _ h => h) (Or.inr ⟨by rfl, rfl⟩) (by assumption) ?_
          try simp only [Act.put, List.setIfInBounds_toArray, List.set_cons_zero, List.set_cons_succ]
          refine wpAnyH_take (i := 21) (oi := { dst := some 55, op := Go.Op.indexAddr 24 (Go.Operand.tmp 53) (Go.Operand.tmp 54), type := 0, pos := "l16_cost.go:22", after := #[{ on := 19, ground := Go.Ground.data }, { on := 20, ground := Go.Ground.data }, { on := 11, ground := Go.Ground.guard }], guard := some (11, true) }) (v := undef) rfl (by kernel_rfl) (by kernel_rfl) (by kernel_rfl) (fun _ _ _ h => h) (Or.inr ⟨by rfl, rfl⟩) (by assumption) ?_
          try simp only [Act.put, List.setIfInBounds_toArray, List.set_cons_zero, List.set_cons_succ]
          refine wpAnyH_take (i := 22) (oi := { dst := some 56, op := Go.Op.fieldAddr 40 (Go.Operand.tmp 55) 0, type := 0, pos := "l16_cost.go:22", after := #[{ on := 21, ground := Go.Ground.data }, { on := 11, ground := Go.Ground.guard }], guard := some (11, true) }) (v := undef) rfl (by kernel_rfl) (by kernel_rfl) (by kernel_rfl) (fun _ _ _ h => h) (Or.inr ⟨by rfl, rfl⟩) (by assumption) ?_
          try simp only [Act.put, List.setIfInBounds_toArray, List.set_cons_zero, List.set_cons_succ]
          refine wpAnyH_take (i := 23) (oi := { dst := some 57, op := Go.Op.load 3 (Go.Operand.tmp 56), type := 3, pos := "l16_cost.go:22", after := #[{ on := 22, ground := Go.Ground.data }, { on := 11, ground := Go.Ground.guard }], guard := some (11, true) }) (v := undef) rfl (by kernel_rfl) (by kernel_rfl) (by kernel_rfl) (fun _ _ _ h => h) (Or.inr ⟨by rfl, rfl⟩) (by assumption) ?_
          try simp only [Act.put, List.setIfInBounds_toArray, List.set_cons_zero, List.set_cons_succ]
          refine wpAnyH_take (i := 24) (oi := { dst := some 58, op := Go.Op.fieldAddr 26 (Go.Operand.tmp 1) 1, type := 0, pos := "l16_cost.go:22", after := #[{ on := 11, ground := Go.Ground.guard }], guard := some (11, true) }) (v := undef) rfl (by kernel_rfl) (by kernel_rfl) (by kernel_rfl) (fun _ _ _ h => h) (Or.inr ⟨by rfl, rfl⟩) (by assumption) ?_
          try simp only [Act.put, List.setIfInBounds_toArray, List.set_cons_zero, List.set_cons_succ]
          refine wpAnyH_take (i := 25) (oi := { dst := some 59, op := Go.Op.load 3 (Go.Operand.tmp 58), type := 3, pos := "l16_cost.go:22", after := #[{ on := 24, ground := Go.Ground.data }, { on := 11, ground := Go.Ground.guard }], guard := some (11, true) }) (v := undef) rfl (by kernel_rfl) (by kernel_rfl) (by kernel_rfl) (fun _ _ _ h => h) (Or.inr ⟨by rfl, rfl⟩) (by assumption) ?_
          try simp only [Act.put, List.setIfInBounds_toArray, List.set_cons_zero, List.set_cons_succ]
          refine wpAnyH_take (i := 26) (oi := { dst := some 60, op := Go.Op.binOp Go.BinOp.mul 3 (Go.Operand.tmp 57) (Go.Operand.tmp 59) 3, type := 3, pos := "l16_cost.go:22", after := #[{ on := 23, ground := Go.Ground.data }, { on := 25, ground := Go.Ground.data }, { on := 11, ground := Go.Ground.guard }], guard := some (11, true) }) (v := undef) rfl (by kernel_rfl) (by kernel_rfl) (by kernel_rfl) (fun _ _ _ h => h) (Or.inr ⟨by rfl, rfl⟩) (by assumption) ?_
          try simp only [Act.put, List.setIfInBounds_toArray, List.set_cons_zero, List.set_cons_succ]
          refine wpAnyH_take (i := 27) (oi := { dst := some 61, op := Go.Op.binOp Go.BinOp.neq 3 (Go.Operand.tmp 51) (Go.Operand.tmp 60) 3, type := 4, pos := "l16_cost.go:22", after := #[{ on := 17, ground := Go.Ground.data }, { on := 26, ground := Go.Ground.data }, { on := 11, ground := Go.Ground.guard }], guard := some (11, true) }) (v := undef) rfl (by kernel_rfl) (by kernel_rfl) (by kernel_rfl) (fun _ _ _ h => h) (Or.inr ⟨by rfl, rfl⟩) (by assumption) ?_
          try simp only [Act.put, List.setIfInBounds_toArray, List.set_cons_zero, List.set_cons_succ]
          refine wpAnyH_take (i := 28) (oi := { dst := some 62, op := Go.Op.pick (Go.Operand.tmp 45) (Go.Operand.tmp 61) (Go.Operand.const (Go.Value.bool false)), type := 4, pos := "l16_cost.go:22", after := #[{ on := 11, ground := Go.Ground.data }, { on := 27, ground := Go.Ground.data }, { on := 7, ground := Go.Ground.guard }], guard := some (7, false) }) (v := undef) rfl (by kernel_rfl) (by kernel_rfl) (by kernel_rfl) (fun _ _ _ h => h) (Or.inr ⟨by rfl, rfl⟩) (by assumption) ?_
          try simp only [Act.put, List.setIfInBounds_toArray, List.set_cons_zero, List.set_cons_succ]
          refine wpAnyH_take (i := 29) (oi := { dst := some 63, op := Go.Op.pick (Go.Operand.tmp 41) (Go.Operand.const (Go.Value.bool true)) (Go.Operand.tmp 62), type := 4, pos := "l16_cost.go:22", after := #[{ on := 7, ground := Go.Ground.data }, { on := 28, ground := Go.Ground.data }], guard := none }) (v := ?_) rfl (by kernel_rfl) (by kernel_rfl) (by kernel_rfl) (fun _ _ _ h => h) (Or.inl ⟨by rfl, ?_⟩) (by assumption) ?_
          rotate_left
          · (intro w hSw; (try dsimp only at hSw); go_simp <;> try with_reducible rfl)
          try simp only [Act.put, List.setIfInBounds_toArray, List.set_cons_zero, List.set_cons_succ]
          refine wpAnyH_done (by kernel_rfl) ?_ _
          refine NoPanic.normal ?_
          clear hHeld
          obtain ⟨y0, y1, y2, _, _, yC, yB⟩ := Q2
          have HC2 := hid yC
          have HB2 := hid yB
          clear yC yB
          go_wp2
          go_returns
          exact ⟨rfl, HB2.out⟩
        have HG : Hid (laB ⟨x, y⟩ = true) := hg
        clear hg
        by_cases h4 : m = 4
        · obtain ⟨R, hR⟩ : ∃ R, IntKind.i64.wrap (x * p) = R := ⟨_, rfl⟩
          cases hne : (y != R)
          · have HN : Hid (LyP m p c (k + 1)) := hid ⟨fun j hj => by by_cases e : j = k; (subst e; rw [HX.out]; exact HG.out); (exact HL0.out.1 j (by omega)), fun _ j hj => by by_cases e : j = k; (subst e; rw [HX.out]; simp only; rw [hR]; simpa using hne); (exact HL0.out.2 h4 j (by omega))⟩
            have h4' : (m == 4) = true := by simp [h4]
            clear h4
            go_wp2
            refine wp_region_noPanic ?_
            refine wp_region_held_drew (S := fun w' => (w'.cell? ⟨w.heap.size, 0, none⟩ = some (.int .i64 m)) ∧ (w'.cell? ⟨w.heap.size, 1, none⟩ = some (.int .i64 p)) ∧ (w'.cell? ⟨w.heap.size, 2, none⟩ = some (.slice (some ⟨kb, of, none⟩) n cap)) ∧ (w'.cell? ⟨kb, of + k * 2, none⟩ = some (.int .i64 x)) ∧ (w'.cell? ⟨kb, of + k * 2 + 1, none⟩ = some (.int .i64 y)) ∧ (CB w' w.heap.size #[.int .i64 m, .int .i64 p, .slice (some ⟨kb, of, none⟩) n cap, .int .i64 off] 26) ∧ (Below w.heap.size w w')) (by kernel_rfl) (by exact ⟨e0, e1, e2, c0, c1, HC.out, HB.out.drew⟩) (fun hHeld => ?_)
            refine wpAnyH_take (i := 0) (oi := { dst := some 34, op := Go.Op.fieldAddr 26 (Go.Operand.tmp 1) 2, type := 0, pos := "l16_cost.go:22", after := #[], guard := none }) (v := ?_) rfl (by kernel_rfl) (by kernel_rfl) (by kernel_rfl) (fun _ _ _ h => h) (Or.inl ⟨by rfl, ?_⟩) (by assumption) ?_
            rotate_left
            · (intro w hSw; (try dsimp only at hSw); go_simp <;> try with_reducible rfl)
            try simp only [Act.put, List.setIfInBounds_toArray, List.set_cons_zero, List.set_cons_succ]
            refine wpAnyH_take (i := 1) (oi := { dst := some 35, op := Go.Op.load 24 (Go.Operand.tmp 34), type := 24, pos := "l16_cost.go:22", after := #[{ on := 0, ground := Go.Ground.data }], guard := none }) (v := ?_) rfl (by kernel_rfl) (by kernel_rfl) (by kernel_rfl) (fun _ _ _ h => h) (Or.inl ⟨by rfl, ?_⟩) (by assumption) ?_
            rotate_left
            · (intro w hSw; (try dsimp only at hSw); go_simp <;> try with_reducible rfl)
            try simp only [Act.put, List.setIfInBounds_toArray, List.set_cons_zero, List.set_cons_succ]
            refine wpAnyH_take (i := 2) (oi := { dst := some 36, op := Go.Op.move (Go.Operand.tmp 3), type := 3, pos := "l16_cost.go:22", after := #[], guard := none }) (v := ?_) rfl (by kernel_rfl) (by kernel_rfl) (by kernel_rfl) (fun _ _ _ h => h) (Or.inl ⟨by rfl, ?_⟩) (by assumption) ?_
            rotate_left
            · (intro w hSw; (try dsimp only at hSw); go_simp <;> try with_reducible rfl)
            try simp only [Act.put, List.setIfInBounds_toArray, List.set_cons_zero, List.set_cons_succ]
            refine wpAnyH_take (i := 3) (oi := { dst := some 37, op := Go.Op.indexAddr 24 (Go.Operand.tmp 35) (Go.Operand.tmp 36), type := 0, pos := "l16_cost.go:22", after := #[{ on := 1, ground := Go.Ground.data }, { on := 2, ground := Go.Ground.data }], guard := none }) (v := ?_) rfl (by kernel_rfl) (by kernel_rfl) (by kernel_rfl) (fun _ _ _ h => h) (Or.inl ⟨by rfl, ?_⟩) (by assumption) ?_
            rotate_left
            · (intro w hSw; (try dsimp only at hSw); go_simp <;> try with_reducible rfl)
            try simp only [Act.put, List.setIfInBounds_toArray, List.set_cons_zero, List.set_cons_succ]
            refine wpAnyH_take (i := 4) (oi := { dst := some 38, op := Go.Op.load 40 (Go.Operand.tmp 37), type := 40, pos := "l16_cost.go:22", after := #[{ on := 3, ground := Go.Ground.data }], guard := none }) (v := ?_) rfl (by kernel_rfl) (by kernel_rfl) (by kernel_rfl) (fun _ _ _ h => h) (Or.inl ⟨by rfl, ?_⟩) (by assumption) ?_
            rotate_left
            · (intro w hSw; (try dsimp only at hSw); go_simp <;> try with_reducible rfl)
            try simp only [Act.put, List.setIfInBounds_toArray, List.set_cons_zero, List.set_cons_succ]
            refine wpAnyH_ready (rs := [5]) (by kernel_rfl) (by simp) ?_
            refine AllReadyH.cons (o := { dst := some 39, op := Go.Op.call { callee := Go.Callee.value (Go.Operand.func 67), args := #[Go.Operand.tmp 38], argTypes := #[40] }, type := 4, pos := "l16_cost.go:22", after := #[{ on := 4, ground := Go.Ground.data }], guard := none }) rfl (fun K hK => ?_) (AllReadyH.nil)
            go_simp
            refine (l16Lay_eq ⟨x, y⟩ true _ HG.out).mono ?_
            rintro e w2 ⟨rfl, b2⟩
            have Q2 : (w2.cell? ⟨w.heap.size, 0, none⟩ = some (.int .i64 m)) ∧ (w2.cell? ⟨w.heap.size, 1, none⟩ = some (.int .i64 p)) ∧ (w2.cell? ⟨w.heap.size, 2, none⟩ = some (.slice (some ⟨kb, of, none⟩) n cap)) ∧ (w2.cell? ⟨kb, of + k * 2, none⟩ = some (.int .i64 x)) ∧ (w2.cell? ⟨kb, of + k * 2 + 1, none⟩ = some (.int .i64 y)) ∧ (CB w2 w.heap.size #[.int .i64 m, .int .i64 p, .slice (some ⟨kb, of, none⟩) n cap, .int .i64 off] 26) ∧ (Below w.heap.size w w2) := ⟨keep_cell b2 hHeld.1, keep_cell b2 hHeld.2.1, keep_cell b2 hHeld.2.2.1, keep_cell b2 hHeld.2.2.2.1, keep_cell b2 hHeld.2.2.2.2.1, hHeld.2.2.2.2.2.1.below b2 hHeld.2.2.2.2.2.1.lt, bel_on hHeld.2.2.2.2.2.2 b2⟩
            clear b2
            first | refine hK.out _ _ (by exact Q2) (fun hHeld => ?_) | (go_wp2_with fail; refine hK.out _ _ (by exact Q2) (fun hHeld => ?_))
            clear hK K
            try simp only [Act.put, List.setIfInBounds_toArray, List.set_cons_zero, List.set_cons_succ]
            refine wpAnyH_take (i := 6) (oi := { dst := some 40, op := Go.Op.unOp Go.UnOp.not 4 (Go.Operand.tmp 39), type := 4, pos := "l16_cost.go:22", after := #[{ on := 5, ground := Go.Ground.data }], guard := none }) (v := ?_) rfl (by kernel_rfl) (by kernel_rfl) (by kernel_rfl) (fun _ _ _ h => h) (Or.inl ⟨by rfl, ?_⟩) (by assumption) ?_
            rotate_left
            · (intro w hSw; (try dsimp only at hSw); go_simp <;> try with_reducible rfl)
            try simp only [Act.put, List.setIfInBounds_toArray, List.set_cons_zero, List.set_cons_succ]
            refine wpAnyH_take (i := 7) (oi := { dst := some 41, op := Go.Op.move (Go.Operand.tmp 40), type := 4, pos := "l16_cost.go:22", after := #[{ on := 6, ground := Go.Ground.data }, { on := 5, ground := Go.Ground.chain }], guard := none }) (v := ?_) rfl (by kernel_rfl) (by kernel_rfl) (by kernel_rfl) (fun _ _ _ h => h) (Or.inl ⟨by rfl, ?_⟩) (by assumption) ?_
            rotate_left
            · (intro w hSw; (try dsimp only at hSw); go_simp <;> try with_reducible rfl)
            try simp only [Act.put, List.setIfInBounds_toArray, List.set_cons_zero, List.set_cons_succ]
            refine wpAnyH_take (i := 8) (oi := { dst := some 42, op := Go.Op.fieldAddr 26 (Go.Operand.tmp 1) 0, type := 0, pos := "l16_cost.go:22", after := #[{ on := 7, ground := Go.Ground.guard }], guard := some (7, false) }) (v := ?_) rfl (by kernel_rfl) (by kernel_rfl) (by kernel_rfl) (fun _ _ _ h => h) (Or.inl ⟨by rfl, ?_⟩) (by assumption) ?_
            rotate_left
            · (intro w hSw; (try dsimp only at hSw); go_simp <;> try with_reducible rfl)
            try simp only [Act.put, List.setIfInBounds_toArray, List.set_cons_zero, List.set_cons_succ]
            refine wpAnyH_take (i := 9) (oi := { dst := some 43, op := Go.Op.load 3 (Go.Operand.tmp 42), type := 3, pos := "l16_cost.go:22", after := #[{ on := 8, ground := Go.Ground.data }, { on := 7, ground := Go.Ground.guard }], guard := some (7, false) }) (v := ?_) rfl (by kernel_rfl) (by kernel_rfl) (by kernel_rfl) (fun _ _ _ h => h) (Or.inl ⟨by rfl, ?_⟩) (by assumption) ?_
            rotate_left
            · (intro w hSw; (try dsimp only at hSw); go_simp <;> try with_reducible rfl)
            try simp only [Act.put, List.setIfInBounds_toArray, List.set_cons_zero, List.set_cons_succ]
            refine wpAnyH_take (i := 10) (oi := { dst := some 44, op := Go.Op.binOp Go.BinOp.eql 3 (Go.Operand.tmp 43) (Go.Operand.const (Go.Value.int Go.IntKind.i64 4)) 3, type := 4, pos := "l16_cost.go:22", after := #[{ on := 9, ground := Go.Ground.data }, { on := 7, ground := Go.Ground.guard }], guard := some (7, false) }) (v := ?_) rfl (by kernel_rfl) (by kernel_rfl) (by kernel_rfl) (fun _ _ _ h => h) (Or.inl ⟨by rfl, ?_⟩) (by assumption) ?_
            rotate_left
            · (intro w hSw; (try dsimp only at hSw); go_simp <;> try with_reducible rfl)
            try simp only [Act.put, List.setIfInBounds_toArray, List.set_cons_zero, List.set_cons_succ]
            refine wpAnyH_take (i := 11) (oi := { dst := some 45, op := Go.Op.move (Go.Operand.tmp 44), type := 4, pos := "l16_cost.go:22", after := #[{ on := 10, ground := Go.Ground.data }, { on := 7, ground := Go.Ground.chain }, { on := 7, ground := Go.Ground.guard }], guard := some (7, false) }) (v := ?_) rfl (by kernel_rfl) (by kernel_rfl) (by kernel_rfl) (fun _ _ _ h => h) (Or.inl ⟨by rfl, ?_⟩) (by assumption) ?_
            rotate_left
            · (intro w hSw; (try dsimp only at hSw); go_simp <;> try with_reducible rfl)
            try simp only [Act.put, List.setIfInBounds_toArray, List.set_cons_zero, List.set_cons_succ]
            refine wpAnyH_take (i := 12) (oi := { dst := some 46, op := Go.Op.fieldAddr 26 (Go.Operand.tmp 1) 2, type := 0, pos := "l16_cost.go:22", after := #[{ on := 11, ground := Go.Ground.guard }], guard := some (11, true) }) (v := ?_) rfl (by kernel_rfl) (by kernel_rfl) (by kernel_rfl) (fun _ _ _ h => h) (Or.inl ⟨by rfl, ?_⟩) (by assumption) ?_
            rotate_left
            · (intro w hSw; (try dsimp only at hSw); go_simp <;> try with_reducible rfl)
            try simp only [Act.put, List.setIfInBounds_toArray, List.set_cons_zero, List.set_cons_succ]
            refine wpAnyH_take (i := 13) (oi := { dst := some 47, op := Go.Op.load 24 (Go.Operand.tmp 46), type := 24, pos := "l16_cost.go:22", after := #[{ on := 12, ground := Go.Ground.data }, { on := 11, ground := Go.Ground.guard }], guard := some (11, true) }) (v := ?_) rfl (by kernel_rfl) (by kernel_rfl) (by kernel_rfl) (fun _ _ _ h => h) (Or.inl ⟨by rfl, ?_⟩) (by assumption) ?_
            rotate_left
            · (intro w hSw; (try dsimp only at hSw); go_simp <;> try with_reducible rfl)
            try simp only [Act.put, List.setIfInBounds_toArray, List.set_cons_zero, List.set_cons_succ]
            refine wpAnyH_take (i := 14) (oi := { dst := some 48, op := Go.Op.move (Go.Operand.tmp 3), type := 3, pos := "l16_cost.go:22", after := #[{ on := 11, ground := Go.Ground.guard }], guard := some (11, true) }) (v := ?_) rfl (by kernel_rfl) (by kernel_rfl) (by kernel_rfl) (fun _ _ _ h => h) (Or.inl ⟨by rfl, ?_⟩) (by assumption) ?_
            rotate_left
            · (intro w hSw; (try dsimp only at hSw); go_simp <;> try with_reducible rfl)
            try simp only [Act.put, List.setIfInBounds_toArray, List.set_cons_zero, List.set_cons_succ]
            refine wpAnyH_take (i := 15) (oi := { dst := some 49, op := Go.Op.indexAddr 24 (Go.Operand.tmp 47) (Go.Operand.tmp 48), type := 0, pos := "l16_cost.go:22", after := #[{ on := 13, ground := Go.Ground.data }, { on := 14, ground := Go.Ground.data }, { on := 11, ground := Go.Ground.guard }], guard := some (11, true) }) (v := ?_) rfl (by kernel_rfl) (by kernel_rfl) (by kernel_rfl) (fun _ _ _ h => h) (Or.inl ⟨by rfl, ?_⟩) (by assumption) ?_
            rotate_left
            · (intro w hSw; (try dsimp only at hSw); go_simp <;> try with_reducible rfl)
            try simp only [Act.put, List.setIfInBounds_toArray, List.set_cons_zero, List.set_cons_succ]
            refine wpAnyH_take (i := 16) (oi := { dst := some 50, op := Go.Op.fieldAddr 40 (Go.Operand.tmp 49) 1, type := 0, pos := "l16_cost.go:22", after := #[{ on := 15, ground := Go.Ground.data }, { on := 11, ground := Go.Ground.guard }], guard := some (11, true) }) (v := ?_) rfl (by kernel_rfl) (by kernel_rfl) (by kernel_rfl) (fun _ _ _ h => h) (Or.inl ⟨by rfl, ?_⟩) (by assumption) ?_
            rotate_left
            · (intro w hSw; (try dsimp only at hSw); go_simp <;> try with_reducible rfl)
            try simp only [Act.put, List.setIfInBounds_toArray, List.set_cons_zero, List.set_cons_succ]
            refine wpAnyH_take (i := 17) (oi := { dst := some 51, op := Go.Op.load 3 (Go.Operand.tmp 50), type := 3, pos := "l16_cost.go:22", after := #[{ on := 16, ground := Go.Ground.data }, { on := 11, ground := Go.Ground.guard }], guard := some (11, true) }) (v := ?_) rfl (by kernel_rfl) (by kernel_rfl) (by kernel_rfl) (fun _ _ _ h => h) (Or.inl ⟨by rfl, ?_⟩) (by assumption) ?_
            rotate_left
            · (intro w hSw; (try dsimp only at hSw); go_simp <;> try with_reducible rfl)
            try simp only [Act.put, List.setIfInBounds_toArray, List.set_cons_zero, List.set_cons_succ]
            refine wpAnyH_take (i := 18) (oi := { dst := some 52, op := Go.Op.fieldAddr 26 (Go.Operand.tmp 1) 2, type := 0, pos := "l16_cost.go:22", after := #[{ on := 11, ground := Go.Ground.guard }], guard := some (11, true) }) (v := ?_) rfl (by kernel_rfl) (by kernel_rfl) (by kernel_rfl) (fun _ _ _ h => h) (Or.inl ⟨by rfl, ?_⟩) (by assumption) ?_
            rotate_left
            · (intro w hSw; (try dsimp only at hSw); go_simp <;> try with_reducible rfl)
            try simp only [Act.put, List.setIfInBounds_toArray, List.set_cons_zero, List.set_cons_succ]
            refine wpAnyH_take (i := 19) (oi := { dst := some 53, op := Go.Op.load 24 (Go.Operand.tmp 52), type := 24, pos := "l16_cost.go:22", after := #[{ on := 18, ground := Go.Ground.data }, { on := 11, ground := Go.Ground.guard }], guard := some (11, true) }) (v := ?_) rfl (by kernel_rfl) (by kernel_rfl) (by kernel_rfl) (fun _ _ _ h => h) (Or.inl ⟨by rfl, ?_⟩) (by assumption) ?_
            rotate_left
            · (intro w hSw; (try dsimp only at hSw); go_simp <;> try with_reducible rfl)
            try simp only [Act.put, List.setIfInBounds_toArray, List.set_cons_zero, List.set_cons_succ]
            refine wpAnyH_take (i := 20) (oi := { dst := some 54, op := Go.Op.move (Go.Operand.tmp 3), type := 3, pos := "l16_cost.go:22", after := #[{ on := 11, ground := Go.Ground.guard }], guard := some (11, true) }) (v := ?_) rfl (by kernel_rfl) (by kernel_rfl) (by kernel_rfl) (fun _ _ _ h => h) (Or.inl ⟨by rfl, ?_⟩) (by assumption) ?_
            rotate_left
            · (intro w hSw; (try dsimp only at hSw); go_simp <;> try with_reducible rfl)
            try simp only [Act.put, List.setIfInBounds_toArray, List.set_cons_zero, List.set_cons_succ]
            refine wpAnyH_take (i := 21) (oi := { dst := some 55, op := Go.Op.indexAddr 24 (Go.Operand.tmp 53) (Go.Operand.tmp 54), type := 0, pos := "l16_cost.go:22", after := #[{ on := 19, ground := Go.Ground.data }, { on := 20, ground := Go.Ground.data }, { on := 11, ground := Go.Ground.guard }], guard := some (11, true) }) (v := ?_) rfl (by kernel_rfl) (by kernel_rfl) (by kernel_rfl) (fun _ _ _ h => h) (Or.inl ⟨by rfl, ?_⟩) (by assumption) ?_
            rotate_left
            · (intro w hSw; (try dsimp only at hSw); go_simp <;> try with_reducible rfl)
            try simp only [Act.put, List.setIfInBounds_toArray, List.set_cons_zero, List.set_cons_succ]
            refine wpAnyH_take (i := 22) (oi := { dst := some 56, op := Go.Op.fieldAddr 40 (Go.Operand.tmp 55) 0, type := 0, pos := "l16_cost.go:22", after := #[{ on := 21, ground := Go.Ground.data }, { on := 11, ground := Go.Ground.guard }], guard := some (11, true) }) (v := ?_) rfl (by kernel_rfl) (by kernel_rfl) (by kernel_rfl) (fun _ _ _ h => h) (Or.inl ⟨by rfl, ?_⟩) (by assumption) ?_
            rotate_left
            · (intro w hSw; (try dsimp only at hSw); go_simp <;> try with_reducible rfl)
            try simp only [Act.put, List.setIfInBounds_toArray, List.set_cons_zero, List.set_cons_succ]
            refine wpAnyH_take (i := 23) (oi := { dst := some 57, op := Go.Op.load 3 (Go.Operand.tmp 56), type := 3, pos := "l16_cost.go:22", after := #[{ on := 22, ground := Go.Ground.data }, { on := 11, ground := Go.Ground.guard }], guard := some (11, true) }) (v := ?_) rfl (by kernel_rfl) (by kernel_rfl) (by kernel_rfl) (fun _ _ _ h => h) (Or.inl ⟨by rfl, ?_⟩) (by assumption) ?_
            rotate_left
            · (intro w hSw; (try dsimp only at hSw); go_simp <;> try with_reducible rfl)
            try simp only [Act.put, List.setIfInBounds_toArray, List.set_cons_zero, List.set_cons_succ]
            refine wpAnyH_take (i := 24) (oi := { dst := some 58, op := Go.Op.fieldAddr 26 (Go.Operand.tmp 1) 1, type := 0, pos := "l16_cost.go:22", after := #[{ on := 11, ground := Go.Ground.guard }], guard := some (11, true) }) (v := ?_) rfl (by kernel_rfl) (by kernel_rfl) (by kernel_rfl) (fun _ _ _ h => h) (Or.inl ⟨by rfl, ?_⟩) (by assumption) ?_
            rotate_left
            · (intro w hSw; (try dsimp only at hSw); go_simp <;> try with_reducible rfl)
            try simp only [Act.put, List.setIfInBounds_toArray, List.set_cons_zero, List.set_cons_succ]
            refine wpAnyH_take (i := 25) (oi := { dst := some 59, op := Go.Op.load 3 (Go.Operand.tmp 58), type := 3, pos := "l16_cost.go:22", after := #[{ on := 24, ground := Go.Ground.data }, { on := 11, ground := Go.Ground.guard }], guard := some (11, true) }) (v := ?_) rfl (by kernel_rfl) (by kernel_rfl) (by kernel_rfl) (fun _ _ _ h => h) (Or.inl ⟨by rfl, ?_⟩) (by assumption) ?_
            rotate_left
            · (intro w hSw; (try dsimp only at hSw); go_simp <;> try with_reducible rfl)
            try simp only [Act.put, List.setIfInBounds_toArray, List.set_cons_zero, List.set_cons_succ]
            refine wpAnyH_take (i := 26) (oi := { dst := some 60, op := Go.Op.binOp Go.BinOp.mul 3 (Go.Operand.tmp 57) (Go.Operand.tmp 59) 3, type := 3, pos := "l16_cost.go:22", after := #[{ on := 23, ground := Go.Ground.data }, { on := 25, ground := Go.Ground.data }, { on := 11, ground := Go.Ground.guard }], guard := some (11, true) }) (v := ?_) rfl (by kernel_rfl) (by kernel_rfl) (by kernel_rfl) (fun _ _ _ h => h) (Or.inl ⟨by rfl, ?_⟩) (by assumption) ?_
            rotate_left
            · (intro w hSw; (try dsimp only at hSw); go_simp <;> try with_reducible rfl)
            try simp only [Act.put, List.setIfInBounds_toArray, List.set_cons_zero, List.set_cons_succ]
            refine wpAnyH_take (i := 27) (oi := { dst := some 61, op := Go.Op.binOp Go.BinOp.neq 3 (Go.Operand.tmp 51) (Go.Operand.tmp 60) 3, type := 4, pos := "l16_cost.go:22", after := #[{ on := 17, ground := Go.Ground.data }, { on := 26, ground := Go.Ground.data }, { on := 11, ground := Go.Ground.guard }], guard := some (11, true) }) (v := ?_) rfl (by kernel_rfl) (by kernel_rfl) (by kernel_rfl) (fun _ _ _ h => h) (Or.inl ⟨by rfl, ?_⟩) (by assumption) ?_
            rotate_left
            · (intro w hSw; (try dsimp only at hSw); go_simp <;> try with_reducible rfl)
            try simp only [Act.put, List.setIfInBounds_toArray, List.set_cons_zero, List.set_cons_succ]
            refine wpAnyH_take (i := 28) (oi := { dst := some 62, op := Go.Op.pick (Go.Operand.tmp 45) (Go.Operand.tmp 61) (Go.Operand.const (Go.Value.bool false)), type := 4, pos := "l16_cost.go:22", after := #[{ on := 11, ground := Go.Ground.data }, { on := 27, ground := Go.Ground.data }, { on := 7, ground := Go.Ground.guard }], guard := some (7, false) }) (v := ?_) rfl (by kernel_rfl) (by kernel_rfl) (by kernel_rfl) (fun _ _ _ h => h) (Or.inl ⟨by rfl, ?_⟩) (by assumption) ?_
            rotate_left
            · (intro w hSw; (try dsimp only at hSw); go_simp <;> try with_reducible rfl)
            try simp only [Act.put, List.setIfInBounds_toArray, List.set_cons_zero, List.set_cons_succ]
            refine wpAnyH_take (i := 29) (oi := { dst := some 63, op := Go.Op.pick (Go.Operand.tmp 41) (Go.Operand.const (Go.Value.bool true)) (Go.Operand.tmp 62), type := 4, pos := "l16_cost.go:22", after := #[{ on := 7, ground := Go.Ground.data }, { on := 28, ground := Go.Ground.data }], guard := none }) (v := ?_) rfl (by kernel_rfl) (by kernel_rfl) (by kernel_rfl) (fun _ _ _ h => h) (Or.inl ⟨by rfl, ?_⟩) (by assumption) ?_
            rotate_left
            · (intro w hSw; (try dsimp only at hSw); go_simp <;> try with_reducible rfl)
            try simp only [Act.put, List.setIfInBounds_toArray, List.set_cons_zero, List.set_cons_succ]
            refine wpAnyH_done (by kernel_rfl) ?_ _
            refine NoPanic.normal ?_
            clear hHeld
            obtain ⟨y0, y1, y2, _, _, yC, yB⟩ := Q2
            have HC2 := hid yC
            have HB2 := hid yB
            clear yC yB
            go_wp2
            go_roundw
            case rel => exact ⟨k + 1, by omega, by go_num, HN.out, HC2.out, HB2.out⟩
            case measure => simp [intOf]; omega
          · obtain rfl : v = false := by rw [← HV.out]; exact LyP.bad hlt HX.out h4 (by rw [hR]; exact hne)
            have h4' : (m == 4) = true := by simp [h4]
            clear h4
            go_wp2
            refine wp_region_noPanic ?_
            refine wp_region_held_drew (S := fun w' => (w'.cell? ⟨w.heap.size, 0, none⟩ = some (.int .i64 m)) ∧ (w'.cell? ⟨w.heap.size, 1, none⟩ = some (.int .i64 p)) ∧ (w'.cell? ⟨w.heap.size, 2, none⟩ = some (.slice (some ⟨kb, of, none⟩) n cap)) ∧ (w'.cell? ⟨kb, of + k * 2, none⟩ = some (.int .i64 x)) ∧ (w'.cell? ⟨kb, of + k * 2 + 1, none⟩ = some (.int .i64 y)) ∧ (CB w' w.heap.size #[.int .i64 m, .int .i64 p, .slice (some ⟨kb, of, none⟩) n cap, .int .i64 off] 26) ∧ (Below w.heap.size w w')) (by kernel_rfl) (by exact ⟨e0, e1, e2, c0, c1, HC.out, HB.out.drew⟩) (fun hHeld => ?_)
            refine wpAnyH_take (i := 0) (oi := { dst := some 34, op := Go.Op.fieldAddr 26 (Go.Operand.tmp 1) 2, type := 0, pos := "l16_cost.go:22", after := #[], guard := none }) (v := ?_) rfl (by kernel_rfl) (by kernel_rfl) (by kernel_rfl) (fun _ _ _ h => h) (Or.inl ⟨by rfl, ?_⟩) (by assumption) ?_
            rotate_left
            · (intro w hSw; (try dsimp only at hSw); go_simp <;> try with_reducible rfl)
            try simp only [Act.put, List.setIfInBounds_toArray, List.set_cons_zero, List.set_cons_succ]
            refine wpAnyH_take (i := 1) (oi := { dst := some 35, op := Go.Op.load 24 (Go.Operand.tmp 34), type := 24, pos := "l16_cost.go:22", after := #[{ on := 0, ground := Go.Ground.data }], guard := none }) (v := ?_) rfl (by kernel_rfl) (by kernel_rfl) (by kernel_rfl) (fun _ _ _ h => h) (Or.inl ⟨by rfl, ?_⟩) (by assumption) ?_
            rotate_left
            · (intro w hSw; (try dsimp only at hSw); go_simp <;> try with_reducible rfl)
            try simp only [Act.put, List.setIfInBounds_toArray, List.set_cons_zero, List.set_cons_succ]
            refine wpAnyH_take (i := 2) (oi := { dst := some 36, op := Go.Op.move (Go.Operand.tmp 3), type := 3, pos := "l16_cost.go:22", after := #[], guard := none }) (v := ?_) rfl (by kernel_rfl) (by kernel_rfl) (by kernel_rfl) (fun _ _ _ h => h) (Or.inl ⟨by rfl, ?_⟩) (by assumption) ?_
            rotate_left
            · (intro w hSw; (try dsimp only at hSw); go_simp <;> try with_reducible rfl)
            try simp only [Act.put, List.setIfInBounds_toArray, List.set_cons_zero, List.set_cons_succ]
            refine wpAnyH_take (i := 3) (oi := { dst := some 37, op := Go.Op.indexAddr 24 (Go.Operand.tmp 35) (Go.Operand.tmp 36), type := 0, pos := "l16_cost.go:22", after := #[{ on := 1, ground := Go.Ground.data }, { on := 2, ground := Go.Ground.data }], guard := none }) (v := ?_) rfl (by kernel_rfl) (by kernel_rfl) (by kernel_rfl) (fun _ _ _ h => h) (Or.inl ⟨by rfl, ?_⟩) (by assumption) ?_
            rotate_left
            · (intro w hSw; (try dsimp only at hSw); go_simp <;> try with_reducible rfl)
            try simp only [Act.put, List.setIfInBounds_toArray, List.set_cons_zero, List.set_cons_succ]
            refine wpAnyH_take (i := 4) (oi := { dst := some 38, op := Go.Op.load 40 (Go.Operand.tmp 37), type := 40, pos := "l16_cost.go:22", after := #[{ on := 3, ground := Go.Ground.data }], guard := none }) (v := ?_) rfl (by kernel_rfl) (by kernel_rfl) (by kernel_rfl) (fun _ _ _ h => h) (Or.inl ⟨by rfl, ?_⟩) (by assumption) ?_
            rotate_left
            · (intro w hSw; (try dsimp only at hSw); go_simp <;> try with_reducible rfl)
            try simp only [Act.put, List.setIfInBounds_toArray, List.set_cons_zero, List.set_cons_succ]
            refine wpAnyH_ready (rs := [5]) (by kernel_rfl) (by simp) ?_
            refine AllReadyH.cons (o := { dst := some 39, op := Go.Op.call { callee := Go.Callee.value (Go.Operand.func 67), args := #[Go.Operand.tmp 38], argTypes := #[40] }, type := 4, pos := "l16_cost.go:22", after := #[{ on := 4, ground := Go.Ground.data }], guard := none }) rfl (fun K hK => ?_) (AllReadyH.nil)
            go_simp
            refine (l16Lay_eq ⟨x, y⟩ true _ HG.out).mono ?_
            rintro e w2 ⟨rfl, b2⟩
            have Q2 : (w2.cell? ⟨w.heap.size, 0, none⟩ = some (.int .i64 m)) ∧ (w2.cell? ⟨w.heap.size, 1, none⟩ = some (.int .i64 p)) ∧ (w2.cell? ⟨w.heap.size, 2, none⟩ = some (.slice (some ⟨kb, of, none⟩) n cap)) ∧ (w2.cell? ⟨kb, of + k * 2, none⟩ = some (.int .i64 x)) ∧ (w2.cell? ⟨kb, of + k * 2 + 1, none⟩ = some (.int .i64 y)) ∧ (CB w2 w.heap.size #[.int .i64 m, .int .i64 p, .slice (some ⟨kb, of, none⟩) n cap, .int .i64 off] 26) ∧ (Below w.heap.size w w2) := ⟨keep_cell b2 hHeld.1, keep_cell b2 hHeld.2.1, keep_cell b2 hHeld.2.2.1, keep_cell b2 hHeld.2.2.2.1, keep_cell b2 hHeld.2.2.2.2.1, hHeld.2.2.2.2.2.1.below b2 hHeld.2.2.2.2.2.1.lt, bel_on hHeld.2.2.2.2.2.2 b2⟩
            clear b2
            first | refine hK.out _ _ (by exact Q2) (fun hHeld => ?_) | (go_wp2_with fail; refine hK.out _ _ (by exact Q2) (fun hHeld => ?_))
            clear hK K
            try simp only [Act.put, List.setIfInBounds_toArray, List.set_cons_zero, List.set_cons_succ]
            refine wpAnyH_take (i := 6) (oi := { dst := some 40, op := Go.Op.unOp Go.UnOp.not 4 (Go.Operand.tmp 39), type := 4, pos := "l16_cost.go:22", after := #[{ on := 5, ground := Go.Ground.data }], guard := none }) (v := ?_) rfl (by kernel_rfl) (by kernel_rfl) (by kernel_rfl) (fun _ _ _ h => h) (Or.inl ⟨by rfl, ?_⟩) (by assumption) ?_
            rotate_left
            · (intro w hSw; (try dsimp only at hSw); go_simp <;> try with_reducible rfl)
            try simp only [Act.put, List.setIfInBounds_toArray, List.set_cons_zero, List.set_cons_succ]
            refine wpAnyH_take (i := 7) (oi := { dst := some 41, op := Go.Op.move (Go.Operand.tmp 40), type := 4, pos := "l16_cost.go:22", after := #[{ on := 6, ground := Go.Ground.data }, { on := 5, ground := Go.Ground.chain }], guard := none }) (v := ?_) rfl (by kernel_rfl) (by kernel_rfl) (by kernel_rfl) (fun _ _ _ h => h) (Or.inl ⟨by rfl, ?_⟩) (by assumption) ?_
            rotate_left
            · (intro w hSw; (try dsimp only at hSw); go_simp <;> try with_reducible rfl)
            try simp only [Act.put, List.setIfInBounds_toArray, List.set_cons_zero, List.set_cons_succ]
            refine wpAnyH_take (i := 8) (oi := { dst := some 42, op := Go.Op.fieldAddr 26 (Go.Operand.tmp 1) 0, type := 0, pos := "l16_cost.go:22", after := #[{ on := 7, ground := Go.Ground.guard }], guard := some (7, false) }) (v := ?_) rfl (by kernel_rfl) (by kernel_rfl) (by kernel_rfl) (fun _ _ _ h => h) (Or.inl ⟨by rfl, ?_⟩) (by assumption) ?_
            rotate_left
            · (intro w hSw; (try dsimp only at hSw); go_simp <;> try with_reducible rfl)
            try simp only [Act.put, List.setIfInBounds_toArray, List.set_cons_zero, List.set_cons_succ]
            refine wpAnyH_take (i := 9) (oi := { dst := some 43, op := Go.Op.load 3 (Go.Operand.tmp 42), type := 3, pos := "l16_cost.go:22", after := #[{ on := 8, ground := Go.Ground.data }, { on := 7, ground := Go.Ground.guard }], guard := some (7, false) }) (v := ?_) rfl (by kernel_rfl) (by kernel_rfl) (by kernel_rfl) (fun _ _ _ h => h) (Or.inl ⟨by rfl, ?_⟩) (by assumption) ?_
            rotate_left
            · (intro w hSw; (try dsimp only at hSw); go_simp <;> try with_reducible rfl)
            try simp only [Act.put, List.setIfInBounds_toArray, List.set_cons_zero, List.set_cons_succ]
            refine wpAnyH_take (i := 10) (oi := { dst := some 44, op := Go.Op.binOp Go.BinOp.eql 3 (Go.Operand.tmp 43) (Go.Operand.const (Go.Value.int Go.IntKind.i64 4)) 3, type := 4, pos := "l16_cost.go:22", after := #[{ on := 9, ground := Go.Ground.data }, { on := 7, ground := Go.Ground.guard }], guard := some (7, false) }) (v := ?_) rfl (by kernel_rfl) (by kernel_rfl) (by kernel_rfl) (fun _ _ _ h => h) (Or.inl ⟨by rfl, ?_⟩) (by assumption) ?_
            rotate_left
            · (intro w hSw; (try dsimp only at hSw); go_simp <;> try with_reducible rfl)
            try simp only [Act.put, List.setIfInBounds_toArray, List.set_cons_zero, List.set_cons_succ]
            refine wpAnyH_take (i := 11) (oi := { dst := some 45, op := Go.Op.move (Go.Operand.tmp 44), type := 4, pos := "l16_cost.go:22", after := #[{ on := 10, ground := Go.Ground.data }, { on := 7, ground := Go.Ground.chain }, { on := 7, ground := Go.Ground.guard }], guard := some (7, false) }) (v := ?_) rfl (by kernel_rfl) (by kernel_rfl) (by kernel_rfl) (fun _ _ _ h => h) (Or.inl ⟨by rfl, ?_⟩) (by assumption) ?_
            rotate_left
            · (intro w hSw; (try dsimp only at hSw); go_simp <;> try with_reducible rfl)
            try simp only [Act.put, List.setIfInBounds_toArray, List.set_cons_zero, List.set_cons_succ]
            refine wpAnyH_take (i := 12) (oi := { dst := some 46, op := Go.Op.fieldAddr 26 (Go.Operand.tmp 1) 2, type := 0, pos := "l16_cost.go:22", after := #[{ on := 11, ground := Go.Ground.guard }], guard := some (11, true) }) (v := ?_) rfl (by kernel_rfl) (by kernel_rfl) (by kernel_rfl) (fun _ _ _ h => h) (Or.inl ⟨by rfl, ?_⟩) (by assumption) ?_
            rotate_left
            · (intro w hSw; (try dsimp only at hSw); go_simp <;> try with_reducible rfl)
            try simp only [Act.put, List.setIfInBounds_toArray, List.set_cons_zero, List.set_cons_succ]
            refine wpAnyH_take (i := 13) (oi := { dst := some 47, op := Go.Op.load 24 (Go.Operand.tmp 46), type := 24, pos := "l16_cost.go:22", after := #[{ on := 12, ground := Go.Ground.data }, { on := 11, ground := Go.Ground.guard }], guard := some (11, true) }) (v := ?_) rfl (by kernel_rfl) (by kernel_rfl) (by kernel_rfl) (fun _ _ _ h => h) (Or.inl ⟨by rfl, ?_⟩) (by assumption) ?_
            rotate_left
            · (intro w hSw; (try dsimp only at hSw); go_simp <;> try with_reducible rfl)
            try simp only [Act.put, List.setIfInBounds_toArray, List.set_cons_zero, List.set_cons_succ]
            refine wpAnyH_take (i := 14) (oi := { dst := some 48, op := Go.Op.move (Go.Operand.tmp 3), type := 3, pos := "l16_cost.go:22", after := #[{ on := 11, ground := Go.Ground.guard }], guard := some (11, true) }) (v := ?_) rfl (by kernel_rfl) (by kernel_rfl) (by kernel_rfl) (fun _ _ _ h => h) (Or.inl ⟨by rfl, ?_⟩) (by assumption) ?_
            rotate_left
            · (intro w hSw; (try dsimp only at hSw); go_simp <;> try with_reducible rfl)
            try simp only [Act.put, List.setIfInBounds_toArray, List.set_cons_zero, List.set_cons_succ]
            refine wpAnyH_take (i := 15) (oi := { dst := some 49, op := Go.Op.indexAddr 24 (Go.Operand.tmp 47) (Go.Operand.tmp 48), type := 0, pos := "l16_cost.go:22", after := #[{ on := 13, ground := Go.Ground.data }, { on := 14, ground := Go.Ground.data }, { on := 11, ground := Go.Ground.guard }], guard := some (11, true) }) (v := ?_) rfl (by kernel_rfl) (by kernel_rfl) (by kernel_rfl) (fun _ _ _ h => h) (Or.inl ⟨by rfl, ?_⟩) (by assumption) ?_
            rotate_left
            · (intro w hSw; (try dsimp only at hSw); go_simp <;> try with_reducible rfl)
            try simp only [Act.put, List.setIfInBounds_toArray, List.set_cons_zero, List.set_cons_succ]
            refine wpAnyH_take (i := 16) (oi := { dst := some 50, op := Go.Op.fieldAddr 40 (Go.Operand.tmp 49) 1, type := 0, pos := "l16_cost.go:22", after := #[{ on := 15, ground := Go.Ground.data }, { on := 11, ground := Go.Ground.guard }], guard := some (11, true) }) (v := ?_) rfl (by kernel_rfl) (by kernel_rfl) (by kernel_rfl) (fun _ _ _ h => h) (Or.inl ⟨by rfl, ?_⟩) (by assumption) ?_
            rotate_left
            · (intro w hSw; (try dsimp only at hSw); go_simp <;> try with_reducible rfl)
            try simp only [Act.put, List.setIfInBounds_toArray, List.set_cons_zero, List.set_cons_succ]
            refine wpAnyH_take (i := 17) (oi := { dst := some 51, op := Go.Op.load 3 (Go.Operand.tmp 50), type := 3, pos := "l16_cost.go:22", after := #[{ on := 16, ground := Go.Ground.data }, { on := 11, ground := Go.Ground.guard }], guard := some (11, true) }) (v := ?_) rfl (by kernel_rfl) (by kernel_rfl) (by kernel_rfl) (fun _ _ _ h => h) (Or.inl ⟨by rfl, ?_⟩) (by assumption) ?_
            rotate_left
            · (intro w hSw; (try dsimp only at hSw); go_simp <;> try with_reducible rfl)
            try simp only [Act.put, List.setIfInBounds_toArray, List.set_cons_zero, List.set_cons_succ]
            refine wpAnyH_take (i := 18) (oi := { dst := some 52, op := Go.Op.fieldAddr 26 (Go.Operand.tmp 1) 2, type := 0, pos := "l16_cost.go:22", after := #[{ on := 11, ground := Go.Ground.guard }], guard := some (11, true) }) (v := ?_) rfl (by kernel_rfl) (by kernel_rfl) (by kernel_rfl) (fun _ _ _ h => h) (Or.inl ⟨by rfl, ?_⟩) (by assumption) ?_
            rotate_left
            · (intro w hSw; (try dsimp only at hSw); go_simp <;> try with_reducible rfl)
            try simp only [Act.put, List.setIfInBounds_toArray, List.set_cons_zero, List.set_cons_succ]
            refine wpAnyH_take (i := 19) (oi := { dst := some 53, op := Go.Op.load 24 (Go.Operand.tmp 52), type := 24, pos := "l16_cost.go:22", after := #[{ on := 18, ground := Go.Ground.data }, { on := 11, ground := Go.Ground.guard }], guard := some (11, true) }) (v := ?_) rfl (by kernel_rfl) (by kernel_rfl) (by kernel_rfl) (fun _ _ _ h => h) (Or.inl ⟨by rfl, ?_⟩) (by assumption) ?_
            rotate_left
            · (intro w hSw; (try dsimp only at hSw); go_simp <;> try with_reducible rfl)
            try simp only [Act.put, List.setIfInBounds_toArray, List.set_cons_zero, List.set_cons_succ]
            refine wpAnyH_take (i := 20) (oi := { dst := some 54, op := Go.Op.move (Go.Operand.tmp 3), type := 3, pos := "l16_cost.go:22", after := #[{ on := 11, ground := Go.Ground.guard }], guard := some (11, true) }) (v := ?_) rfl (by kernel_rfl) (by kernel_rfl) (by kernel_rfl) (fun _ _ _ h => h) (Or.inl ⟨by rfl, ?_⟩) (by assumption) ?_
            rotate_left
            · (intro w hSw; (try dsimp only at hSw); go_simp <;> try with_reducible rfl)
            try simp only [Act.put, List.setIfInBounds_toArray, List.set_cons_zero, List.set_cons_succ]
            refine wpAnyH_take (i := 21) (oi := { dst := some 55, op := Go.Op.indexAddr 24 (Go.Operand.tmp 53) (Go.Operand.tmp 54), type := 0, pos := "l16_cost.go:22", after := #[{ on := 19, ground := Go.Ground.data }, { on := 20, ground := Go.Ground.data }, { on := 11, ground := Go.Ground.guard }], guard := some (11, true) }) (v := ?_) rfl (by kernel_rfl) (by kernel_rfl) (by kernel_rfl) (fun _ _ _ h => h) (Or.inl ⟨by rfl, ?_⟩) (by assumption) ?_
            rotate_left
            · (intro w hSw; (try dsimp only at hSw); go_simp <;> try with_reducible rfl)
            try simp only [Act.put, List.setIfInBounds_toArray, List.set_cons_zero, List.set_cons_succ]
            refine wpAnyH_take (i := 22) (oi := { dst := some 56, op := Go.Op.fieldAddr 40 (Go.Operand.tmp 55) 0, type := 0, pos := "l16_cost.go:22", after := #[{ on := 21, ground := Go.Ground.data }, { on := 11, ground := Go.Ground.guard }], guard := some (11, true) }) (v := ?_) rfl (by kernel_rfl) (by kernel_rfl) (by kernel_rfl) (fun _ _ _ h => h) (Or.inl ⟨by rfl, ?_⟩) (by assumption) ?_
            rotate_left
            · (intro w hSw; (try dsimp only at hSw); go_simp <;> try with_reducible rfl)
            try simp only [Act.put, List.setIfInBounds_toArray, List.set_cons_zero, List.set_cons_succ]
            refine wpAnyH_take (i := 23) (oi := { dst := some 57, op := Go.Op.load 3 (Go.Operand.tmp 56), type := 3, pos := "l16_cost.go:22", after := #[{ on := 22, ground := Go.Ground.data }, { on := 11, ground := Go.Ground.guard }], guard := some (11, true) }) (v := ?_) rfl (by kernel_rfl) (by kernel_rfl) (by kernel_rfl) (fun _ _ _ h => h) (Or.inl ⟨by rfl, ?_⟩) (by assumption) ?_
            rotate_left
            · (intro w hSw; (try dsimp only at hSw); go_simp <;> try with_reducible rfl)
            try simp only [Act.put, List.setIfInBounds_toArray, List.set_cons_zero, List.set_cons_succ]
            refine wpAnyH_take (i := 24) (oi := { dst := some 58, op := Go.Op.fieldAddr 26 (Go.Operand.tmp 1) 1, type := 0, pos := "l16_cost.go:22", after := #[{ on := 11, ground := Go.Ground.guard }], guard := some (11, true) }) (v := ?_) rfl (by kernel_rfl) (by kernel_rfl) (by kernel_rfl) (fun _ _ _ h => h) (Or.inl ⟨by rfl, ?_⟩) (by assumption) ?_
            rotate_left
            · (intro w hSw; (try dsimp only at hSw); go_simp <;> try with_reducible rfl)
            try simp only [Act.put, List.setIfInBounds_toArray, List.set_cons_zero, List.set_cons_succ]
            refine wpAnyH_take (i := 25) (oi := { dst := some 59, op := Go.Op.load 3 (Go.Operand.tmp 58), type := 3, pos := "l16_cost.go:22", after := #[{ on := 24, ground := Go.Ground.data }, { on := 11, ground := Go.Ground.guard }], guard := some (11, true) }) (v := ?_) rfl (by kernel_rfl) (by kernel_rfl) (by kernel_rfl) (fun _ _ _ h => h) (Or.inl ⟨by rfl, ?_⟩) (by assumption) ?_
            rotate_left
            · (intro w hSw; (try dsimp only at hSw); go_simp <;> try with_reducible rfl)
            try simp only [Act.put, List.setIfInBounds_toArray, List.set_cons_zero, List.set_cons_succ]
            refine wpAnyH_take (i := 26) (oi := { dst := some 60, op := Go.Op.binOp Go.BinOp.mul 3 (Go.Operand.tmp 57) (Go.Operand.tmp 59) 3, type := 3, pos := "l16_cost.go:22", after := #[{ on := 23, ground := Go.Ground.data }, { on := 25, ground := Go.Ground.data }, { on := 11, ground := Go.Ground.guard }], guard := some (11, true) }) (v := ?_) rfl (by kernel_rfl) (by kernel_rfl) (by kernel_rfl) (fun _ _ _ h => h) (Or.inl ⟨by rfl, ?_⟩) (by assumption) ?_
            rotate_left
            · (intro w hSw; (try dsimp only at hSw); go_simp <;> try with_reducible rfl)
            try simp only [Act.put, List.setIfInBounds_toArray, List.set_cons_zero, List.set_cons_succ]
            refine wpAnyH_take (i := 27) (oi := { dst := some 61, op := Go.Op.binOp Go.BinOp.neq 3 (Go.Operand.tmp 51) (Go.Operand.tmp 60) 3, type := 4, pos := "l16_cost.go:22", after := #[{ on := 17, ground := Go.Ground.data }, { on := 26, ground := Go.Ground.data }, { on := 11, ground := Go.Ground.guard }], guard := some (11, true) }) (v := ?_) rfl (by kernel_rfl) (by kernel_rfl) (by kernel_rfl) (fun _ _ _ h => h) (Or.inl ⟨by rfl, ?_⟩) (by assumption) ?_
            rotate_left
            · (intro w hSw; (try dsimp only at hSw); go_simp <;> try with_reducible rfl)
            try simp only [Act.put, List.setIfInBounds_toArray, List.set_cons_zero, List.set_cons_succ]
            refine wpAnyH_take (i := 28) (oi := { dst := some 62, op := Go.Op.pick (Go.Operand.tmp 45) (Go.Operand.tmp 61) (Go.Operand.const (Go.Value.bool false)), type := 4, pos := "l16_cost.go:22", after := #[{ on := 11, ground := Go.Ground.data }, { on := 27, ground := Go.Ground.data }, { on := 7, ground := Go.Ground.guard }], guard := some (7, false) }) (v := ?_) rfl (by kernel_rfl) (by kernel_rfl) (by kernel_rfl) (fun _ _ _ h => h) (Or.inl ⟨by rfl, ?_⟩) (by assumption) ?_
            rotate_left
            · (intro w hSw; (try dsimp only at hSw); go_simp <;> try with_reducible rfl)
            try simp only [Act.put, List.setIfInBounds_toArray, List.set_cons_zero, List.set_cons_succ]
            refine wpAnyH_take (i := 29) (oi := { dst := some 63, op := Go.Op.pick (Go.Operand.tmp 41) (Go.Operand.const (Go.Value.bool true)) (Go.Operand.tmp 62), type := 4, pos := "l16_cost.go:22", after := #[{ on := 7, ground := Go.Ground.data }, { on := 28, ground := Go.Ground.data }], guard := none }) (v := ?_) rfl (by kernel_rfl) (by kernel_rfl) (by kernel_rfl) (fun _ _ _ h => h) (Or.inl ⟨by rfl, ?_⟩) (by assumption) ?_
            rotate_left
            · (intro w hSw; (try dsimp only at hSw); go_simp <;> try with_reducible rfl)
            try simp only [Act.put, List.setIfInBounds_toArray, List.set_cons_zero, List.set_cons_succ]
            refine wpAnyH_done (by kernel_rfl) ?_ _
            refine NoPanic.normal ?_
            clear hHeld
            obtain ⟨y0, y1, y2, _, _, yC, yB⟩ := Q2
            have HC2 := hid yC
            have HB2 := hid yB
            clear yC yB
            go_wp2
            go_returns
            exact ⟨rfl, HB2.out⟩
        · have HN : Hid (LyP m p c (k + 1)) := hid ⟨fun j hj => by by_cases e : j = k; (subst e; rw [HX.out]; exact HG.out); (exact HL0.out.1 j (by omega)), fun e => absurd e h4⟩
          have h4' : (m == 4) = false := by simpa using h4
          clear h4
          go_wp2
          refine wp_region_noPanic ?_
          refine wp_region_held_drew (S := fun w' => (w'.cell? ⟨w.heap.size, 0, none⟩ = some (.int .i64 m)) ∧ (w'.cell? ⟨w.heap.size, 1, none⟩ = some (.int .i64 p)) ∧ (w'.cell? ⟨w.heap.size, 2, none⟩ = some (.slice (some ⟨kb, of, none⟩) n cap)) ∧ (w'.cell? ⟨kb, of + k * 2, none⟩ = some (.int .i64 x)) ∧ (w'.cell? ⟨kb, of + k * 2 + 1, none⟩ = some (.int .i64 y)) ∧ (CB w' w.heap.size #[.int .i64 m, .int .i64 p, .slice (some ⟨kb, of, none⟩) n cap, .int .i64 off] 26) ∧ (Below w.heap.size w w')) (by kernel_rfl) (by exact ⟨e0, e1, e2, c0, c1, HC.out, HB.out.drew⟩) (fun hHeld => ?_)
          refine wpAnyH_take (i := 0) (oi := { dst := some 34, op := Go.Op.fieldAddr 26 (Go.Operand.tmp 1) 2, type := 0, pos := "l16_cost.go:22", after := #[], guard := none }) (v := ?_) rfl (by kernel_rfl) (by kernel_rfl) (by kernel_rfl) (fun _ _ _ h => h) (Or.inl ⟨by rfl, ?_⟩) (by assumption) ?_
          rotate_left
          · (intro w hSw; (try dsimp only at hSw); go_simp <;> try with_reducible rfl)
          try simp only [Act.put, List.setIfInBounds_toArray, List.set_cons_zero, List.set_cons_succ]
          refine wpAnyH_take (i := 1) (oi := { dst := some 35, op := Go.Op.load 24 (Go.Operand.tmp 34), type := 24, pos := "l16_cost.go:22", after := #[{ on := 0, ground := Go.Ground.data }], guard := none }) (v := ?_) rfl (by kernel_rfl) (by kernel_rfl) (by kernel_rfl) (fun _ _ _ h => h) (Or.inl ⟨by rfl, ?_⟩) (by assumption) ?_
          rotate_left
          · (intro w hSw; (try dsimp only at hSw); go_simp <;> try with_reducible rfl)
          try simp only [Act.put, List.setIfInBounds_toArray, List.set_cons_zero, List.set_cons_succ]
          refine wpAnyH_take (i := 2) (oi := { dst := some 36, op := Go.Op.move (Go.Operand.tmp 3), type := 3, pos := "l16_cost.go:22", after := #[], guard := none }) (v := ?_) rfl (by kernel_rfl) (by kernel_rfl) (by kernel_rfl) (fun _ _ _ h => h) (Or.inl ⟨by rfl, ?_⟩) (by assumption) ?_
          rotate_left
          · (intro w hSw; (try dsimp only at hSw); go_simp <;> try with_reducible rfl)
          try simp only [Act.put, List.setIfInBounds_toArray, List.set_cons_zero, List.set_cons_succ]
          refine wpAnyH_take (i := 3) (oi := { dst := some 37, op := Go.Op.indexAddr 24 (Go.Operand.tmp 35) (Go.Operand.tmp 36), type := 0, pos := "l16_cost.go:22", after := #[{ on := 1, ground := Go.Ground.data }, { on := 2, ground := Go.Ground.data }], guard := none }) (v := ?_) rfl (by kernel_rfl) (by kernel_rfl) (by kernel_rfl) (fun _ _ _ h => h) (Or.inl ⟨by rfl, ?_⟩) (by assumption) ?_
          rotate_left
          · (intro w hSw; (try dsimp only at hSw); go_simp <;> try with_reducible rfl)
          try simp only [Act.put, List.setIfInBounds_toArray, List.set_cons_zero, List.set_cons_succ]
          refine wpAnyH_take (i := 4) (oi := { dst := some 38, op := Go.Op.load 40 (Go.Operand.tmp 37), type := 40, pos := "l16_cost.go:22", after := #[{ on := 3, ground := Go.Ground.data }], guard := none }) (v := ?_) rfl (by kernel_rfl) (by kernel_rfl) (by kernel_rfl) (fun _ _ _ h => h) (Or.inl ⟨by rfl, ?_⟩) (by assumption) ?_
          rotate_left
          · (intro w hSw; (try dsimp only at hSw); go_simp <;> try with_reducible rfl)
          try simp only [Act.put, List.setIfInBounds_toArray, List.set_cons_zero, List.set_cons_succ]
          refine wpAnyH_ready (rs := [5]) (by kernel_rfl) (by simp) ?_
          refine AllReadyH.cons (o := { dst := some 39, op := Go.Op.call { callee := Go.Callee.value (Go.Operand.func 67), args := #[Go.Operand.tmp 38], argTypes := #[40] }, type := 4, pos := "l16_cost.go:22", after := #[{ on := 4, ground := Go.Ground.data }], guard := none }) rfl (fun K hK => ?_) (AllReadyH.nil)
          go_simp
          refine (l16Lay_eq ⟨x, y⟩ true _ HG.out).mono ?_
          rintro e w2 ⟨rfl, b2⟩
          have Q2 : (w2.cell? ⟨w.heap.size, 0, none⟩ = some (.int .i64 m)) ∧ (w2.cell? ⟨w.heap.size, 1, none⟩ = some (.int .i64 p)) ∧ (w2.cell? ⟨w.heap.size, 2, none⟩ = some (.slice (some ⟨kb, of, none⟩) n cap)) ∧ (w2.cell? ⟨kb, of + k * 2, none⟩ = some (.int .i64 x)) ∧ (w2.cell? ⟨kb, of + k * 2 + 1, none⟩ = some (.int .i64 y)) ∧ (CB w2 w.heap.size #[.int .i64 m, .int .i64 p, .slice (some ⟨kb, of, none⟩) n cap, .int .i64 off] 26) ∧ (Below w.heap.size w w2) := ⟨keep_cell b2 hHeld.1, keep_cell b2 hHeld.2.1, keep_cell b2 hHeld.2.2.1, keep_cell b2 hHeld.2.2.2.1, keep_cell b2 hHeld.2.2.2.2.1, hHeld.2.2.2.2.2.1.below b2 hHeld.2.2.2.2.2.1.lt, bel_on hHeld.2.2.2.2.2.2 b2⟩
          clear b2
          first | refine hK.out _ _ (by exact Q2) (fun hHeld => ?_) | (go_wp2_with fail; refine hK.out _ _ (by exact Q2) (fun hHeld => ?_))
          clear hK K
          try simp only [Act.put, List.setIfInBounds_toArray, List.set_cons_zero, List.set_cons_succ]
          refine wpAnyH_take (i := 6) (oi := { dst := some 40, op := Go.Op.unOp Go.UnOp.not 4 (Go.Operand.tmp 39), type := 4, pos := "l16_cost.go:22", after := #[{ on := 5, ground := Go.Ground.data }], guard := none }) (v := ?_) rfl (by kernel_rfl) (by kernel_rfl) (by kernel_rfl) (fun _ _ _ h => h) (Or.inl ⟨by rfl, ?_⟩) (by assumption) ?_
          rotate_left
          · (intro w hSw; (try dsimp only at hSw); go_simp <;> try with_reducible rfl)
          try simp only [Act.put, List.setIfInBounds_toArray, List.set_cons_zero, List.set_cons_succ]
          refine wpAnyH_take (i := 7) (oi := { dst := some 41, op := Go.Op.move (Go.Operand.tmp 40), type := 4, pos := "l16_cost.go:22", after := #[{ on := 6, ground := Go.Ground.data }, { on := 5, ground := Go.Ground.chain }], guard := none }) (v := ?_) rfl (by kernel_rfl) (by kernel_rfl) (by kernel_rfl) (fun _ _ _ h => h) (Or.inl ⟨by rfl, ?_⟩) (by assumption) ?_
          rotate_left
          · (intro w hSw; (try dsimp only at hSw); go_simp <;> try with_reducible rfl)
          try simp only [Act.put, List.setIfInBounds_toArray, List.set_cons_zero, List.set_cons_succ]
          refine wpAnyH_take (i := 8) (oi := { dst := some 42, op := Go.Op.fieldAddr 26 (Go.Operand.tmp 1) 0, type := 0, pos := "l16_cost.go:22", after := #[{ on := 7, ground := Go.Ground.guard }], guard := some (7, false) }) (v := ?_) rfl (by kernel_rfl) (by kernel_rfl) (by kernel_rfl) (fun _ _ _ h => h) (Or.inl ⟨by rfl, ?_⟩) (by assumption) ?_
          rotate_left
          · (intro w hSw; (try dsimp only at hSw); go_simp <;> try with_reducible rfl)
          try simp only [Act.put, List.setIfInBounds_toArray, List.set_cons_zero, List.set_cons_succ]
          refine wpAnyH_take (i := 9) (oi := { dst := some 43, op := Go.Op.load 3 (Go.Operand.tmp 42), type := 3, pos := "l16_cost.go:22", after := #[{ on := 8, ground := Go.Ground.data }, { on := 7, ground := Go.Ground.guard }], guard := some (7, false) }) (v := ?_) rfl (by kernel_rfl) (by kernel_rfl) (by kernel_rfl) (fun _ _ _ h => h) (Or.inl ⟨by rfl, ?_⟩) (by assumption) ?_
          rotate_left
          · (intro w hSw; (try dsimp only at hSw); go_simp <;> try with_reducible rfl)
          try simp only [Act.put, List.setIfInBounds_toArray, List.set_cons_zero, List.set_cons_succ]
          refine wpAnyH_take (i := 10) (oi := { dst := some 44, op := Go.Op.binOp Go.BinOp.eql 3 (Go.Operand.tmp 43) (Go.Operand.const (Go.Value.int Go.IntKind.i64 4)) 3, type := 4, pos := "l16_cost.go:22", after := #[{ on := 9, ground := Go.Ground.data }, { on := 7, ground := Go.Ground.guard }], guard := some (7, false) }) (v := ?_) rfl (by kernel_rfl) (by kernel_rfl) (by kernel_rfl) (fun _ _ _ h => h) (Or.inl ⟨by rfl, ?_⟩) (by assumption) ?_
          rotate_left
          · (intro w hSw; (try dsimp only at hSw); go_simp <;> try with_reducible rfl)
          try simp only [Act.put, List.setIfInBounds_toArray, List.set_cons_zero, List.set_cons_succ]
          refine wpAnyH_take (i := 11) (oi := { dst := some 45, op := Go.Op.move (Go.Operand.tmp 44), type := 4, pos := "l16_cost.go:22", after := #[{ on := 10, ground := Go.Ground.data }, { on := 7, ground := Go.Ground.chain }, { on := 7, ground := Go.Ground.guard }], guard := some (7, false) }) (v := ?_) rfl (by kernel_rfl) (by kernel_rfl) (by kernel_rfl) (fun _ _ _ h => h) (Or.inl ⟨by rfl, ?_⟩) (by assumption) ?_
          rotate_left
          · (intro w hSw; (try dsimp only at hSw); go_simp <;> try with_reducible rfl)
          try simp only [Act.put, List.setIfInBounds_toArray, List.set_cons_zero, List.set_cons_succ]
          refine wpAnyH_take (i := 12) (oi := { dst := some 46, op := Go.Op.fieldAddr 26 (Go.Operand.tmp 1) 2, type := 0, pos := "l16_cost.go:22", after := #[{ on := 11, ground := Go.Ground.guard }], guard := some (11, true) }) (v := undef) rfl (by kernel_rfl) (by kernel_rfl) (by kernel_rfl) (fun _ _ _ h => h) (Or.inr ⟨by rfl, rfl⟩) (by assumption) ?_
          try simp only [Act.put, List.setIfInBounds_toArray, List.set_cons_zero, List.set_cons_succ]
          refine wpAnyH_take (i := 13) (oi := { dst := some 47, op := Go.Op.load 24 (Go.Operand.tmp 46), type := 24, pos := "l16_cost.go:22", after := #[{ on := 12, ground := Go.Ground.data }, { on := 11, ground := Go.Ground.guard }], guard := some (11, true) }) (v := undef) rfl (by kernel_rfl) (by kernel_rfl) (by kernel_rfl) (fun _ _ _ h => h) (Or.inr ⟨by rfl, rfl⟩) (by assumption) ?_
          try simp only [Act.put, List.setIfInBounds_toArray, List.set_cons_zero, List.set_cons_succ]
          refine wpAnyH_take (i := 14) (oi := { dst := some 48, op := Go.Op.move (Go.Operand.tmp 3), type := 3, pos := "l16_cost.go:22", after := #[{ on := 11, ground := Go.Ground.guard }], guard := some (11, true) }) (v := undef) rfl (by kernel_rfl) (by kernel_rfl) (by kernel_rfl) (fun _ _ _ h => h) (Or.inr ⟨by rfl, rfl⟩) (by assumption) ?_
          try simp only [Act.put, List.setIfInBounds_toArray, List.set_cons_zero, List.set_cons_succ]
          refine wpAnyH_take (i := 15) (oi := { dst := some 49, op := Go.Op.indexAddr 24 (Go.Operand.tmp 47) (Go.Operand.tmp 48), type := 0, pos := "l16_cost.go:22", after := #[{ on := 13, ground := Go.Ground.data }, { on := 14, ground := Go.Ground.data }, { on := 11, ground := Go.Ground.guard }], guard := some (11, true) }) (v := undef) rfl (by kernel_rfl) (by kernel_rfl) (by kernel_rfl) (fun _ _ _ h => h) (Or.inr ⟨by rfl, rfl⟩) (by assumption) ?_
          try simp only [Act.put, List.setIfInBounds_toArray, List.set_cons_zero, List.set_cons_succ]
          refine wpAnyH_take (i := 16) (oi := { dst := some 50, op := Go.Op.fieldAddr 40 (Go.Operand.tmp 49) 1, type := 0, pos := "l16_cost.go:22", after := #[{ on := 15, ground := Go.Ground.data }, { on := 11, ground := Go.Ground.guard }], guard := some (11, true) }) (v := undef) rfl (by kernel_rfl) (by kernel_rfl) (by kernel_rfl) (fun _ _ _ h => h) (Or.inr ⟨by rfl, rfl⟩) (by assumption) ?_
          try simp only [Act.put, List.setIfInBounds_toArray, List.set_cons_zero, List.set_cons_succ]
          refine wpAnyH_take (i := 17) (oi := { dst := some 51, op := Go.Op.load 3 (Go.Operand.tmp 50), type := 3, pos := "l16_cost.go:22", after := #[{ on := 16, ground := Go.Ground.data }, { on := 11, ground := Go.Ground.guard }], guard := some (11, true) }) (v := undef) rfl (by kernel_rfl) (by kernel_rfl) (by kernel_rfl) (fun _ _ _ h => h) (Or.inr ⟨by rfl, rfl⟩) (by assumption) ?_
          try simp only [Act.put, List.setIfInBounds_toArray, List.set_cons_zero, List.set_cons_succ]
          refine wpAnyH_take (i := 18) (oi := { dst := some 52, op := Go.Op.fieldAddr 26 (Go.Operand.tmp 1) 2, type := 0, pos := "l16_cost.go:22", after := #[{ on := 11, ground := Go.Ground.guard }], guard := some (11, true) }) (v := undef) rfl (by kernel_rfl) (by kernel_rfl) (by kernel_rfl) (fun _ _ _ h => h) (Or.inr ⟨by rfl, rfl⟩) (by assumption) ?_
          try simp only [Act.put, List.setIfInBounds_toArray, List.set_cons_zero, List.set_cons_succ]
          refine wpAnyH_take (i := 19) (oi := { dst := some 53, op := Go.Op.load 24 (Go.Operand.tmp 52), type := 24, pos := "l16_cost.go:22", after := #[{ on := 18, ground := Go.Ground.data }, { on := 11, ground := Go.Ground.guard }], guard := some (11, true) }) (v := undef) rfl (by kernel_rfl) (by kernel_rfl) (by kernel_rfl) (fun _ _ _ h => h) (Or.inr ⟨by rfl, rfl⟩) (by assumption) ?_
          try simp only [Act.put, List.setIfInBounds_toArray, List.set_cons_zero, List.set_cons_succ]
          refine wpAnyH_take (i := 20) (oi := { dst := some 54, op := Go.Op.move (Go.Operand.tmp 3), type := 3, pos := "l16_cost.go:22", after := #[{ on := 11, ground := Go.Ground.guard }], guard := some (11, true) }) (v := undef) rfl (by kernel_rfl) (by kernel_rfl) (by kernel_rfl) (fun _ _ _ h => h) (Or.inr ⟨by rfl, rfl⟩) (by assumption) ?_
          try simp only [Act.put, List.setIfInBounds_toArray, List.set_cons_zero, List.set_cons_succ]
          refine wpAnyH_take (i := 21) (oi := { dst := some 55, op := Go.Op.indexAddr 24 (Go.Operand.tmp 53) (Go.Operand.tmp 54), type := 0, pos := "l16_cost.go:22", after := #[{ on := 19, ground := Go.Ground.data }, { on := 20, ground := Go.Ground.data }, { on := 11, ground := Go.Ground.guard }], guard := some (11, true) }) (v := undef) rfl (by kernel_rfl) (by kernel_rfl) (by kernel_rfl) (fun _ _ _ h => h) (Or.inr ⟨by rfl, rfl⟩) (by assumption) ?_
          try simp only [Act.put, List.setIfInBounds_toArray, List.set_cons_zero, List.set_cons_succ]
          refine wpAnyH_take (i := 22) (oi := { dst := some 56, op := Go.Op.fieldAddr 40 (Go.Operand.tmp 55) 0, type := 0, pos := "l16_cost.go:22", after := #[{ on := 21, ground := Go.Ground.data }, { on := 11, ground := Go.Ground.guard }], guard := some (11, true) }) (v := undef) rfl (by kernel_rfl) (by kernel_rfl) (by kernel_rfl) (fun _ _ _ h => h) (Or.inr ⟨by rfl, rfl⟩) (by assumption) ?_
          try simp only [Act.put, List.setIfInBounds_toArray, List.set_cons_zero, List.set_cons_succ]
          refine wpAnyH_take (i := 23) (oi := { dst := some 57, op := Go.Op.load 3 (Go.Operand.tmp 56), type := 3, pos := "l16_cost.go:22", after := #[{ on := 22, ground := Go.Ground.data }, { on := 11, ground := Go.Ground.guard }], guard := some (11, true) }) (v := undef) rfl (by kernel_rfl) (by kernel_rfl) (by kernel_rfl) (fun _ _ _ h => h) (Or.inr ⟨by rfl, rfl⟩) (by assumption) ?_
          try simp only [Act.put, List.setIfInBounds_toArray, List.set_cons_zero, List.set_cons_succ]
          refine wpAnyH_take (i := 24) (oi := { dst := some 58, op := Go.Op.fieldAddr 26 (Go.Operand.tmp 1) 1, type := 0, pos := "l16_cost.go:22", after := #[{ on := 11, ground := Go.Ground.guard }], guard := some (11, true) }) (v := undef) rfl (by kernel_rfl) (by kernel_rfl) (by kernel_rfl) (fun _ _ _ h => h) (Or.inr ⟨by rfl, rfl⟩) (by assumption) ?_
          try simp only [Act.put, List.setIfInBounds_toArray, List.set_cons_zero, List.set_cons_succ]
          refine wpAnyH_take (i := 25) (oi := { dst := some 59, op := Go.Op.load 3 (Go.Operand.tmp 58), type := 3, pos := "l16_cost.go:22", after := #[{ on := 24, ground := Go.Ground.data }, { on := 11, ground := Go.Ground.guard }], guard := some (11, true) }) (v := undef) rfl (by kernel_rfl) (by kernel_rfl) (by kernel_rfl) (fun _ _ _ h => h) (Or.inr ⟨by rfl, rfl⟩) (by assumption) ?_
          try simp only [Act.put, List.setIfInBounds_toArray, List.set_cons_zero, List.set_cons_succ]
          refine wpAnyH_take (i := 26) (oi := { dst := some 60, op := Go.Op.binOp Go.BinOp.mul 3 (Go.Operand.tmp 57) (Go.Operand.tmp 59) 3, type := 3, pos := "l16_cost.go:22", after := #[{ on := 23, ground := Go.Ground.data }, { on := 25, ground := Go.Ground.data }, { on := 11, ground := Go.Ground.guard }], guard := some (11, true) }) (v := undef) rfl (by kernel_rfl) (by kernel_rfl) (by kernel_rfl) (fun _ _ _ h => h) (Or.inr ⟨by rfl, rfl⟩) (by assumption) ?_
          try simp only [Act.put, List.setIfInBounds_toArray, List.set_cons_zero, List.set_cons_succ]
          refine wpAnyH_take (i := 27) (oi := { dst := some 61, op := Go.Op.binOp Go.BinOp.neq 3 (Go.Operand.tmp 51) (Go.Operand.tmp 60) 3, type := 4, pos := "l16_cost.go:22", after := #[{ on := 17, ground := Go.Ground.data }, { on := 26, ground := Go.Ground.data }, { on := 11, ground := Go.Ground.guard }], guard := some (11, true) }) (v := undef) rfl (by kernel_rfl) (by kernel_rfl) (by kernel_rfl) (fun _ _ _ h => h) (Or.inr ⟨by rfl, rfl⟩) (by assumption) ?_
          try simp only [Act.put, List.setIfInBounds_toArray, List.set_cons_zero, List.set_cons_succ]
          refine wpAnyH_take (i := 28) (oi := { dst := some 62, op := Go.Op.pick (Go.Operand.tmp 45) (Go.Operand.tmp 61) (Go.Operand.const (Go.Value.bool false)), type := 4, pos := "l16_cost.go:22", after := #[{ on := 11, ground := Go.Ground.data }, { on := 27, ground := Go.Ground.data }, { on := 7, ground := Go.Ground.guard }], guard := some (7, false) }) (v := ?_) rfl (by kernel_rfl) (by kernel_rfl) (by kernel_rfl) (fun _ _ _ h => h) (Or.inl ⟨by rfl, ?_⟩) (by assumption) ?_
          rotate_left
          · (intro w hSw; (try dsimp only at hSw); go_simp <;> try with_reducible rfl)
          try simp only [Act.put, List.setIfInBounds_toArray, List.set_cons_zero, List.set_cons_succ]
          refine wpAnyH_take (i := 29) (oi := { dst := some 63, op := Go.Op.pick (Go.Operand.tmp 41) (Go.Operand.const (Go.Value.bool true)) (Go.Operand.tmp 62), type := 4, pos := "l16_cost.go:22", after := #[{ on := 7, ground := Go.Ground.data }, { on := 28, ground := Go.Ground.data }], guard := none }) (v := ?_) rfl (by kernel_rfl) (by kernel_rfl) (by kernel_rfl) (fun _ _ _ h => h) (Or.inl ⟨by rfl, ?_⟩) (by assumption) ?_
          rotate_left
          · (intro w hSw; (try dsimp only at hSw); go_simp <;> try with_reducible rfl)
          try simp only [Act.put, List.setIfInBounds_toArray, List.set_cons_zero, List.set_cons_succ]
          refine wpAnyH_done (by kernel_rfl) ?_ _
          refine NoPanic.normal ?_
          clear hHeld
          obtain ⟨y0, y1, y2, _, _, yC, yB⟩ := Q2
          have HC2 := hid yC
          have HB2 := hid yB
          clear yC yB
          go_wp2
          go_roundw
          case rel => exact ⟨k + 1, by omega, by go_num, HN.out, HC2.out, HB2.out⟩
          case measure => simp [intOf]; omega
      · obtain rfl : k = n := by omega
        have lkk : ¬ (k : Int) < (k : Int) := by omega
        have HL : Hid (∀ j, j < k → laB (c j) = true) := HL0.out.1
        have HA : Hid (arB (mlN m) k c = true) := arB_t ⟨HML.out, HL.out⟩
        obtain ⟨b1, b2, b3, b4⟩ := sums_bd k HL.out
        obtain ⟨Q, hQ⟩ : ∃ Q, qS c k = Q := ⟨_, rfl⟩
        obtain ⟨K, hK⟩ : ∃ K, kS c k = K := ⟨_, rfl⟩
        rw [hK] at b3
        have HQ : Hid (qS c k = Q) := hQ
        have HK : Hid (kS c k = K) := hK
        have HRR : Hid (LAr wr ad k c) := HR.out.below HB.out
        have HW : Hid (v = (inB Q 0 1000000 && inB K 0 100000000000 && prB m p off Q K)) := hid (by rw [← HV.out, woB_is HA.out, hQ, hK])
        have H2' : Hid (inB K (-100000000000) 100000000000 = inB K 0 100000000000) := inB_amt b3
        have tk : True := trivial
        clear b1 b2 b3 b4 hQ hK
        by_cases h4 : m = 4
        · have hst : 0 ≤ p → p ≤ 100000 → K = Q * p := fun z0 z1 => by rw [← HQ.out, ← HK.out]; exact HL0.out.std h4 (by have := hT.out (by omega); omega) z0 z1
          cases hp : inB p 0 100000
          · obtain rfl : v = false := by rw [HW.out]; simp [prB, h4, hp]
            have HP : Hid (inB p 0 100000 = false) := hp
            have HO : Hid (inB off (-100000000000) 100000000000 = inB off (-100000000000) 100000000000) := rfl
            have H1 := HO
            have H2 := HO
            have h4' : (m == 4) = true := by simp [h4]
            clear h4 hp hst HW
            go_wp2_with (first
        | (go_at_call 68; refine (l12Price_eq _ _ _ HP.out).mono ?_; rintro e w1 ⟨rfl, rfl⟩)
        | (go_at_call 69; clear tk; refine (l1Amount_eq _ _ _ HO.out).mono ?_; rintro e w1 ⟨rfl, rfl⟩)
        | (go_at_call 70; refine (specSums_eq ad k cap c Q K _ (by omega) HL.out HRR.out HQ.out HK.out).mono ?_; rintro e w1 ⟨rfl, rfl⟩)
        | (go_at_call 71; refine (l12Qty_eq _ _ _ H1.out).mono ?_; rintro e w1 ⟨rfl, rfl⟩)
        | (go_at_call 69; refine (l1Amount_eq _ _ _ H2.out).mono ?_; rintro e w1 ⟨rfl, rfl⟩))
            go_returns
            exact ⟨rfl, HB.out⟩
          obtain ⟨z0, z1⟩ := inB_t hp
          have HP : Hid (inB p 0 100000 = true) := hp
          cases ho : inB off (-100000000000) 100000000000
          · obtain rfl : v = false := by rw [HW.out]; simp [prB, h4, ho]
            have HO : Hid (inB off (-100000000000) 100000000000 = false) := ho
            have H1 := HO
            have H2 := HO
            have h4' : (m == 4) = true := by simp [h4]
            clear h4 hp ho hst HW
            go_wp2_with (first
        | (go_at_call 68; refine (l12Price_eq _ _ _ HP.out).mono ?_; rintro e w1 ⟨rfl, rfl⟩)
        | (go_at_call 69; clear tk; refine (l1Amount_eq _ _ _ HO.out).mono ?_; rintro e w1 ⟨rfl, rfl⟩)
        | (go_at_call 70; refine (specSums_eq ad k cap c Q K _ (by omega) HL.out HRR.out HQ.out HK.out).mono ?_; rintro e w1 ⟨rfl, rfl⟩)
        | (go_at_call 71; refine (l12Qty_eq _ _ _ H1.out).mono ?_; rintro e w1 ⟨rfl, rfl⟩)
        | (go_at_call 69; refine (l1Amount_eq _ _ _ H2.out).mono ?_; rintro e w1 ⟨rfl, rfl⟩))
            go_returns
            exact ⟨rfl, HB.out⟩
          have HO : Hid (inB off (-100000000000) 100000000000 = true) := ho
          have HF : Hid (v = (inB Q 0 1000000 && inB K 0 100000000000)) := hid (by rw [HW.out]; simp [prB, h4, hp, ho, hst z0 z1])
          have h4' : (m == 4) = true := by simp [h4]
          clear h4 hp ho hst HW
          cases g1 : inB Q 0 1000000
          · obtain rfl : v = false := by rw [HF.out, g1]; rfl
            have H1 : Hid (inB Q 0 1000000 = false) := g1
            have H2 := H2'
            clear g1 HF
            go_wp2_with (first
        | (go_at_call 68; refine (l12Price_eq _ _ _ HP.out).mono ?_; rintro e w1 ⟨rfl, rfl⟩)
        | (go_at_call 69; clear tk; refine (l1Amount_eq _ _ _ HO.out).mono ?_; rintro e w1 ⟨rfl, rfl⟩)
        | (go_at_call 70; refine (specSums_eq ad k cap c Q K _ (by omega) HL.out HRR.out HQ.out HK.out).mono ?_; rintro e w1 ⟨rfl, rfl⟩)
        | (go_at_call 71; refine (l12Qty_eq _ _ _ H1.out).mono ?_; rintro e w1 ⟨rfl, rfl⟩)
        | (go_at_call 69; refine (l1Amount_eq _ _ _ H2.out).mono ?_; rintro e w1 ⟨rfl, rfl⟩))
            go_returns
            exact ⟨rfl, HB.out⟩
          · have H1 : Hid (inB Q 0 1000000 = true) := g1
            have H2 : Hid (inB K (-100000000000) 100000000000 = v) := hid (by rw [H2'.out, HF.out, g1]; simp)
            clear g1 HF
            go_wp2_with (first
        | (go_at_call 68; refine (l12Price_eq _ _ _ HP.out).mono ?_; rintro e w1 ⟨rfl, rfl⟩)
        | (go_at_call 69; clear tk; refine (l1Amount_eq _ _ _ HO.out).mono ?_; rintro e w1 ⟨rfl, rfl⟩)
        | (go_at_call 70; refine (specSums_eq ad k cap c Q K _ (by omega) HL.out HRR.out HQ.out HK.out).mono ?_; rintro e w1 ⟨rfl, rfl⟩)
        | (go_at_call 71; refine (l12Qty_eq _ _ _ H1.out).mono ?_; rintro e w1 ⟨rfl, rfl⟩)
        | (go_at_call 69; refine (l1Amount_eq _ _ _ H2.out).mono ?_; rintro e w1 ⟨rfl, rfl⟩))
            go_returns
            exact ⟨rfl, HB.out⟩
        · have h4' : (m == 4) = false := by simpa using h4
          have hm13 : inB m 1 3 = true := inB_y m1 (by omega)
          have HP : Hid (inB p 0 100000 = inB p 0 100000) := rfl
          have HO := HP
          clear tk
          cases hp : (p == 0)
          · obtain rfl : v = false := by rw [HW.out]; simp [prB, h4, hm13, hp]
            have H1 := HO
            have H2 := HO
            have hp' : (p != 0) = true := by simp only [bne, hp]; rfl
            clear h4 hp HW
            go_wp2_with (first
        | (go_at_call 68; refine (l12Price_eq _ _ _ HP.out).mono ?_; rintro e w1 ⟨rfl, rfl⟩)
        | (go_at_call 69; clear tk; refine (l1Amount_eq _ _ _ HO.out).mono ?_; rintro e w1 ⟨rfl, rfl⟩)
        | (go_at_call 70; refine (specSums_eq ad k cap c Q K _ (by omega) HL.out HRR.out HQ.out HK.out).mono ?_; rintro e w1 ⟨rfl, rfl⟩)
        | (go_at_call 71; refine (l12Qty_eq _ _ _ H1.out).mono ?_; rintro e w1 ⟨rfl, rfl⟩)
        | (go_at_call 69; refine (l1Amount_eq _ _ _ H2.out).mono ?_; rintro e w1 ⟨rfl, rfl⟩))
            go_returns
            exact ⟨rfl, HB.out⟩
          cases ho : (off == 0)
          · obtain rfl : v = false := by rw [HW.out]; simp [prB, h4, hm13, hp, ho]
            have H1 := HO
            have H2 := HO
            have hp' : (p != 0) = false := by simp only [bne, hp]; rfl
            have ho' : (off != 0) = true := by simp only [bne, ho]; rfl
            clear h4 hp ho HW
            go_wp2_with (first
        | (go_at_call 68; refine (l12Price_eq _ _ _ HP.out).mono ?_; rintro e w1 ⟨rfl, rfl⟩)
        | (go_at_call 69; clear tk; refine (l1Amount_eq _ _ _ HO.out).mono ?_; rintro e w1 ⟨rfl, rfl⟩)
        | (go_at_call 70; refine (specSums_eq ad k cap c Q K _ (by omega) HL.out HRR.out HQ.out HK.out).mono ?_; rintro e w1 ⟨rfl, rfl⟩)
        | (go_at_call 71; refine (l12Qty_eq _ _ _ H1.out).mono ?_; rintro e w1 ⟨rfl, rfl⟩)
        | (go_at_call 69; refine (l1Amount_eq _ _ _ H2.out).mono ?_; rintro e w1 ⟨rfl, rfl⟩))
            go_returns
            exact ⟨rfl, HB.out⟩
          have HF : Hid (v = (inB Q 0 1000000 && inB K 0 100000000000)) := hid (by rw [HW.out]; simp [prB, h4, hm13, hp, ho])
          have hp' : (p != 0) = false := by simp only [bne, hp]; rfl
          have ho' : (off != 0) = false := by simp only [bne, ho]; rfl
          clear h4 hp ho HW
          cases g1 : inB Q 0 1000000
          · obtain rfl : v = false := by rw [HF.out, g1]; rfl
            have H1 : Hid (inB Q 0 1000000 = false) := g1
            have H2 := H2'
            clear g1 HF
            go_wp2_with (first
        | (go_at_call 68; refine (l12Price_eq _ _ _ HP.out).mono ?_; rintro e w1 ⟨rfl, rfl⟩)
        | (go_at_call 69; clear tk; refine (l1Amount_eq _ _ _ HO.out).mono ?_; rintro e w1 ⟨rfl, rfl⟩)
        | (go_at_call 70; refine (specSums_eq ad k cap c Q K _ (by omega) HL.out HRR.out HQ.out HK.out).mono ?_; rintro e w1 ⟨rfl, rfl⟩)
        | (go_at_call 71; refine (l12Qty_eq _ _ _ H1.out).mono ?_; rintro e w1 ⟨rfl, rfl⟩)
        | (go_at_call 69; refine (l1Amount_eq _ _ _ H2.out).mono ?_; rintro e w1 ⟨rfl, rfl⟩))
            go_returns
            exact ⟨rfl, HB.out⟩
          · have H1 : Hid (inB Q 0 1000000 = true) := g1
            have H2 : Hid (inB K (-100000000000) 100000000000 = v) := hid (by rw [H2'.out, HF.out, g1]; simp)
            clear g1 HF
            go_wp2_with (first
        | (go_at_call 68; refine (l12Price_eq _ _ _ HP.out).mono ?_; rintro e w1 ⟨rfl, rfl⟩)
        | (go_at_call 69; clear tk; refine (l1Amount_eq _ _ _ HO.out).mono ?_; rintro e w1 ⟨rfl, rfl⟩)
        | (go_at_call 70; refine (specSums_eq ad k cap c Q K _ (by omega) HL.out HRR.out HQ.out HK.out).mono ?_; rintro e w1 ⟨rfl, rfl⟩)
        | (go_at_call 71; refine (l12Qty_eq _ _ _ H1.out).mono ?_; rintro e w1 ⟨rfl, rfl⟩)
        | (go_at_call 69; refine (l1Amount_eq _ _ _ H2.out).mono ?_; rintro e w1 ⟨rfl, rfl⟩))
            go_returns
            exact ⟨rfl, HB.out⟩

end Go.Proofs.Ytdgccdlaokbnhaa
