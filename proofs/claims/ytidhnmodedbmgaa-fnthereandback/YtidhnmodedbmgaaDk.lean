/- The draw of what Cash is asked for. -/
import Derived.Test.YtidhnmodedbmgaaDj
namespace Go.Proofs.Ytidhnmodedbmgaa
open Go.ChangeShapes Go.WideShapes Go.ChangeAt Go.RowKit
set_option linter.unusedVariables false
set_option linter.unusedSimpArgs false

def DkPost (w : World) (e : Ending) (w' : World) : Prop := ∃ (s : ByteArray) (p q a : Int), e = .returned (.tuple #[.agg #[.string s, .int .i64 p, .int .i64 q], .int .i64 a]) ∧ s.size ≤ maxLen ∧ Below w.heap.size w w'
theorem dkp {w w' : World} {s : ByteArray} {p q a : Int} (h1 : s.size ≤ maxLen) (h2 : Below w.heap.size w w') : DkPost w (.returned (.tuple #[.agg #[.string s, .int .i64 p, .int .i64 q], .int .i64 a])) w' := ⟨s, p, q, a, rfl, h1, h2⟩

set_option maxRecDepth 20000 in
set_option maxHeartbeats 4000000 in
theorem drawCash_any (ad : Option Addr) (len cap : Nat) (w : World) (hl : len ≤ 9223372036854775000) (hr : ByteRow w w.heap.size ad len) :
    Calls Try.prog 16 #[.slice ad len cap] w fun e w' => DkPost w e w' := by
  have HR : Hid (ByteRow (w.alloc (.cells #[.string ByteArray.empty, .int .i64 0, .int .i64 0] 33 (0, 0))) (w.alloc (.cells #[.string ByteArray.empty, .int .i64 0, .int .i64 0] 33 (0, 0))).heap.size ad len) := byte_alloc hr _
  have hC0 := CB.new (w := w) #[.string ByteArray.empty, .int .i64 0, .int .i64 0] 33
  have hB0 : Below w.heap.size w (w.alloc (.cells #[.string ByteArray.empty, .int .i64 0, .int .i64 0] 33 (0, 0))) := (Below.refl _ _).alloc (Nat.le_refl _) _
  have hs0 : (w.alloc (.cells #[.string ByteArray.empty, .int .i64 0, .int .i64 0] 33 (0, 0))).heap.size = w.heap.size + 1 := by simp
  clear hr
  go_enter Try.func16, Try.ntmps16
  go_wp2_with (first
    | (go_at_call 32; refine (new_any _ _ _ _ hl HR.out).mono ?_; rw [hs0]; rintro e w1 ⟨rfl, c1, b1⟩; have Z1 : Hid (CB w1 w.heap.size #[.string ByteArray.empty, .int .i64 0, .int .i64 0] 33) := hC0.below b1 (by omega); have C1 : Hid (Cursor w1 (w.heap.size + 1)) := c1; have B1 : Hid (Below w.heap.size w w1) := hB0.trans (b1.mono (by omega)); clear c1 b1 hC0 hB0)
    | (go_at_call 45; refine (drawCurs_any _ _ C1.out).mono ?_; rintro e w2 ⟨g, n, cp, c, rfl, hn1, hn5, hok, hg, hcr, m2⟩; have HG : Hid (CR w2 (some ⟨g, 0, none⟩) n c) := hcr; have HK : Hid (∀ j, (c j).code.size ≤ maxLen) := hok; have hg2 : w.heap.size + 1 < g := (by have := C1.out.lt; omega); have M2 : Hid (Moved (w.heap.size + 1) w1 w2) := m2; have hn1i : (1 : Int) ≤ (n : Int) := (by omega); have hn5i : (n : Int) ≤ 5 := (by omega); clear hcr hok m2)
    | (go_at_call 33; refine (below_any _ _ _ M2.out.1).mono ?_; rintro e w3 ⟨x, rfl, x0, x1, x2, m3⟩; have x3 := x1 hn1i; obtain ⟨j, rfl⟩ : ∃ j : Nat, x = (j : Int) := ⟨x.toNat, by omega⟩; obtain ⟨k1, k2, k3⟩ := (HG.out.turns m3.2 (by omega)).cell (j := j) (by omega); obtain ⟨s0, p0, q0, hx⟩ : ∃ a b d, c j = ⟨a, b, d⟩ := ⟨_, _, _, rfl⟩; rw [hx] at k1 k2 k3; simp only [Nat.zero_add] at k1 k2 k3; have hsz : s0.size ≤ maxLen := (by have := HK.out j; rw [hx] at this; exact this); have M3 : Hid (Moved (w.heap.size + 1) w1 w3) := M2.out.trans m3; have far : w.heap.size + 1 < w3.heap.size := M3.out.1.lt; have S3 : Hid (St w w3.heap.size s0 p0 q0 (w3.alloc (.cells #[.string s0, .int .i64 p0, .int .i64 q0] 33 (0, 0)))) := ⟨M3.out.1.alloc _, (B1.out.trans (M3.out.2.below (by omega) B1.out.size)).alloc (by have := (B1.out.trans (M3.out.2.below (by omega) B1.out.size)).size; exact this) _, (Z1.out.turns M3.out.2 (by omega)).alloc _, CB.new _ _, far⟩; clear m3 x1 x2 hx)
    | (go_at_call 38; refine (spoil_any (w.heap.size + 1) q0 (some ⟨w3.heap.size + 1, 0, none⟩) [0, 10000001] 2 2 ((w3.alloc (.cells #[.string s0, .int .i64 p0, .int .i64 q0] 33 (0, 0))).alloc (.cells #[.int .i64 0, .int .i64 10000001] 3 (0, 0))) (S3.out.alloc _).cur (row_at (by simp) (IntRow.made (w := w3.alloc (.cells #[.string s0, .int .i64 p0, .int .i64 q0] 33 (0, 0))) S3.out.cur.lt #[.int .i64 0, .int .i64 10000001] 3 [0, 10000001] rfl)) rfl (by decide) (by decide)).mono ?_; rintro e w4 ⟨q1, rfl, _, m4⟩; have S4 : Hid (St w w3.heap.size s0 p0 q0 w4) := (S3.out.alloc _).moved m4; have e0 := S4.out.cells.1; have e1 := S4.out.cells.2.1; have e2 := S4.out.cells.2.2; have ef := S4.out.box.fr 2; have S4s : Hid (St w w3.heap.size s0 p0 q1 (w4.setCell ⟨w3.heap.size, 2, none⟩ (.int .i64 q1))) := S4.out.set2 q1; clear m4)
    | (go_at_call 46; refine (pickS_any (w.heap.size + 1) _ s0 _ (S4s.out.alloc _).cur (CB.newAt (by simp) _ _) (by have := S4s.out.cur.lt; simp at this; omega)).mono ?_; rintro e w5 ⟨⟨t5, rfl, ht5⟩, m5⟩; have S5 : Hid (St w w3.heap.size s0 p0 q1 w5) := (S4s.out.alloc _).moved m5; have ht6 : t5.size ≤ maxLen := (by rcases ht5 with rfl | rfl; exact hsz; decide); have g0 := S5.out.cells.1; have gf := S5.out.box.fr 0; have S6 : Hid (St w w3.heap.size t5 p0 q1 (w5.setCell ⟨w3.heap.size, 0, none⟩ (.string t5))) := S5.out.set0 t5; clear m5 ht5))
  clear e0 e1 e2 ef g0 gf k1 k2 k3 S3 S4 S4s S5
  refine wp_region_held_drew (S := fun w' => w'.cell? ⟨w3.heap.size, 0, none⟩ = some (.string t5) ∧ w'.cell? ⟨w3.heap.size, 1, none⟩ = some (.int .i64 p0) ∧ w'.cell? ⟨w3.heap.size, 2, none⟩ = some (.int .i64 q1)) (by kernel_rfl) (by exact (S6.out.drew).cells) (fun hHeld => ?_)
  refine wpAnyH_take (i := 0) (oi := { dst := some 36, op := Go.Op.load 33 (Go.Operand.tmp 6), type := 33, pos := "l03_rates.go:189", after := #[], guard := none }) (v := ?_) rfl (by kernel_rfl) (by kernel_rfl) (by kernel_rfl) (fun _ _ _ h => h) (Or.inl ⟨by rfl, ?_⟩) (by assumption) ?_
  rotate_left
  · (intro w hSw; (try dsimp only at hSw); go_simp <;> try with_reducible rfl)
  try simp only [Act.put, List.setIfInBounds_toArray, List.set_cons_zero, List.set_cons_succ]
  refine wpAnyH_take (i := 1) (oi := { dst := some 37, op := Go.Op.move (Go.Operand.tmp 4), type := 56, pos := "l03_rates.go:189", after := #[], guard := none }) (v := ?_) rfl (by kernel_rfl) (by kernel_rfl) (by kernel_rfl) (fun _ _ _ h => h) (Or.inl ⟨by rfl, ?_⟩) (by assumption) ?_
  rotate_left
  · (intro w hSw; (try dsimp only at hSw); go_simp <;> try with_reducible rfl)
  try simp only [Act.put, List.setIfInBounds_toArray, List.set_cons_zero, List.set_cons_succ]
  refine wpAnyH_take (i := 2) (oi := { dst := some 38, op := Go.Op.move (Go.Operand.tmp 4), type := 56, pos := "l03_rates.go:189", after := #[], guard := none }) (v := ?_) rfl (by kernel_rfl) (by kernel_rfl) (by kernel_rfl) (fun _ _ _ h => h) (Or.inl ⟨by rfl, ?_⟩) (by assumption) ?_
  rotate_left
  · (intro w hSw; (try dsimp only at hSw); go_simp <;> try with_reducible rfl)
  try simp only [Act.put, List.setIfInBounds_toArray, List.set_cons_zero, List.set_cons_succ]
  refine wpAnyH_ready (rs := [3]) (by kernel_rfl) (by simp) ?_
  refine AllReadyH.cons (o := { dst := some 39, op := Go.Op.call { callee := Go.Callee.value (Go.Operand.func 37), args := #[Go.Operand.tmp 38], argTypes := #[56] }, type := 3, pos := "l03_rates.go:189", after := #[{ on := 2, ground := Go.Ground.data }], guard := none }) rfl (fun K hK => ?_) AllReadyH.nil
  go_simp
  refine (amount_any _ _ (S6.out.drew).cur).mono ?_
  rintro e w7 ⟨a0, rfl, m7⟩
  have S7 : Hid (St w w3.heap.size t5 p0 q1 w7) := (S6.out.drew).moved m7
  clear m7
  first | refine hK.out _ _ (by exact S7.out.cells) (fun hHeld => ?_) | (go_wp2_with fail; refine hK.out _ _ (by exact S7.out.cells) (fun hHeld => ?_))
  clear hK K
  try simp only [Act.put, List.setIfInBounds_toArray, List.set_cons_zero, List.set_cons_succ]
  refine wpAnyH_ready (rs := [4]) (by kernel_rfl) (by simp) ?_
  refine AllReadyH.cons (o := { dst := some 40, op := Go.Op.call { callee := Go.Callee.value (Go.Operand.func 36), args := #[Go.Operand.tmp 37, Go.Operand.tmp 39], argTypes := #[56, 3] }, type := 3, pos := "l03_rates.go:189", after := #[{ on := 1, ground := Go.Ground.data }, { on := 3, ground := Go.Ground.data }, { on := 3, ground := Go.Ground.chain }], guard := none }) rfl (fun K hK => ?_) AllReadyH.nil
  go_simp
  refine (badMoney_any _ _ _ S7.out.cur).mono ?_
  rintro e w8 ⟨a1, rfl, m8⟩
  have S8 : Hid (St w w3.heap.size t5 p0 q1 w8) := S7.out.moved m8
  clear m8
  have t0 := S8.out.z.cell 0
  have t1 := S8.out.z.cell 1
  have t2 := S8.out.z.cell 2
  have f0 := S8.out.z.fr 0
  have f1 := S8.out.z.fr 1
  have f2 := S8.out.z.fr 2
  simp at t0 t1 t2
  first | refine hK.out _ _ (by exact S8.out.cells) (fun hHeld => ?_) | (go_wp2_with fail; refine hK.out _ _ (by exact S8.out.cells) (fun hHeld => ?_))
  clear hK K
  try simp only [Act.put, List.setIfInBounds_toArray, List.set_cons_zero, List.set_cons_succ]
  refine wpAnyH_ready (rs := [5]) (by kernel_rfl) (by simp) ?_
  refine AllReadyH.cons (o := { dst := none, op := Go.Op.store 33 (Go.Operand.tmp 2) (Go.Operand.tmp 36), type := 0, pos := "l03_rates.go:189", after := #[{ on := 0, ground := Go.Ground.data }, { on := 4, ground := Go.Ground.chain }, { on := 0, ground := Go.Ground.phase }, { on := 1, ground := Go.Ground.textOnly Go.Departure.lateStores }, { on := 2, ground := Go.Ground.textOnly Go.Departure.lateStores }, { on := 3, ground := Go.Ground.textOnly Go.Departure.lateStoresUnsure }, { on := 4, ground := Go.Ground.textOnly Go.Departure.lateStoresUnsure }], guard := none }) rfl (fun K hK => ?_) AllReadyH.nil
  go_simp
  first | refine hK.out _ _ (by exact S8.out.stored.2.2) (fun hHeld => ?_) | (go_wp2_with fail; refine hK.out _ _ (by exact S8.out.stored.2.2) (fun hHeld => ?_))
  clear hK K
  try simp only [Act.put, List.setIfInBounds_toArray, List.set_cons_zero, List.set_cons_succ]
  refine wpAnyH_take (i := 6) (oi := { dst := some 3, op := Go.Op.assign (Go.Operand.tmp 40), type := 3, pos := "l03_rates.go:189", after := #[{ on := 4, ground := Go.Ground.data }, { on := 5, ground := Go.Ground.chain }, { on := 0, ground := Go.Ground.phase }, { on := 1, ground := Go.Ground.phase }, { on := 2, ground := Go.Ground.phase }, { on := 3, ground := Go.Ground.phase }, { on := 4, ground := Go.Ground.phase }, { on := 5, ground := Go.Ground.phase }], guard := none }) (v := ?_) rfl (by kernel_rfl) (by kernel_rfl) (by kernel_rfl) (fun _ _ _ h => h) (Or.inl ⟨by rfl, ?_⟩) (by assumption) ?_
  rotate_left
  · (intro w hSw; (try dsimp only at hSw); go_simp <;> try with_reducible rfl)
  try simp only [Act.put, List.setIfInBounds_toArray, List.set_cons_zero, List.set_cons_succ]
  refine wpAnyH_done (by kernel_rfl) ?_ _
  go_wp2
  have ST := S8.out.stored
  revert ST
  generalize (((w8.setCell ⟨w.heap.size, 0, none⟩ (.string t5)).setCell ⟨w.heap.size, 1, none⟩ (.int .i64 p0)).setCell ⟨w.heap.size, 2, none⟩ (.int .i64 q1)) = W
  intro ST
  have e0 := ST.1.cell 0
  have e1 := ST.1.cell 1
  have e2 := ST.1.cell 2
  simp at e0 e1 e2
  have HB : Hid (Below w.heap.size w W) := ST.2.1
  clear t0 t1 t2 f0 f1 f2 ST
  refine bodyPost_ret (by simp [results, Try.results16, go_sem, e0, e1, e2]; try rfl) rfl ?_
  exact dkp ht6 HB.out

end Go.Proofs.Ytidhnmodedbmgaa
