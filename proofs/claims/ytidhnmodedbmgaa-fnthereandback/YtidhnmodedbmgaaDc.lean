/- The draw of a row of currencies. -/
import Derived.Test.YtidhnmodedbmgaaDt
import Derived.Test.YtidhnmodedbmgaaGb
namespace Go.Proofs.Ytidhnmodedbmgaa
open Go.ChangeShapes Go.WideShapes Go.ChangeAt Go.RowKit
set_option linter.unusedVariables false
set_option linter.unusedSimpArgs false

def allS : Array Value := #[.string { data := #[72, 83, 69] }, .string { data := #[69, 85, 82] }, .string { data := #[85, 83, 68] }, .string { data := #[74, 80, 89] }, .string { data := #[66, 72, 68] }, .string { data := #[88, 45, 49] }]
theorem all_at {j : Nat} (h : j < 6) : ∃ s : ByteArray, allS[j]? = some (.string s) ∧ s.size ≤ maxLen := by
  match j, h with
  | 0, _ => exact ⟨_, rfl, by decide⟩
  | 1, _ => exact ⟨_, rfl, by decide⟩
  | 2, _ => exact ⟨_, rfl, by decide⟩
  | 3, _ => exact ⟨_, rfl, by decide⟩
  | 4, _ => exact ⟨_, rfl, by decide⟩
  | 5, _ => exact ⟨_, rfl, by decide⟩
  | n + 6, h => omega
def OkC (l : List C3) : Prop := ∀ x ∈ l, x.code.size ≤ maxLen
theorem ok_snoc {l : List C3} {s : ByteArray} {a b : Int} (h : OkC l) (hs : s.size ≤ maxLen) : OkC (l ++ [⟨s, a, b⟩]) := fun x hx => by
  rcases List.mem_append.1 hx with g | g
  · exact h x g
  · simp at g; subst g; exact hs
theorem row_at {w : World} {b k n : Nat} {zs : List Int} (e : n = k) (h : IntRow w b (some ⟨n, 0, none⟩) zs) : IntRow w b (some ⟨k, 0, none⟩) zs := e ▸ h

theorem row_dr {w : World} {b : Nat} {ad : Option Addr} {zs : List Int} (h : IntRow w b ad zs) : IntRow w.drew b ad zs := h.turns (Turns.refl b w).drew
theorem row_ad {w : World} {b : Nat} {ad : Option Addr} {zs : List Int} (h : IntRow w b ad zs) (o : Obj) : IntRow (w.alloc o).drew b ad zs := h.turns ((Turns.refl b w).alloc o).drew

set_option maxRecDepth 100000 in
theorem info33 : ∃ i, Try.prog.info? 33 = some i ∧ i.zero = some (.agg #[.string ByteArray.empty, .int .i64 0, .int .i64 0]) ∧ i.size = 3 ∧ i.bytes = 32 := by
  obtain ⟨i0, hi⟩ : ∃ i, Try.prog.info? 33 = some i := ⟨_, rfl⟩
  have hz0 : i0.zero = some (.agg #[.string ByteArray.empty, .int .i64 0, .int .i64 0]) := by
    have : (Try.prog.info? 33).bind (·.zero) = some (.agg #[.string ByteArray.empty, .int .i64 0, .int .i64 0]) := by kernel_rfl
    rw [hi] at this; exact this
  have hz1 : i0.size = 3 := by
    have : (Try.prog.info? 33).map (·.size) = some 3 := by kernel_rfl
    rw [hi] at this; simpa using this
  have hz2 : i0.bytes = 32 := by
    have : (Try.prog.info? 33).map (·.bytes) = some 32 := by kernel_rfl
    rw [hi] at this; simpa using this
  exact ⟨i0, hi, hz0, hz1, hz2⟩

def DcPost (b : Nat) (w : World) (e : Ending) (w' : World) : Prop := ∃ (g n cap : Nat) (c : Nat → C3), e = .returned (.slice (some ⟨g, 0, none⟩) n cap) ∧ 1 ≤ n ∧ n ≤ 5 ∧ (∀ j, (c j).code.size ≤ maxLen) ∧ w.heap.size ≤ g ∧ CR w' (some ⟨g, 0, none⟩) n c ∧ Moved b w w'
theorem dcp {b g n cap : Nat} {w w' : World} {c : Nat → C3} (h1 : 1 ≤ n) (h2 : n ≤ 5) (h3 : ∀ j, (c j).code.size ≤ maxLen) (h4 : w.heap.size ≤ g) (h5 : CR w' (some ⟨g, 0, none⟩) n c) (h6 : Moved b w w') : DcPost b w (.returned (.slice (some ⟨g, 0, none⟩) n cap)) w' := ⟨g, n, cap, c, rfl, h1, h2, h3, h4, h5, h6⟩

set_option maxRecDepth 20000 in
set_option maxHeartbeats 4000000 in
theorem drawCurs_any (b : Nat) (w : World) (hc : Cursor w b) :
    Calls Try.prog 45 #[.pointer (some ⟨b, 0, none⟩)] w fun e w' => DcPost b w e w' := by
  have HC : Hid (Cursor w b) := hc
  have hlt := hc.lt
  obtain ⟨i0, hi, hz0, hz1, hz2⟩ := info33
  clear hc
  go_enter Try.func45, Try.ntmps45
  go_wp2_with (go_at_call 33; refine (below_any b _ _ ((HC.out.alloc _).alloc _)).mono ?_; rintro e w1 ⟨x, rfl, x0, x1, x2, m1⟩; have x3 := x1 (by decide); have M1 : Hid (Moved b ((w.alloc (.cells allS 9 (0, 0))).alloc (.cells #[] 33 (0, 0))) w1) := m1; clear m1 x1 x2)
  go_loopw [4, 5] (fun v u wr => ∃ (l : List C3) (z : Int) (g cap : Nat), v = .slice (some ⟨g, 0, none⟩) l.length cap ∧ u = .int .i64 z ∧ 0 ≤ z ∧ (l.length : Int) + z ≤ 5 ∧ 1 ≤ (l.length : Int) + z ∧ OkC l ∧ w.heap.size + 1 ≤ g ∧ wr.ownsRow (w.heap.size + 1) 33 3 (.slice (some ⟨g, 0, none⟩) l.length cap) l.length (flatC l) ∧ CB wr w.heap.size allS 9 ∧ Cursor wr b ∧ Turns b w wr) (fun _ u _ => (intOf u).toNat)
  case atStart =>
    refine ⟨[], 1 + x, w.heap.size + 1, 0, rfl, rfl, by omega, by simp; omega, by simp; omega, fun _ h => by simp at h, Nat.le_refl _, ⟨rfl, .inr ⟨w.heap.size + 1, 0, #[], rfl, Nat.le_refl _, ?_, Nat.le_refl _, Nat.zero_le _, rfl, rfl⟩⟩, ?_, M1.out.1, (((Turns.refl b w).alloc _).alloc _).trans M1.out.2⟩
    · exact CB.turns (CB.newAt (by simp) #[] 33) M1.out.2 (by omega)
    · exact CB.turns ((CB.new allS 9).alloc _) M1.out.2 (by omega)
  case round =>
    obtain ⟨l, z, g, cap, rfl, rfl, hz, hl5, hl1, hok, hg, hO, hA, hCu, hT⟩ := hrel
    by_cases hzp : 0 < z
    · have hl4 : l.length < 6 := by omega
      obtain ⟨s, hs1, hs2⟩ := all_at hl4
      have hAb : w.heap.size ≠ b := by omega
      have s0 : wr.drew.cell? ⟨w.heap.size, l.length, none⟩ = some (.string s) := (hA.cell _).trans hs1
      have hli : (l.length : Int) < 6 := by omega
      have hglt : w.heap.size + 2 ≤ wr.heap.size := by have := hO.lt g rfl; omega
      go_wp2
      refine wp_region_noPanic ?_
      refine wp_region_held_drew (S := fun w' => w'.cell? ⟨w.heap.size, l.length, none⟩ = some (.string s)) (by kernel_rfl) (by exact s0) (fun hHeld => ?_)
      refine wpAnyH_take (i := 0) (oi := { dst := some 15, op := Go.Op.move (Go.Operand.tmp 4), type := 40, pos := "l03_rates.go:91", after := #[], guard := none }) (v := ?_) rfl (by kernel_rfl) (by kernel_rfl) (by kernel_rfl) (fun _ _ _ h => h) (Or.inl ⟨by rfl, ?_⟩) (by assumption) ?_
      rotate_left
      · (intro w hSw; (try dsimp only at hSw); go_simp <;> try with_reducible rfl)
      try simp only [Act.put, List.setIfInBounds_toArray, List.set_cons_zero, List.set_cons_succ]
      refine wpAnyH_take (i := 1) (oi := { dst := some 16, op := Go.Op.move (Go.Operand.tmp 3), type := 76, pos := "l03_rates.go:91", after := #[], guard := none }) (v := ?_) rfl (by kernel_rfl) (by kernel_rfl) (by kernel_rfl) (fun _ _ _ h => h) (Or.inl ⟨by rfl, ?_⟩) (by assumption) ?_
      rotate_left
      · (intro w hSw; (try dsimp only at hSw); go_simp <;> try with_reducible rfl)
      try simp only [Act.put, List.setIfInBounds_toArray, List.set_cons_zero, List.set_cons_succ]
      refine wpAnyH_take (i := 2) (oi := { dst := some 17, op := Go.Op.move (Go.Operand.tmp 4), type := 40, pos := "l03_rates.go:91", after := #[], guard := none }) (v := ?_) rfl (by kernel_rfl) (by kernel_rfl) (by kernel_rfl) (fun _ _ _ h => h) (Or.inl ⟨by rfl, ?_⟩) (by assumption) ?_
      rotate_left
      · (intro w hSw; (try dsimp only at hSw); go_simp <;> try with_reducible rfl)
      try simp only [Act.put, List.setIfInBounds_toArray, List.set_cons_zero, List.set_cons_succ]
      refine wpAnyH_take (i := 3) (oi := { dst := some 18, op := Go.Op.call { callee := Go.Callee.builtin Go.Builtin.len, args := #[Go.Operand.tmp 17], argTypes := #[40] }, type := 3, pos := "l03_rates.go:91", after := #[{ on := 2, ground := Go.Ground.data }], guard := none }) (v := ?_) rfl (by kernel_rfl) (by kernel_rfl) (by kernel_rfl) (fun _ _ _ h => h) (Or.inl ⟨by rfl, ?_⟩) (by assumption) ?_
      rotate_left
      · (intro w hSw; (try dsimp only at hSw); go_simp <;> try with_reducible rfl)
      try simp only [Act.put, List.setIfInBounds_toArray, List.set_cons_zero, List.set_cons_succ]
      refine wpAnyH_take (i := 4) (oi := { dst := some 19, op := Go.Op.indexAddr 76 (Go.Operand.tmp 16) (Go.Operand.tmp 18), type := 0, pos := "l03_rates.go:91", after := #[{ on := 1, ground := Go.Ground.data }, { on := 3, ground := Go.Ground.data }], guard := none }) (v := ?_) rfl (by kernel_rfl) (by kernel_rfl) (by kernel_rfl) (fun _ _ _ h => h) (Or.inl ⟨by rfl, ?_⟩) (by assumption) ?_
      rotate_left
      · (intro w hSw; (try dsimp only at hSw); go_simp <;> try with_reducible rfl)
      try simp only [Act.put, List.setIfInBounds_toArray, List.set_cons_zero, List.set_cons_succ]
      refine wpAnyH_take (i := 5) (oi := { dst := some 20, op := Go.Op.load 9 (Go.Operand.tmp 19), type := 9, pos := "l03_rates.go:91", after := #[{ on := 4, ground := Go.Ground.data }], guard := none }) (v := ?_) rfl (by kernel_rfl) (by kernel_rfl) (by kernel_rfl) (fun _ _ _ h => h) (Or.inl ⟨by rfl, ?_⟩) (by assumption) ?_
      rotate_left
      · (intro w hSw; (try dsimp only at hSw); go_simp <;> try with_reducible rfl)
      try simp only [Act.put, List.setIfInBounds_toArray, List.set_cons_zero, List.set_cons_succ]
      refine wpAnyH_take (i := 6) (oi := { dst := some 21, op := Go.Op.move (Go.Operand.tmp 0), type := 56, pos := "l03_rates.go:91", after := #[], guard := none }) (v := ?_) rfl (by kernel_rfl) (by kernel_rfl) (by kernel_rfl) (fun _ _ _ h => h) (Or.inl ⟨by rfl, ?_⟩) (by assumption) ?_
      rotate_left
      · (intro w hSw; (try dsimp only at hSw); go_simp <;> try with_reducible rfl)
      try simp only [Act.put, List.setIfInBounds_toArray, List.set_cons_zero, List.set_cons_succ]
      refine wpAnyH_take (i := 9) (oi := { dst := some 24, op := Go.Op.move (Go.Operand.tmp 0), type := 56, pos := "l03_rates.go:91", after := #[], guard := none }) (v := ?_) rfl (by kernel_rfl) (by kernel_rfl) (by kernel_rfl) (fun _ _ _ h => h) (Or.inl ⟨by rfl, ?_⟩) (by assumption) ?_
      rotate_left
      · (intro w hSw; (try dsimp only at hSw); go_simp <;> try with_reducible rfl)
      try simp only [Act.put, List.setIfInBounds_toArray, List.set_cons_zero, List.set_cons_succ]
      refine wpAnyH_ready (rs := [7, 10]) (by kernel_rfl) (by simp) ?_
      refine AllReadyH.cons (o := { dst := some 22, op := Go.Op.buildSlice 63 5 #[(0, Go.Operand.const (Go.Value.int Go.IntKind.i64 2)), (1, Go.Operand.const (Go.Value.int Go.IntKind.i64 2)), (2, Go.Operand.const (Go.Value.int Go.IntKind.i64 0)), (3, Go.Operand.const (Go.Value.int Go.IntKind.i64 3)), (4, Go.Operand.const (Go.Value.int Go.IntKind.i64 6))], type := 63, pos := "l03_rates.go:91", after := #[], guard := none }) rfl (fun K hK => ?_) (AllReadyH.cons (o := { dst := some 25, op := Go.Op.buildSlice 63 4 #[(0, Go.Operand.const (Go.Value.int Go.IntKind.i64 1)), (1, Go.Operand.const (Go.Value.int Go.IntKind.i64 5)), (2, Go.Operand.const (Go.Value.int Go.IntKind.i64 10)), (3, Go.Operand.const (Go.Value.int Go.IntKind.i64 100))], type := 63, pos := "l03_rates.go:91", after := #[], guard := none }) rfl (fun K hK => ?_) (AllReadyH.nil))
      · go_simp
        refine hK.out _ _ (by exact ((hA.alloc (.cells #[.int .i64 2, .int .i64 2, .int .i64 0, .int .i64 3, .int .i64 6] 3 (0, 0))).cell _).trans hs1) (fun hHeld => ?_)
        clear hK K
        try simp only [Act.put, List.setIfInBounds_toArray, List.set_cons_zero, List.set_cons_succ]
        refine wpAnyH_ready (rs := [8, 10]) (by kernel_rfl) (by simp) ?_
        refine AllReadyH.cons (o := { dst := some 23, op := Go.Op.call { callee := Go.Callee.value (Go.Operand.func 62), args := #[Go.Operand.tmp 21, Go.Operand.tmp 22], argTypes := #[56, 63] }, type := 3, pos := "l03_rates.go:91", after := #[{ on := 6, ground := Go.Ground.data }, { on := 7, ground := Go.Ground.data }], guard := none }) rfl (fun K hK => ?_) (AllReadyH.cons (o := { dst := some 25, op := Go.Op.buildSlice 63 4 #[(0, Go.Operand.const (Go.Value.int Go.IntKind.i64 1)), (1, Go.Operand.const (Go.Value.int Go.IntKind.i64 5)), (2, Go.Operand.const (Go.Value.int Go.IntKind.i64 10)), (3, Go.Operand.const (Go.Value.int Go.IntKind.i64 100))], type := 63, pos := "l03_rates.go:91", after := #[], guard := none }) rfl (fun K hK => ?_) (AllReadyH.nil))
        · go_simp
          refine (pick_any b (some ⟨wr.heap.size, 0, none⟩) [2, 2, 0, 3, 6] 5 5 (wr.alloc (.cells #[.int .i64 2, .int .i64 2, .int .i64 0, .int .i64 3, .int .i64 6] 3 (0, 0))).drew (hCu.alloc _).drew (IntRow.made (w := wr) hCu.lt #[.int .i64 2, .int .i64 2, .int .i64 0, .int .i64 3, .int .i64 6] 3 [2, 2, 0, 3, 6] rfl) rfl (by decide) (by decide)).mono ?_
          rintro e w2 ⟨y1, rfl, _, m2⟩
          have T2 : Turns b wr w2 := ((Turns.refl b wr).alloc (.cells #[.int .i64 2, .int .i64 2, .int .i64 0, .int .i64 3, .int .i64 6] 3 (0, 0))).drew.trans m2.2
          have hsN : w2.cell? ⟨w.heap.size, l.length, none⟩ = some (.string s) := ((hA.turns (T2) hAb).cell _).trans hs1
          first | refine hK.out _ _ (by exact hsN) (fun hHeld => ?_) | (go_wp2_with fail; refine hK.out _ _ (by exact hsN) (fun hHeld => ?_))
          clear hK K
          try simp only [Act.put, List.setIfInBounds_toArray, List.set_cons_zero, List.set_cons_succ]
          have hsB : (w2.alloc (.cells #[.int .i64 1, .int .i64 5, .int .i64 10, .int .i64 100] 3 (0, 0))).cell? ⟨w.heap.size, l.length, none⟩ = some (.string s) := (((hA.turns T2 hAb).alloc _).cell _).trans hs1
          refine wpAnyH_ready (rs := [10]) (by kernel_rfl) (by simp) ?_
          refine AllReadyH.cons (o := { dst := some 25, op := Go.Op.buildSlice 63 4 #[(0, Go.Operand.const (Go.Value.int Go.IntKind.i64 1)), (1, Go.Operand.const (Go.Value.int Go.IntKind.i64 5)), (2, Go.Operand.const (Go.Value.int Go.IntKind.i64 10)), (3, Go.Operand.const (Go.Value.int Go.IntKind.i64 100))], type := 63, pos := "l03_rates.go:91", after := #[], guard := none }) rfl (fun K hK => ?_) (AllReadyH.nil)
          go_simp
          refine hK.out _ _ (by exact hsB) (fun hHeld => ?_)
          clear hK K
          try simp only [Act.put, List.setIfInBounds_toArray, List.set_cons_zero, List.set_cons_succ]
          refine wpAnyH_ready (rs := [11]) (by kernel_rfl) (by simp) ?_
          refine AllReadyH.cons (o := { dst := some 26, op := Go.Op.call { callee := Go.Callee.value (Go.Operand.func 62), args := #[Go.Operand.tmp 24, Go.Operand.tmp 25], argTypes := #[56, 63] }, type := 3, pos := "l03_rates.go:91", after := #[{ on := 9, ground := Go.Ground.data }, { on := 10, ground := Go.Ground.data }, { on := 8, ground := Go.Ground.chain }], guard := none }) rfl (fun K hK => ?_) (AllReadyH.nil)
          clear hsN
          go_simp
          refine (pick_any b (some ⟨w2.heap.size, 0, none⟩) [1, 5, 10, 100] 4 4 (w2.alloc (.cells #[.int .i64 1, .int .i64 5, .int .i64 10, .int .i64 100] 3 (0, 0))) (m2.1.alloc _) (IntRow.made (w := w2) m2.1.lt #[.int .i64 1, .int .i64 5, .int .i64 10, .int .i64 100] 3 [1, 5, 10, 100] rfl) rfl (by decide) (by decide)).mono ?_
          rintro e w3 ⟨y2, rfl, _, m3⟩
          have T3 : Turns b wr w3 := (T2.alloc (.cells #[.int .i64 1, .int .i64 5, .int .i64 10, .int .i64 100] 3 (0, 0))).trans m3.2
          have C3c : Cursor w3 b := m3.1
          have hsN : w3.cell? ⟨w.heap.size, l.length, none⟩ = some (.string s) := ((hA.turns (T3) hAb).cell _).trans hs1
          first | refine hK.out _ _ (by exact hsN) (fun hHeld => ?_) | (go_wp2_with fail; refine hK.out _ _ (by exact hsN) (fun hHeld => ?_))
          clear hK K
          try simp only [Act.put, List.setIfInBounds_toArray, List.set_cons_zero, List.set_cons_succ]
          refine wpAnyH_take (i := 12) (oi := { dst := some 27, op := Go.Op.build 33 #[(0, Go.Operand.tmp 20), (1, Go.Operand.tmp 23), (2, Go.Operand.tmp 26)], type := 33, pos := "l03_rates.go:91", after := #[{ on := 5, ground := Go.Ground.data }, { on := 8, ground := Go.Ground.data }, { on := 11, ground := Go.Ground.data }], guard := none }) (v := ?_) rfl (by kernel_rfl) (by kernel_rfl) (by kernel_rfl) (fun _ _ _ h => h) (Or.inl ⟨by rfl, ?_⟩) (by assumption) ?_
          rotate_left
          · (intro w hSw; (try dsimp only at hSw); go_simp <;> try with_reducible rfl)
          try simp only [Act.put, List.setIfInBounds_toArray, List.set_cons_zero, List.set_cons_succ]
          have T3w : Turns b w w3 := hT.trans T3
          have A3 : CB w3 w.heap.size allS 9 := hA.turns T3 hAb
          have O3 : w3.ownsRow (w.heap.size + 1) 33 3 (.slice (some ⟨g, 0, none⟩) l.length cap) l.length (flatC l) := hO.kept T3.grownBy (.inr (fun e => by simp [Value.ownBlock] at e; omega))
          have sT : (w3.alloc (.cells #[.string s, .int .i64 y1, .int .i64 y2] 33 (0, 0))).cell? ⟨w.heap.size, l.length, none⟩ = some (.string s) := ((A3.alloc _).cell _).trans hs1
          refine wpAnyH_ready (rs := [13]) (by kernel_rfl) (by simp) ?_
          refine AllReadyH.cons (o := { dst := some 28, op := Go.Op.buildSlice 40 1 #[(0, Go.Operand.tmp 27)], type := 40, pos := "l03_rates.go:91", after := #[{ on := 12, ground := Go.Ground.data }], guard := none }) rfl (fun K hK => ?_) (AllReadyH.nil)
          go_simp
          refine hK.out _ _ (by exact sT) (fun hHeld => ?_)
          clear hK K
          try simp only [Act.put, List.setIfInBounds_toArray, List.set_cons_zero, List.set_cons_succ]
          refine wpAnyH_ready (rs := [14]) (by kernel_rfl) (by simp) ?_
          refine AllReadyH.cons (o := { dst := some 29, op := Go.Op.call { callee := Go.Callee.builtin Go.Builtin.append, args := #[Go.Operand.tmp 15, Go.Operand.tmp 28], argTypes := #[40, 40] }, type := 40, pos := "l03_rates.go:91", after := #[{ on := 0, ground := Go.Ground.data }, { on := 13, ground := Go.Ground.data }, { on := 11, ground := Go.Ground.chain }], guard := none }) rfl (fun K hK => ?_) (AllReadyH.nil)
          rw [if_pos (by rfl)]
          refine oper_append (Operand.tmp 15) (Operand.tmp 28) 40 rfl (w.heap.size + 1) 33 i0 (.agg #[.string ByteArray.empty, .int .i64 0, .int .i64 0]) 3 32 Try.underlying40 hi hz0 hz1 hz2 rfl (by decide) (.slice (some ⟨g, 0, none⟩) l.length cap) l.length (flatC l) rfl (O3.alloc _) ⟨w3.heap.size, 0, none⟩ 1 1 (C3.cells ⟨s, y1, y2⟩) rfl rfl (three_new w3 ⟨s, y1, y2⟩ 33) (three_one ⟨s, y1, y2⟩) (by unfold maxLen; omega) (by omega) (by have := T3w.size; have := T3.size; simp; omega) ?_
          intro v' w5 hown5 hgrow5 hloc5
          obtain ⟨g', cap', rfl, hg'⟩ := ownsRow_some hown5 (by omega)
          have nA : some w.heap.size ≠ (Value.slice (some ⟨g, 0, none⟩) l.length cap).ownBlock := fun e => by simp [Value.ownBlock] at e; omega
          have lo : ∀ k, (Value.slice (some ⟨g, 0, none⟩) l.length cap).ownBlock = some k → w.heap.size + 1 ≤ k := fun k e => by simp [Value.ownBlock] at e; omega
          have A5 : CB w5 w.heap.size allS 9 := (A3.alloc _).grown hgrow5 nA
          have C5 : Cursor w5 b := (C3c.alloc _).grown hgrow5 (fun k e => by have := lo k e; omega)
          have T5 : Turns b w w5 := (T3w.alloc _).grown hgrow5 (fun k e => by have := lo k e; omega)
          refine hK.out _ _ (by exact (A5.cell _).trans hs1) (fun hHeld => ?_)
          clear hK K
          try simp only [Act.put, List.setIfInBounds_toArray, List.set_cons_zero, List.set_cons_succ]
          refine wpAnyH_take (i := 15) (oi := { dst := some 4, op := Go.Op.assign (Go.Operand.tmp 29), type := 40, pos := "l03_rates.go:91", after := #[{ on := 14, ground := Go.Ground.data }, { on := 14, ground := Go.Ground.chain }, { on := 0, ground := Go.Ground.phase }, { on := 1, ground := Go.Ground.phase }, { on := 2, ground := Go.Ground.phase }, { on := 3, ground := Go.Ground.phase }, { on := 4, ground := Go.Ground.phase }, { on := 5, ground := Go.Ground.phase }, { on := 6, ground := Go.Ground.phase }, { on := 7, ground := Go.Ground.phase }, { on := 8, ground := Go.Ground.phase }, { on := 9, ground := Go.Ground.phase }, { on := 10, ground := Go.Ground.phase }, { on := 11, ground := Go.Ground.phase }, { on := 12, ground := Go.Ground.phase }, { on := 13, ground := Go.Ground.phase }, { on := 14, ground := Go.Ground.phase }], guard := none }) (v := ?_) rfl (by kernel_rfl) (by kernel_rfl) (by kernel_rfl) (fun _ _ _ h => h) (Or.inl ⟨by rfl, ?_⟩) (by assumption) ?_
          rotate_left
          · (intro w hSw; (try dsimp only at hSw); go_simp <;> try with_reducible rfl)
          try simp only [Act.put, List.setIfInBounds_toArray, List.set_cons_zero, List.set_cons_succ]
          refine wpAnyH_done (by kernel_rfl) ?_ _
          refine NoPanic.normal ?_
          have O5 : w5.ownsRow (w.heap.size + 1) 33 3 (.slice (some ⟨g', 0, none⟩) (l ++ [(⟨s, y1, y2⟩ : C3)]).length cap') (l ++ [(⟨s, y1, y2⟩ : C3)]).length (flatC (l ++ [(⟨s, y1, y2⟩ : C3)])) := by rw [flatC_snoc, show (l ++ [(⟨s, y1, y2⟩ : C3)]).length = l.length + 1 by simp]; exact hown5
          go_wp2
          go_roundw
          case rel => exact ⟨l ++ [(⟨s, y1, y2⟩ : C3)], z - 1, g', cap', by simp, rfl, by omega, by simp; omega, by simp; omega, ok_snoc hok hs2, hg', O5, A5, C5, T5⟩
          case measure => simp [intOf]; omega
        · go_simp
          refine hK.out _ _ (by exact (((hA.alloc (.cells #[.int .i64 2, .int .i64 2, .int .i64 0, .int .i64 3, .int .i64 6] 3 (0, 0))).alloc (.cells #[.int .i64 1, .int .i64 5, .int .i64 10, .int .i64 100] 3 (0, 0))).cell _).trans hs1) (fun hHeld => ?_)
          clear hK K
          try simp only [Act.put, List.setIfInBounds_toArray, List.set_cons_zero, List.set_cons_succ]
          refine wpAnyH_ready (rs := [8]) (by kernel_rfl) (by simp) ?_
          refine AllReadyH.cons (o := { dst := some 23, op := Go.Op.call { callee := Go.Callee.value (Go.Operand.func 62), args := #[Go.Operand.tmp 21, Go.Operand.tmp 22], argTypes := #[56, 63] }, type := 3, pos := "l03_rates.go:91", after := #[{ on := 6, ground := Go.Ground.data }, { on := 7, ground := Go.Ground.data }], guard := none }) rfl (fun K hK => ?_) (AllReadyH.nil)
          go_simp
          refine (pick_any b (some ⟨wr.heap.size, 0, none⟩) [2, 2, 0, 3, 6] 5 5 ((wr.alloc (.cells #[.int .i64 2, .int .i64 2, .int .i64 0, .int .i64 3, .int .i64 6] 3 (0, 0))).alloc (.cells #[.int .i64 1, .int .i64 5, .int .i64 10, .int .i64 100] 3 (0, 0))).drew ((hCu.alloc _).alloc _).drew (row_ad (IntRow.made (w := wr) hCu.lt #[.int .i64 2, .int .i64 2, .int .i64 0, .int .i64 3, .int .i64 6] 3 [2, 2, 0, 3, 6] rfl) _) rfl (by decide) (by decide)).mono ?_
          rintro e w2 ⟨y1, rfl, _, m2⟩
          have T2 : Turns b wr w2 := (((Turns.refl b wr).alloc _).alloc _).drew.trans m2.2
          have hsN : w2.cell? ⟨w.heap.size, l.length, none⟩ = some (.string s) := ((hA.turns (T2) hAb).cell _).trans hs1
          first | refine hK.out _ _ (by exact hsN) (fun hHeld => ?_) | (go_wp2_with fail; refine hK.out _ _ (by exact hsN) (fun hHeld => ?_))
          clear hK K
          try simp only [Act.put, List.setIfInBounds_toArray, List.set_cons_zero, List.set_cons_succ]
          refine wpAnyH_ready (rs := [11]) (by kernel_rfl) (by simp) ?_
          refine AllReadyH.cons (o := { dst := some 26, op := Go.Op.call { callee := Go.Callee.value (Go.Operand.func 62), args := #[Go.Operand.tmp 24, Go.Operand.tmp 25], argTypes := #[56, 63] }, type := 3, pos := "l03_rates.go:91", after := #[{ on := 9, ground := Go.Ground.data }, { on := 10, ground := Go.Ground.data }, { on := 8, ground := Go.Ground.chain }], guard := none }) rfl (fun K hK => ?_) (AllReadyH.nil)
          clear hsN
          go_simp
          refine (pick_any b (some ⟨wr.heap.size + 1, 0, none⟩) [1, 5, 10, 100] 4 4 w2 m2.1 ((row_dr (row_at (by simp) (IntRow.made (w := wr.alloc (.cells #[.int .i64 2, .int .i64 2, .int .i64 0, .int .i64 3, .int .i64 6] 3 (0, 0))) (hCu.alloc _).lt #[.int .i64 1, .int .i64 5, .int .i64 10, .int .i64 100] 3 [1, 5, 10, 100] rfl))).turns m2.2) rfl (by decide) (by decide)).mono ?_
          rintro e w3 ⟨y2, rfl, _, m3⟩
          have T3 : Turns b wr w3 := T2.trans m3.2
          have C3c : Cursor w3 b := m3.1
          have hsN : w3.cell? ⟨w.heap.size, l.length, none⟩ = some (.string s) := ((hA.turns (T3) hAb).cell _).trans hs1
          first | refine hK.out _ _ (by exact hsN) (fun hHeld => ?_) | (go_wp2_with fail; refine hK.out _ _ (by exact hsN) (fun hHeld => ?_))
          clear hK K
          try simp only [Act.put, List.setIfInBounds_toArray, List.set_cons_zero, List.set_cons_succ]
          refine wpAnyH_take (i := 12) (oi := { dst := some 27, op := Go.Op.build 33 #[(0, Go.Operand.tmp 20), (1, Go.Operand.tmp 23), (2, Go.Operand.tmp 26)], type := 33, pos := "l03_rates.go:91", after := #[{ on := 5, ground := Go.Ground.data }, { on := 8, ground := Go.Ground.data }, { on := 11, ground := Go.Ground.data }], guard := none }) (v := ?_) rfl (by kernel_rfl) (by kernel_rfl) (by kernel_rfl) (fun _ _ _ h => h) (Or.inl ⟨by rfl, ?_⟩) (by assumption) ?_
          rotate_left
          · (intro w hSw; (try dsimp only at hSw); go_simp <;> try with_reducible rfl)
          try simp only [Act.put, List.setIfInBounds_toArray, List.set_cons_zero, List.set_cons_succ]
          have T3w : Turns b w w3 := hT.trans T3
          have A3 : CB w3 w.heap.size allS 9 := hA.turns T3 hAb
          have O3 : w3.ownsRow (w.heap.size + 1) 33 3 (.slice (some ⟨g, 0, none⟩) l.length cap) l.length (flatC l) := hO.kept T3.grownBy (.inr (fun e => by simp [Value.ownBlock] at e; omega))
          have sT : (w3.alloc (.cells #[.string s, .int .i64 y1, .int .i64 y2] 33 (0, 0))).cell? ⟨w.heap.size, l.length, none⟩ = some (.string s) := ((A3.alloc _).cell _).trans hs1
          refine wpAnyH_ready (rs := [13]) (by kernel_rfl) (by simp) ?_
          refine AllReadyH.cons (o := { dst := some 28, op := Go.Op.buildSlice 40 1 #[(0, Go.Operand.tmp 27)], type := 40, pos := "l03_rates.go:91", after := #[{ on := 12, ground := Go.Ground.data }], guard := none }) rfl (fun K hK => ?_) (AllReadyH.nil)
          go_simp
          refine hK.out _ _ (by exact sT) (fun hHeld => ?_)
          clear hK K
          try simp only [Act.put, List.setIfInBounds_toArray, List.set_cons_zero, List.set_cons_succ]
          refine wpAnyH_ready (rs := [14]) (by kernel_rfl) (by simp) ?_
          refine AllReadyH.cons (o := { dst := some 29, op := Go.Op.call { callee := Go.Callee.builtin Go.Builtin.append, args := #[Go.Operand.tmp 15, Go.Operand.tmp 28], argTypes := #[40, 40] }, type := 40, pos := "l03_rates.go:91", after := #[{ on := 0, ground := Go.Ground.data }, { on := 13, ground := Go.Ground.data }, { on := 11, ground := Go.Ground.chain }], guard := none }) rfl (fun K hK => ?_) (AllReadyH.nil)
          rw [if_pos (by rfl)]
          refine oper_append (Operand.tmp 15) (Operand.tmp 28) 40 rfl (w.heap.size + 1) 33 i0 (.agg #[.string ByteArray.empty, .int .i64 0, .int .i64 0]) 3 32 Try.underlying40 hi hz0 hz1 hz2 rfl (by decide) (.slice (some ⟨g, 0, none⟩) l.length cap) l.length (flatC l) rfl (O3.alloc _) ⟨w3.heap.size, 0, none⟩ 1 1 (C3.cells ⟨s, y1, y2⟩) rfl rfl (three_new w3 ⟨s, y1, y2⟩ 33) (three_one ⟨s, y1, y2⟩) (by unfold maxLen; omega) (by omega) (by have := T3w.size; have := T3.size; simp; omega) ?_
          intro v' w5 hown5 hgrow5 hloc5
          obtain ⟨g', cap', rfl, hg'⟩ := ownsRow_some hown5 (by omega)
          have nA : some w.heap.size ≠ (Value.slice (some ⟨g, 0, none⟩) l.length cap).ownBlock := fun e => by simp [Value.ownBlock] at e; omega
          have lo : ∀ k, (Value.slice (some ⟨g, 0, none⟩) l.length cap).ownBlock = some k → w.heap.size + 1 ≤ k := fun k e => by simp [Value.ownBlock] at e; omega
          have A5 : CB w5 w.heap.size allS 9 := (A3.alloc _).grown hgrow5 nA
          have C5 : Cursor w5 b := (C3c.alloc _).grown hgrow5 (fun k e => by have := lo k e; omega)
          have T5 : Turns b w w5 := (T3w.alloc _).grown hgrow5 (fun k e => by have := lo k e; omega)
          refine hK.out _ _ (by exact (A5.cell _).trans hs1) (fun hHeld => ?_)
          clear hK K
          try simp only [Act.put, List.setIfInBounds_toArray, List.set_cons_zero, List.set_cons_succ]
          refine wpAnyH_take (i := 15) (oi := { dst := some 4, op := Go.Op.assign (Go.Operand.tmp 29), type := 40, pos := "l03_rates.go:91", after := #[{ on := 14, ground := Go.Ground.data }, { on := 14, ground := Go.Ground.chain }, { on := 0, ground := Go.Ground.phase }, { on := 1, ground := Go.Ground.phase }, { on := 2, ground := Go.Ground.phase }, { on := 3, ground := Go.Ground.phase }, { on := 4, ground := Go.Ground.phase }, { on := 5, ground := Go.Ground.phase }, { on := 6, ground := Go.Ground.phase }, { on := 7, ground := Go.Ground.phase }, { on := 8, ground := Go.Ground.phase }, { on := 9, ground := Go.Ground.phase }, { on := 10, ground := Go.Ground.phase }, { on := 11, ground := Go.Ground.phase }, { on := 12, ground := Go.Ground.phase }, { on := 13, ground := Go.Ground.phase }, { on := 14, ground := Go.Ground.phase }], guard := none }) (v := ?_) rfl (by kernel_rfl) (by kernel_rfl) (by kernel_rfl) (fun _ _ _ h => h) (Or.inl ⟨by rfl, ?_⟩) (by assumption) ?_
          rotate_left
          · (intro w hSw; (try dsimp only at hSw); go_simp <;> try with_reducible rfl)
          try simp only [Act.put, List.setIfInBounds_toArray, List.set_cons_zero, List.set_cons_succ]
          refine wpAnyH_done (by kernel_rfl) ?_ _
          refine NoPanic.normal ?_
          have O5 : w5.ownsRow (w.heap.size + 1) 33 3 (.slice (some ⟨g', 0, none⟩) (l ++ [(⟨s, y1, y2⟩ : C3)]).length cap') (l ++ [(⟨s, y1, y2⟩ : C3)]).length (flatC (l ++ [(⟨s, y1, y2⟩ : C3)])) := by rw [flatC_snoc, show (l ++ [(⟨s, y1, y2⟩ : C3)]).length = l.length + 1 by simp]; exact hown5
          go_wp2
          go_roundw
          case rel => exact ⟨l ++ [(⟨s, y1, y2⟩ : C3)], z - 1, g', cap', by simp, rfl, by omega, by simp; omega, by simp; omega, ok_snoc hok hs2, hg', O5, A5, C5, T5⟩
          case measure => simp [intOf]; omega
      · go_simp
        refine hK.out _ _ (by exact ((hA.alloc (.cells #[.int .i64 1, .int .i64 5, .int .i64 10, .int .i64 100] 3 (0, 0))).cell _).trans hs1) (fun hHeld => ?_)
        clear hK K
        try simp only [Act.put, List.setIfInBounds_toArray, List.set_cons_zero, List.set_cons_succ]
        refine wpAnyH_ready (rs := [7]) (by kernel_rfl) (by simp) ?_
        refine AllReadyH.cons (o := { dst := some 22, op := Go.Op.buildSlice 63 5 #[(0, Go.Operand.const (Go.Value.int Go.IntKind.i64 2)), (1, Go.Operand.const (Go.Value.int Go.IntKind.i64 2)), (2, Go.Operand.const (Go.Value.int Go.IntKind.i64 0)), (3, Go.Operand.const (Go.Value.int Go.IntKind.i64 3)), (4, Go.Operand.const (Go.Value.int Go.IntKind.i64 6))], type := 63, pos := "l03_rates.go:91", after := #[], guard := none }) rfl (fun K hK => ?_) (AllReadyH.nil)
        go_simp
        refine hK.out _ _ (by exact (((hA.alloc (.cells #[.int .i64 1, .int .i64 5, .int .i64 10, .int .i64 100] 3 (0, 0))).alloc (.cells #[.int .i64 2, .int .i64 2, .int .i64 0, .int .i64 3, .int .i64 6] 3 (0, 0))).cell _).trans hs1) (fun hHeld => ?_)
        clear hK K
        try simp only [Act.put, List.setIfInBounds_toArray, List.set_cons_zero, List.set_cons_succ]
        refine wpAnyH_ready (rs := [8]) (by kernel_rfl) (by simp) ?_
        refine AllReadyH.cons (o := { dst := some 23, op := Go.Op.call { callee := Go.Callee.value (Go.Operand.func 62), args := #[Go.Operand.tmp 21, Go.Operand.tmp 22], argTypes := #[56, 63] }, type := 3, pos := "l03_rates.go:91", after := #[{ on := 6, ground := Go.Ground.data }, { on := 7, ground := Go.Ground.data }], guard := none }) rfl (fun K hK => ?_) (AllReadyH.nil)
        go_simp
        refine (pick_any b (some ⟨wr.heap.size + 1, 0, none⟩) [2, 2, 0, 3, 6] 5 5 ((wr.alloc (.cells #[.int .i64 1, .int .i64 5, .int .i64 10, .int .i64 100] 3 (0, 0))).alloc (.cells #[.int .i64 2, .int .i64 2, .int .i64 0, .int .i64 3, .int .i64 6] 3 (0, 0))).drew ((hCu.alloc _).alloc _).drew (row_at (by simp) (IntRow.made (w := wr.alloc (.cells #[.int .i64 1, .int .i64 5, .int .i64 10, .int .i64 100] 3 (0, 0))) (hCu.alloc _).lt #[.int .i64 2, .int .i64 2, .int .i64 0, .int .i64 3, .int .i64 6] 3 [2, 2, 0, 3, 6] rfl)) rfl (by decide) (by decide)).mono ?_
        rintro e w2 ⟨y1, rfl, _, m2⟩
        have T2 : Turns b wr w2 := (((Turns.refl b wr).alloc _).alloc _).drew.trans m2.2
        have hsN : w2.cell? ⟨w.heap.size, l.length, none⟩ = some (.string s) := ((hA.turns (T2) hAb).cell _).trans hs1
        first | refine hK.out _ _ (by exact hsN) (fun hHeld => ?_) | (go_wp2_with fail; refine hK.out _ _ (by exact hsN) (fun hHeld => ?_))
        clear hK K
        try simp only [Act.put, List.setIfInBounds_toArray, List.set_cons_zero, List.set_cons_succ]
        refine wpAnyH_ready (rs := [11]) (by kernel_rfl) (by simp) ?_
        refine AllReadyH.cons (o := { dst := some 26, op := Go.Op.call { callee := Go.Callee.value (Go.Operand.func 62), args := #[Go.Operand.tmp 24, Go.Operand.tmp 25], argTypes := #[56, 63] }, type := 3, pos := "l03_rates.go:91", after := #[{ on := 9, ground := Go.Ground.data }, { on := 10, ground := Go.Ground.data }, { on := 8, ground := Go.Ground.chain }], guard := none }) rfl (fun K hK => ?_) (AllReadyH.nil)
        clear hsN
        go_simp
        refine (pick_any b (some ⟨wr.heap.size, 0, none⟩) [1, 5, 10, 100] 4 4 w2 m2.1 ((row_ad (IntRow.made (w := wr) hCu.lt #[.int .i64 1, .int .i64 5, .int .i64 10, .int .i64 100] 3 [1, 5, 10, 100] rfl) (.cells #[.int .i64 2, .int .i64 2, .int .i64 0, .int .i64 3, .int .i64 6] 3 (0, 0))).turns m2.2) rfl (by decide) (by decide)).mono ?_
        rintro e w3 ⟨y2, rfl, _, m3⟩
        have T3 : Turns b wr w3 := T2.trans m3.2
        have C3c : Cursor w3 b := m3.1
        have hsN : w3.cell? ⟨w.heap.size, l.length, none⟩ = some (.string s) := ((hA.turns (T3) hAb).cell _).trans hs1
        first | refine hK.out _ _ (by exact hsN) (fun hHeld => ?_) | (go_wp2_with fail; refine hK.out _ _ (by exact hsN) (fun hHeld => ?_))
        clear hK K
        try simp only [Act.put, List.setIfInBounds_toArray, List.set_cons_zero, List.set_cons_succ]
        refine wpAnyH_take (i := 12) (oi := { dst := some 27, op := Go.Op.build 33 #[(0, Go.Operand.tmp 20), (1, Go.Operand.tmp 23), (2, Go.Operand.tmp 26)], type := 33, pos := "l03_rates.go:91", after := #[{ on := 5, ground := Go.Ground.data }, { on := 8, ground := Go.Ground.data }, { on := 11, ground := Go.Ground.data }], guard := none }) (v := ?_) rfl (by kernel_rfl) (by kernel_rfl) (by kernel_rfl) (fun _ _ _ h => h) (Or.inl ⟨by rfl, ?_⟩) (by assumption) ?_
        rotate_left
        · (intro w hSw; (try dsimp only at hSw); go_simp <;> try with_reducible rfl)
        try simp only [Act.put, List.setIfInBounds_toArray, List.set_cons_zero, List.set_cons_succ]
        have T3w : Turns b w w3 := hT.trans T3
        have A3 : CB w3 w.heap.size allS 9 := hA.turns T3 hAb
        have O3 : w3.ownsRow (w.heap.size + 1) 33 3 (.slice (some ⟨g, 0, none⟩) l.length cap) l.length (flatC l) := hO.kept T3.grownBy (.inr (fun e => by simp [Value.ownBlock] at e; omega))
        have sT : (w3.alloc (.cells #[.string s, .int .i64 y1, .int .i64 y2] 33 (0, 0))).cell? ⟨w.heap.size, l.length, none⟩ = some (.string s) := ((A3.alloc _).cell _).trans hs1
        refine wpAnyH_ready (rs := [13]) (by kernel_rfl) (by simp) ?_
        refine AllReadyH.cons (o := { dst := some 28, op := Go.Op.buildSlice 40 1 #[(0, Go.Operand.tmp 27)], type := 40, pos := "l03_rates.go:91", after := #[{ on := 12, ground := Go.Ground.data }], guard := none }) rfl (fun K hK => ?_) (AllReadyH.nil)
        go_simp
        refine hK.out _ _ (by exact sT) (fun hHeld => ?_)
        clear hK K
        try simp only [Act.put, List.setIfInBounds_toArray, List.set_cons_zero, List.set_cons_succ]
        refine wpAnyH_ready (rs := [14]) (by kernel_rfl) (by simp) ?_
        refine AllReadyH.cons (o := { dst := some 29, op := Go.Op.call { callee := Go.Callee.builtin Go.Builtin.append, args := #[Go.Operand.tmp 15, Go.Operand.tmp 28], argTypes := #[40, 40] }, type := 40, pos := "l03_rates.go:91", after := #[{ on := 0, ground := Go.Ground.data }, { on := 13, ground := Go.Ground.data }, { on := 11, ground := Go.Ground.chain }], guard := none }) rfl (fun K hK => ?_) (AllReadyH.nil)
        rw [if_pos (by rfl)]
        refine oper_append (Operand.tmp 15) (Operand.tmp 28) 40 rfl (w.heap.size + 1) 33 i0 (.agg #[.string ByteArray.empty, .int .i64 0, .int .i64 0]) 3 32 Try.underlying40 hi hz0 hz1 hz2 rfl (by decide) (.slice (some ⟨g, 0, none⟩) l.length cap) l.length (flatC l) rfl (O3.alloc _) ⟨w3.heap.size, 0, none⟩ 1 1 (C3.cells ⟨s, y1, y2⟩) rfl rfl (three_new w3 ⟨s, y1, y2⟩ 33) (three_one ⟨s, y1, y2⟩) (by unfold maxLen; omega) (by omega) (by have := T3w.size; have := T3.size; simp; omega) ?_
        intro v' w5 hown5 hgrow5 hloc5
        obtain ⟨g', cap', rfl, hg'⟩ := ownsRow_some hown5 (by omega)
        have nA : some w.heap.size ≠ (Value.slice (some ⟨g, 0, none⟩) l.length cap).ownBlock := fun e => by simp [Value.ownBlock] at e; omega
        have lo : ∀ k, (Value.slice (some ⟨g, 0, none⟩) l.length cap).ownBlock = some k → w.heap.size + 1 ≤ k := fun k e => by simp [Value.ownBlock] at e; omega
        have A5 : CB w5 w.heap.size allS 9 := (A3.alloc _).grown hgrow5 nA
        have C5 : Cursor w5 b := (C3c.alloc _).grown hgrow5 (fun k e => by have := lo k e; omega)
        have T5 : Turns b w w5 := (T3w.alloc _).grown hgrow5 (fun k e => by have := lo k e; omega)
        refine hK.out _ _ (by exact (A5.cell _).trans hs1) (fun hHeld => ?_)
        clear hK K
        try simp only [Act.put, List.setIfInBounds_toArray, List.set_cons_zero, List.set_cons_succ]
        refine wpAnyH_take (i := 15) (oi := { dst := some 4, op := Go.Op.assign (Go.Operand.tmp 29), type := 40, pos := "l03_rates.go:91", after := #[{ on := 14, ground := Go.Ground.data }, { on := 14, ground := Go.Ground.chain }, { on := 0, ground := Go.Ground.phase }, { on := 1, ground := Go.Ground.phase }, { on := 2, ground := Go.Ground.phase }, { on := 3, ground := Go.Ground.phase }, { on := 4, ground := Go.Ground.phase }, { on := 5, ground := Go.Ground.phase }, { on := 6, ground := Go.Ground.phase }, { on := 7, ground := Go.Ground.phase }, { on := 8, ground := Go.Ground.phase }, { on := 9, ground := Go.Ground.phase }, { on := 10, ground := Go.Ground.phase }, { on := 11, ground := Go.Ground.phase }, { on := 12, ground := Go.Ground.phase }, { on := 13, ground := Go.Ground.phase }, { on := 14, ground := Go.Ground.phase }], guard := none }) (v := ?_) rfl (by kernel_rfl) (by kernel_rfl) (by kernel_rfl) (fun _ _ _ h => h) (Or.inl ⟨by rfl, ?_⟩) (by assumption) ?_
        rotate_left
        · (intro w hSw; (try dsimp only at hSw); go_simp <;> try with_reducible rfl)
        try simp only [Act.put, List.setIfInBounds_toArray, List.set_cons_zero, List.set_cons_succ]
        refine wpAnyH_done (by kernel_rfl) ?_ _
        refine NoPanic.normal ?_
        have O5 : w5.ownsRow (w.heap.size + 1) 33 3 (.slice (some ⟨g', 0, none⟩) (l ++ [(⟨s, y1, y2⟩ : C3)]).length cap') (l ++ [(⟨s, y1, y2⟩ : C3)]).length (flatC (l ++ [(⟨s, y1, y2⟩ : C3)])) := by rw [flatC_snoc, show (l ++ [(⟨s, y1, y2⟩ : C3)]).length = l.length + 1 by simp]; exact hown5
        go_wp2
        go_roundw
        case rel => exact ⟨l ++ [(⟨s, y1, y2⟩ : C3)], z - 1, g', cap', by simp, rfl, by omega, by simp; omega, by simp; omega, ok_snoc hok hs2, hg', O5, A5, C5, T5⟩
        case measure => simp [intOf]; omega
    · obtain rfl : z = 0 := by omega
      have HR : Hid (CR wr (some ⟨g, 0, none⟩) l.length (fun j => l.getD j ⟨ByteArray.empty, 0, 0⟩)) := curs_row hO
      have HM : Hid (Moved b w wr) := ⟨hCu, hT⟩
      have HK : Hid (∀ j, (l.getD j ⟨ByteArray.empty, 0, 0⟩ : C3).code.size ≤ maxLen) := fun j => by
        by_cases hj : j < l.length
        · have e : l.getD j ⟨ByteArray.empty, 0, 0⟩ = l[j] := by simp [List.getD, List.getElem?_eq_getElem hj]
          rw [e]; exact hok _ (List.getElem_mem _)
        · have e : l.getD j ⟨ByteArray.empty, 0, 0⟩ = ⟨ByteArray.empty, 0, 0⟩ := by simp [List.getD, List.getElem?_eq_none (Nat.le_of_not_lt hj)]
          rw [e]; exact Nat.zero_le _
      clear hO hA hCu hT hok
      go_wp2
      go_returns
      exact dcp (by omega) (by omega) HK.out (by omega) HR.out HM.out

end Go.Proofs.Ytidhnmodedbmgaa
