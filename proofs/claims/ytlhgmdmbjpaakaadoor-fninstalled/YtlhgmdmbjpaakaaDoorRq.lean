/- slices.Repeat of one 1: so many ones. -/
import Derived.Test.YtlhgmdmbjpaakaaDoorSm
import Derived.Shelf.Bits.Mul64
import Derived.Laws.CopyOwn
import Derived.Test.YtlhgmdmbjpaakaaDoorRf
import Derived.Deep.RegionHeld3
import Derived.Deep.RegionWith
import Derived.Deep.QuietTactic
import Derived.Handy
import Derived.Laws.EntriesVeiled
import Derived.Laws.MakeOwn
namespace Go.Proofs.YtlhgmdmbjpaakaaDoor
open Go Go.ChangeShapes Go.WideShapes Go.ChangeAt Go.RowKit
set_option linter.unusedVariables false
set_option linter.unusedSimpArgs false

set_option maxRecDepth 20000 in
theorem mul64_one (c : Nat) (hc : (c : Int) ≤ 120) (w : World) : Calls Tryd.prog 69 #[.int .u64 1, .int .u64 (c : Int)] w fun e w' => e = .returned (.tuple #[.int .u64 0, .int .u64 (c : Int)]) ∧ w' = w := by
  have hm : bits .and .u64 (c : Int) 4294967295 = (c : Int) := by rw [Mul64.maskN c (by omega)]; omega
  have hd : (c : Int) / 4294967296 = 0 := by omega
  have h1 : bits .and .u64 1 4294967295 = 1 := by decide
  have h0 : bits .and .u64 0 4294967295 = 0 := by decide
  have hc0 : (0 : Int) ≤ (c : Int) := by omega
  go_enter Tryd.func69, Tryd.ntmps69
  go_wp2
  go_returns
  exact ⟨rfl, rfl⟩
set_option maxRecDepth 20000 in
theorem mul_one (c : Nat) (hc : (c : Int) ≤ 120) (w : World) : Calls Tryd.prog 47 #[.int .u64 1, .int .u64 (c : Int)] w fun e w' => e = .returned (.tuple #[.int .u64 0, .int .u64 (c : Int)]) ∧ w' = w := by
  go_enter Tryd.func47, Tryd.ntmps47
  go_wp2_with (go_at_call 69; refine (mul64_one c hc _).mono ?_; rintro e w1 ⟨rfl, ew⟩; replace ew := ew.symm; subst ew)
  go_returns
  exact ⟨rfl, rfl⟩
def zerosI (n : Nat) : Array Value := madeCells #[.int .i64 0] n
theorem zerosI_size (n : Nat) : (zerosI n).size = n := size_madeCells _ _
set_option maxRecDepth 100000 in
theorem mkInts (n : Nat) (h : (n : Int) ≤ 1048576) (w : World) : (Instr.makeSlice 37 (.int .i64 (n : Int)) (.int .i64 (n : Int))).run Tryd.prog w = .ok (.slice (some ⟨w.heap.size, 0, none⟩) n n) (w.alloc (.cells (zerosI n) 3)) := by
  obtain ⟨i, hi⟩ : ∃ i, Tryd.prog.info? 3 = some i := ⟨_, rfl⟩
  have hz : i.zero = some (.int .i64 0) := by
    have : (Tryd.prog.info? 3).bind (·.zero) = some (.int .i64 0) := by kernel_rfl
    rw [hi] at this; exact this
  have hs : i.size = 1 := by
    have : (Tryd.prog.info? 3).map (·.size) = some 1 := by kernel_rfl
    rw [hi] at this; simpa using this
  have hb : i.bytes = 8 := by
    have : (Tryd.prog.info? 3).map (·.bytes) = some 8 := by kernel_rfl
    rw [hi] at this; simpa using this
  have hr := run_make (P := Tryd.prog) w 37 3 i (.int .i64 0) Tryd.underlying37 hi hz .i64 .i64 n n (by omega) (by omega) (by rw [hb]; omega) (by omega)
  simp only [Int.toNat_natCast, hs, Nat.mul_one] at hr
  exact hr
set_option maxRecDepth 20000 in
set_option maxHeartbeats 4000000 in
theorem repeat_any (c : Nat) (hc1 : (1 : Int) ≤ (c : Int)) (hc : (c : Int) ≤ 120) (kb cap : Nat) (w : World) (hx : w.cell? ⟨kb, 0, none⟩ = some (.int .i64 1)) :
    Calls Tryd.prog 17 #[.slice (some ⟨kb, 0, none⟩) 1 cap, .int .i64 (c : Int)] w fun e w' => e = .returned (.slice (some ⟨w.heap.size, 0, none⟩) c c) ∧ IR w' (some ⟨w.heap.size, 0, none⟩) c (fun _ => 1) ∧ Below w.heap.size w w' := by
  have hsz3 : (Tryd.prog.info? 3).map (·.size) = some 1 := by kernel_rfl
  have hmk := mkInts c (by omega)
  have hkb : kb < w.heap.size := World.block_lt_of_cell? w _ hx
  have HX : Hid (w.cell? ⟨kb, 0, none⟩ = some (.int .i64 1)) := hx
  clear hx
  obtain ⟨W4, hcp, hC4, hB4⟩ : ∃ W4, (Builtin.copy_ #[37, 37] 3 #[.slice (some ⟨w.heap.size, 0, none⟩) c c, .slice (some ⟨kb, 0, none⟩) 1 cap]).run Tryd.prog (w.alloc (.cells (zerosI c) 3)) = .ok (.int .i64 1) W4 ∧ (∃ L : List Value, CB W4 w.heap.size L.toArray 3 ∧ L.length = c ∧ ∀ j, j < 1 → L[j]? = some (.int .i64 1)) ∧ Below w.heap.size w W4 := by
    have hg : (w.alloc (.cells (zerosI c) 3)).heap[w.heap.size]? = some (.cells (zerosI c) 3 (0, 0)) := CB.new _ _
    have hrun := run_copy_row (P := Tryd.prog) (w.alloc (.cells (zerosI c) 3)) 37 37 3 3 w.heap.size 0 c c ⟨kb, 0, none⟩ 1 cap (zerosI c) 3 [.int .i64 1] Tryd.underlying37 hsz3 hg (by show (1 : Nat) = Nat.min 1 c; exact (Nat.min_eq_left (by omega)).symm) (fun j v hv => by
      have hj : j = 0 := by
        rcases Nat.lt_or_ge j 1 with q | q
        · omega
        · rw [List.getElem?_eq_none (by simpa using q)] at hv; cases hv
      subst hj
      simp at hv
      subst hv
      exact keep_cell ((Below.refl _ _).alloc (Nat.le_refl _) _) HX.out) (by rw [zerosI_size]; show 0 + 1 ≤ c; omega) (fun v hv => by simp at hv; subst hv; rfl)
    refine ⟨_, hrun, ⟨_, setRow_heap _ _ _ _ _ _ hg, ?_, ?_⟩, below_setRow ((Below.refl _ _).alloc (Nat.le_refl _) _) (Nat.le_refl _) _⟩
    · have := zerosI_size c
      simp; omega
    · intro j hj
      obtain rfl : j = 0 := by omega
      simp
  obtain ⟨L4, hC4, hL4, hO4⟩ := hC4
  have HC4 := hid hC4
  have HB4 := hid hB4
  have HO4 := hid hO4
  clear hC4 hB4 hO4
  go_enter Tryd.func17, Tryd.ntmps17
  go_wp2_with (go_at_call 47; refine (mul_one c hc _).mono ?_; rintro e w1 ⟨rfl, ew⟩; replace ew := ew.symm; subst ew)
  clear hcp hmk
  obtain ⟨g, hgg⟩ : ∃ g, w.heap.size = g := ⟨_, rfl⟩
  rw [hgg] at HC4 ⊢
  go_loopw [8] (fun x wr => ∃ (n : Nat) (L : List Value), x = .int .i64 (n : Int) ∧ 1 ≤ n ∧ n ≤ c ∧ L.length = c ∧ Hid (CB wr g L.toArray 3 ∧ (∀ j, j < n → L[j]? = some (.int .i64 1)) ∧ Below w.heap.size w wr)) (fun x _ => c - (intOf x).toNat)
  case atStart => exact ⟨1, L4, rfl, by omega, by omega, hL4, HC4.out, HO4.out, HB4.out⟩
  case round =>
    obtain ⟨n, L, rfl, hn1, hnc, hL, HH⟩ := hrel
    by_cases hlt : n < c
    · have hlt2 : (n : Int) < (c : Int) := by omega
      have hn0 : (0 : Int) ≤ (n : Int) := by omega
      have hle : (n : Int) ≤ (c : Int) := by omega
      have hCd : CB wr.drew g L.toArray 3 := HH.out.1
      have hBd : Below w.heap.size w wr.drew := HH.out.2.2.drew
      have hgw : w.heap.size ≤ g := by omega
      go_wp2
      obtain ⟨m, hm⟩ : ∃ m, min n (c - n) = m := ⟨_, rfl⟩
      have hm1 : 1 ≤ m := by omega
      have hm2 : m ≤ n := by omega
      have hm3 : n + m ≤ c := by omega
      have HMM : Hid (min n (c - n) = m) := hm
      clear hm
      have hwnm : IntKind.i64.wrap ((n : Int) + (m : Int)) = (n : Int) + (m : Int) := IntWalk.i64_in _ ⟨by omega, by omega⟩
      obtain ⟨cs, hcs⟩ : ∃ cs, List.replicate m (Value.int .i64 1) = cs := ⟨_, rfl⟩
      have hcl : cs.length = m := by rw [← hcs]; simp
      have HCS : Hid (List.replicate m (Value.int .i64 1) = cs) := hcs
      clear hcs
      refine wp_region_noPanic ?_
      refine wp_region_held_drew (S := fun _ => True) (by kernel_rfl) trivial (fun hHeld => ?_)
      refine wpAnyH_take (i := 0) (oi := { dst := some 38, op := Go.Op.move (Go.Operand.tmp 8), type := 3, pos := "slices.go:528", after := #[], guard := none }) (v := ?_) rfl (by kernel_rfl) (by kernel_rfl) (by kernel_rfl) (fun _ _ _ h => h) (Or.inl ⟨by rfl, ?_⟩) (by assumption) ?_
      rotate_left
      · (intro w hSw; (try dsimp only at hSw); go_simp <;> try with_reducible rfl)
      try simp only [Act.put, List.setIfInBounds_toArray, List.set_cons_zero, List.set_cons_succ]
      refine wpAnyH_take (i := 1) (oi := { dst := some 39, op := Go.Op.move (Go.Operand.tmp 7), type := 37, pos := "slices.go:528", after := #[], guard := none }) (v := ?_) rfl (by kernel_rfl) (by kernel_rfl) (by kernel_rfl) (fun _ _ _ h => h) (Or.inl ⟨by rfl, ?_⟩) (by assumption) ?_
      rotate_left
      · (intro w hSw; (try dsimp only at hSw); go_simp <;> try with_reducible rfl)
      try simp only [Act.put, List.setIfInBounds_toArray, List.set_cons_zero, List.set_cons_succ]
      refine wpAnyH_take (i := 2) (oi := { dst := some 40, op := Go.Op.move (Go.Operand.tmp 8), type := 3, pos := "slices.go:528", after := #[], guard := none }) (v := ?_) rfl (by kernel_rfl) (by kernel_rfl) (by kernel_rfl) (fun _ _ _ h => h) (Or.inl ⟨by rfl, ?_⟩) (by assumption) ?_
      rotate_left
      · (intro w hSw; (try dsimp only at hSw); go_simp <;> try with_reducible rfl)
      try simp only [Act.put, List.setIfInBounds_toArray, List.set_cons_zero, List.set_cons_succ]
      refine wpAnyH_take (i := 3) (oi := { dst := some 41, op := Go.Op.slice 37 (Go.Operand.tmp 39) (some (Go.Operand.tmp 40)) none none, type := 37, pos := "slices.go:528", after := #[{ on := 1, ground := Go.Ground.data }, { on := 2, ground := Go.Ground.data }], guard := none }) (v := ?_) rfl (by kernel_rfl) (by kernel_rfl) (by kernel_rfl) (fun _ _ _ h => h) (Or.inl ⟨by rfl, ?_⟩) (by assumption) ?_
      rotate_left
      · (intro w hSw; (try dsimp only at hSw); go_simp <;> try with_reducible rfl)
      try simp only [Act.put, List.setIfInBounds_toArray, List.set_cons_zero, List.set_cons_succ]
      refine wpAnyH_take (i := 4) (oi := { dst := some 42, op := Go.Op.move (Go.Operand.tmp 7), type := 37, pos := "slices.go:528", after := #[], guard := none }) (v := ?_) rfl (by kernel_rfl) (by kernel_rfl) (by kernel_rfl) (fun _ _ _ h => h) (Or.inl ⟨by rfl, ?_⟩) (by assumption) ?_
      rotate_left
      · (intro w hSw; (try dsimp only at hSw); go_simp <;> try with_reducible rfl)
      try simp only [Act.put, List.setIfInBounds_toArray, List.set_cons_zero, List.set_cons_succ]
      refine wpAnyH_take (i := 5) (oi := { dst := some 43, op := Go.Op.move (Go.Operand.tmp 8), type := 3, pos := "slices.go:528", after := #[], guard := none }) (v := ?_) rfl (by kernel_rfl) (by kernel_rfl) (by kernel_rfl) (fun _ _ _ h => h) (Or.inl ⟨by rfl, ?_⟩) (by assumption) ?_
      rotate_left
      · (intro w hSw; (try dsimp only at hSw); go_simp <;> try with_reducible rfl)
      try simp only [Act.put, List.setIfInBounds_toArray, List.set_cons_zero, List.set_cons_succ]
      refine wpAnyH_take (i := 6) (oi := { dst := some 44, op := Go.Op.slice 37 (Go.Operand.tmp 42) none (some (Go.Operand.tmp 43)) none, type := 37, pos := "slices.go:528", after := #[{ on := 4, ground := Go.Ground.data }, { on := 5, ground := Go.Ground.data }], guard := none }) (v := ?_) rfl (by kernel_rfl) (by kernel_rfl) (by kernel_rfl) (fun _ _ _ h => h) (Or.inl ⟨by rfl, ?_⟩) (by assumption) ?_
      rotate_left
      · (intro w hSw; (try dsimp only at hSw); go_simp <;> try with_reducible rfl)
      try simp only [Act.put, List.setIfInBounds_toArray, List.set_cons_zero, List.set_cons_succ]
      refine wpAnyH_ready (rs := [7]) (by kernel_rfl) (by simp) ?_
      refine AllReadyH.cons (o := { dst := some 45, op := Go.Op.call { callee := Go.Callee.builtin Go.Builtin.copy, args := #[Go.Operand.tmp 41, Go.Operand.tmp 44], argTypes := #[37, 37] }, type := 3, pos := "slices.go:528", after := #[{ on := 3, ground := Go.Ground.data }, { on := 6, ground := Go.Ground.data }], guard := none }) rfl (fun K hK => ?_) (AllReadyH.nil)
      refine step_copy_splice rfl (.tmp 41) (.tmp 44) 37 37 rfl 3 Tryd.underlying37 hsz3 _ _ _ _ _ _ rfl rfl g n L 3 hCd cs (by rw [hcl, ← HMM.out]) (fun _ => ⟨if_neg (by omega), _, rfl, fun j v hv => ?_⟩) (by rw [hcl]; omega) (fun v hv => by rw [← HCS.out] at hv; rw [List.eq_of_mem_replicate hv]; rfl) w.heap.size w hBd hgw ?_
      · have hj : j < m := by
          rcases Nat.lt_or_ge j m with q | q
          · exact q
          · rw [List.getElem?_eq_none (by omega)] at hv; cases hv
        rw [← HCS.out, List.getElem?_replicate, if_pos hj] at hv
        have e : (⟨g, 0, none⟩ : Addr).add j = ⟨g, j, none⟩ := by simp only [Addr.add]; by_cases q : j = 0 <;> simp [q]
        rw [e, hCd.cell, ← hv]
        have := HH.out.2.1 j (by omega)
        simpa using this
      intro w5 hg5 hb5
      rw [hcl]
      have HG5 := hg5
      have HB5 := hid hb5
      clear hg5 hb5
      refine hK.out _ _ trivial (fun hHeld => ?_)
      clear hK K
      try simp only [Act.put, List.setIfInBounds_toArray, List.set_cons_zero, List.set_cons_succ]
      refine wpAnyH_take (i := 8) (oi := { dst := some 46, op := Go.Op.binOp Go.BinOp.add 3 (Go.Operand.tmp 38) (Go.Operand.tmp 45) 3, type := 3, pos := "slices.go:528", after := #[{ on := 0, ground := Go.Ground.data }, { on := 7, ground := Go.Ground.data }], guard := none }) (v := ?_) rfl (by kernel_rfl) (by kernel_rfl) (by kernel_rfl) (fun _ _ _ h => h) (Or.inl ⟨by rfl, ?_⟩) (by assumption) ?_
      rotate_left
      · (intro w hSw; (try dsimp only at hSw); go_simp <;> try with_reducible rfl)
      try simp only [Act.put, List.setIfInBounds_toArray, List.set_cons_zero, List.set_cons_succ]
      refine wpAnyH_take (i := 9) (oi := { dst := some 8, op := Go.Op.assign (Go.Operand.tmp 46), type := 3, pos := "slices.go:528", after := #[{ on := 8, ground := Go.Ground.data }, { on := 7, ground := Go.Ground.chain }, { on := 0, ground := Go.Ground.phase }, { on := 1, ground := Go.Ground.phase }, { on := 2, ground := Go.Ground.phase }, { on := 3, ground := Go.Ground.phase }, { on := 4, ground := Go.Ground.phase }, { on := 5, ground := Go.Ground.phase }, { on := 6, ground := Go.Ground.phase }, { on := 7, ground := Go.Ground.phase }, { on := 8, ground := Go.Ground.phase }], guard := none }) (v := ?_) rfl (by kernel_rfl) (by kernel_rfl) (by kernel_rfl) (fun _ _ _ h => h) (Or.inl ⟨by rfl, ?_⟩) (by assumption) ?_
      rotate_left
      · (intro w hSw; (try dsimp only at hSw); go_simp <;> try with_reducible rfl)
      try simp only [Act.put, List.setIfInBounds_toArray, List.set_cons_zero, List.set_cons_succ]
      refine wpAnyH_done (by kernel_rfl) ?_ _
      refine NoPanic.normal ?_
      clear hHeld
      have HR5 : Hid ((splice L n cs).length = c ∧ ∀ j, j < n + m → (splice L n cs)[j]? = some (.int .i64 1)) := hid ⟨by rw [length_splice _ _ _ (by omega)]; exact hL, fun j hj => by
        unfold splice
        by_cases q : j < n
        · rw [List.getElem?_append_left (by rw [List.length_take]; omega), List.getElem?_take, if_pos q]; exact HH.out.2.1 j q
        · have hlt : (List.take n L).length = n := by rw [List.length_take]; omega
          rw [List.getElem?_append_right (by omega), hlt, List.getElem?_append_left (by omega), ← HCS.out, List.getElem?_replicate, if_pos (by omega)]⟩
      obtain ⟨L5, hL5⟩ : ∃ L5, splice L n cs = L5 := ⟨_, rfl⟩
      rw [hL5] at HG5 HR5
      clear hL5
      go_wp2
      go_roundw
      case rel => exact ⟨n + m, L5, by go_num, by omega, by omega, HR5.out.1, HG5.out, HR5.out.2, HB5.out⟩
      case measure => simp [intOf]; omega
    · obtain rfl : n = c := by omega
      have lkk : ¬ (n : Int) < (n : Int) := by omega
      go_wp2
      go_returns
      exact ⟨rfl, IR.of_block HH.out.1 n _ (fun j hj => by have := HH.out.2.1 j hj; simpa using this), by rw [← hgg]; exact HH.out.2.2⟩
end Go.Proofs.YtlhgmdmbjpaakaaDoor
