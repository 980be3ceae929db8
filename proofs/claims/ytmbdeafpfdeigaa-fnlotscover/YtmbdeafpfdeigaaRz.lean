/- slices.Repeat of one way that is none: so many of them; rows of ways. -/
import Derived.Test.YtmbdeafpfdeigaaSm
import Derived.Test.YtmbdeafpfdeigaaRr
import Derived.Shelf.Bits.Mul64
import Derived.Laws.CopyOwn
import Derived.Test.YtmbdeafpfdeigaaRf
import Derived.Deep.RegionHeld3
import Derived.Deep.RegionWith
import Derived.Deep.QuietTactic
import Derived.BigQuiet
import Derived.Handy
import Derived.Laws.EntriesVeiled
import Derived.Laws.MakeOwn
namespace Go.Proofs.Ytmbdeafpfdeigaa
open Go Go.ChangeShapes Go.WideShapes Go.ChangeAt Go.RowKit
set_option linter.unusedVariables false
set_option linter.unusedSimpArgs false

set_option maxRecDepth 20000 in
theorem mul64_one (c : Nat) (hc : (c : Int) ≤ 120) (w : World) : Calls Try.prog 167 #[.int .u64 1, .int .u64 (c : Int)] w fun e w' => e = .returned (.tuple #[.int .u64 0, .int .u64 (c : Int)]) ∧ w' = w := by
  have hm : bits .and .u64 (c : Int) 4294967295 = (c : Int) := by rw [Mul64.maskN c (by omega)]; omega
  have hd : (c : Int) / 4294967296 = 0 := by omega
  have h1 : bits .and .u64 1 4294967295 = 1 := by decide
  have h0 : bits .and .u64 0 4294967295 = 0 := by decide
  have hc0 : (0 : Int) ≤ (c : Int) := by omega
  go_enter Try.func167, Try.ntmps167
  go_wp2
  go_returns
  exact ⟨rfl, rfl⟩
set_option maxRecDepth 20000 in
theorem mul_one (c : Nat) (hc : (c : Int) ≤ 120) (w : World) : Calls Try.prog 162 #[.int .u64 1, .int .u64 (c : Int)] w fun e w' => e = .returned (.tuple #[.int .u64 0, .int .u64 (c : Int)]) ∧ w' = w := by
  go_enter Try.func162, Try.ntmps162
  go_wp2_with (go_at_call 167; refine (mul64_one c hc _).mono ?_; rintro e w1 ⟨rfl, ew⟩; replace ew := ew.symm; subst ew)
  go_returns
  exact ⟨rfl, rfl⟩

theorem run_copy_rowS {P : Program} (s : Nat) (w : World) (dT sT ty elem : TypeId) (g o dLen dCap : Nat) (a : Addr) (sLen sCap : Nat) (cur : Array Value) (t : TypeId) (cs : List Value)
    (hu : P.underlying dT = some (.slice elem)) (hs : (P.info? elem).map (·.size) = some s)
    (hg : w.heap[g]? = some (.cells cur t (0, 0))) (hn : cs.length = Nat.min sLen dLen * s)
    (hsrc : ∀ j v, cs[j]? = some v → w.cell? (a.add j) = some v) (hfit : o + cs.length ≤ cur.size) (h1 : ∀ v ∈ cs, v.oneCell' = true) :
    (Builtin.copy_ #[dT, sT] ty #[.slice (some ⟨g, o, none⟩) dLen dCap, .slice (some a) sLen sCap]).run P w =
      .ok (goInt (Nat.min sLen dLen)) (w.setRow g (cur.toList.take o ++ cs ++ cur.toList.drop (o + cs.length)).toArray) := by
  have hl := run_loadCells_list (P := P) w a cs hsrc
  have hst := run_storeCells_at P g o t cs 0 cur w hg (by simpa using hfit) h1
  cases hq : P.info? elem with
  | none => simp [hq] at hs
  | some i =>
    have hi : i.size = s := by simpa [hq] using hs
    simp [Builtin.copy_, run_underlying hu, Builtin.lenOf, Builtin.firstCells, sizeOf, typeInfo, hq, hi, ← hn, hl, hst]
theorem step_copy_spliceS {P : Program} {ops : Array Oper} {o : Oper} {a : Act} {w : World} {K : Act → World → Prop} {Q : Exit → Act → World → Prop} {E : Prop} (sz : Nat) (hgd : o.guard = none) (d s : Operand) (dT sT : TypeId)
    (ho : o.op = .call { callee := .builtin .copy, args := #[d, s], argTypes := #[dT, sT] }) (elem : TypeId) (hu : P.underlying dT = some (.slice elem)) (hsz : (P.info? elem).map (·.size) = some sz)
    (ad : Addr) (dLen dCap sLen sCap : Nat) (g off : Nat) (hd : a.eval d = .slice (some ⟨g, off, none⟩) dLen dCap) (hs : a.eval s = .slice (some ad) sLen sCap)
    (cur : List Value) (t : TypeId) (hg : w.heap[g]? = some (.cells cur.toArray t (0, 0))) (cs : List Value) (hn : cs.length = Nat.min sLen dLen * sz)
    (hsrc : ∀ j v, cs[j]? = some v → w.cell? (ad.add j) = some v)
    (hfit : off + cs.length ≤ cur.length) (h1 : ∀ v ∈ cs, v.oneCell' = true) (B : Nat) (w0 : World) (hb : RowKit.Below B w0 w) (hBg : B ≤ g)
    (h : ∀ w', RowKit.Hid (w'.heap[g]? = some (.cells (splice cur off cs).toArray t (0, 0))) → RowKit.Below B w0 w' → K (a.put o.dst (goInt (Nat.min sLen dLen))) w') :
    if Region.wanted o (yielded ops a.tmps) = true then Oper.wp P o a w K Q else E := by
  have hw : Region.wanted o (yielded ops a.tmps) = true := by simp [Region.wanted, hgd]
  rw [if_pos hw]
  have hrun := run_copy_rowS (P := P) sz w dT sT o.type elem g off dLen dCap ad sLen sCap cur.toArray t cs hu hsz hg hn hsrc (by simpa using hfit) h1
  unfold Oper.wp
  simp [execOp, ho, resolve, invoke, builtin, hd, hs, hrun, Result.andThen]
  exact h _ (show _ = _ by simpa [splice] using setRow_heap w g _ _ t _ hg) (below_setRow hb hBg _)

/-- So many ways that are none, as cells. -/
def noneL : Nat → List Value
  | 0 => []
  | k + 1 => noneL k ++ [.int .i64 0, .int .i64 (-1)]
theorem noneL_len : ∀ k, (noneL k).length = k * 2
  | 0 => rfl
  | k + 1 => by simp [noneL, noneL_len k]; omega
theorem noneL_get : ∀ k j, j < k * 2 → (noneL k)[j]? = some (if j % 2 = 0 then .int .i64 0 else .int .i64 (-1))
  | 0, j, h => by omega
  | k + 1, j, h => by
    have e := noneL_len k
    simp only [noneL]
    by_cases h1 : j < k * 2
    · rw [List.getElem?_append_left (by omega)]; exact noneL_get k j h1
    · rw [List.getElem?_append_right (by omega), e]
      rcases (show j = k * 2 ∨ j = k * 2 + 1 by omega) with rfl | rfl
      · rw [Nat.sub_self, if_pos (by omega)]; rfl
      · rw [show k * 2 + 1 - k * 2 = 1 by omega, if_neg (by omega)]; rfl
theorem noneL_one (k : Nat) : ∀ v ∈ noneL k, v.oneCell' = true := by
  induction k with
  | zero => intro v hv; simp [noneL] at hv
  | succ k ih =>
    intro v hv
    simp only [noneL, List.mem_append, List.mem_cons, List.not_mem_nil, or_false] at hv
    rcases hv with h | rfl | rfl
    · exact ih v h
    · rfl
    · rfl
def zerosW (n : Nat) : Array Value := madeCells #[.int .i64 0, .int .i64 0] (n * 2)
theorem zerosW_size (n : Nat) : (zerosW n).size = n * 2 := size_madeCells _ _
set_option maxRecDepth 100000 in
theorem mkW (n : Nat) (h : (n : Int) ≤ 1048576) (w : World) : (Instr.makeSlice 136 (.int .i64 (n : Int)) (.int .i64 (n : Int))).run Try.prog w = .ok (.slice (some ⟨w.heap.size, 0, none⟩) n n) (w.alloc (.cells (zerosW n) 139)) := by
  obtain ⟨i, hi⟩ : ∃ i, Try.prog.info? 139 = some i := ⟨_, rfl⟩
  have hz : i.zero = some (.agg #[.int .i64 0, .int .i64 0]) := by
    have : (Try.prog.info? 139).bind (·.zero) = some (.agg #[.int .i64 0, .int .i64 0]) := by kernel_rfl
    rw [hi] at this; exact this
  have hs : i.size = 2 := by
    have : (Try.prog.info? 139).map (·.size) = some 2 := by kernel_rfl
    rw [hi] at this; simpa using this
  have hb : i.bytes = 16 := by
    have : (Try.prog.info? 139).map (·.bytes) = some 16 := by kernel_rfl
    rw [hi] at this; simpa using this
  have hr := run_make (P := Try.prog) w 136 139 i (.agg #[.int .i64 0, .int .i64 0]) Try.underlying136 hi hz .i64 .i64 n n (by omega) (by omega) (by rw [hb]; omega) (by omega)
  simp only [Int.toNat_natCast, hs] at hr
  exact hr
/-- A row of n + 1 ways, in a block of its own. -/
def WW (W : World) (g n : Nat) (T : Nat → Int × Int) : Prop := ∃ cs, CB W g cs 139 ∧ (n + 1) * 2 ≤ cs.size ∧ ∀ e, e ≤ n → cs[e * 2]? = some (.int .i64 (T e).1) ∧ cs[e * 2 + 1]? = some (.int .i64 (T e).2)
set_option maxRecDepth 20000 in
set_option maxHeartbeats 4000000 in
theorem repeat_any (c : Nat) (hc1 : (1 : Int) ≤ (c : Int)) (hc : (c : Int) ≤ 120) (kb cap : Nat) (w : World) (hx : w.cell? ⟨kb, 0, none⟩ = some (.int .i64 0)) (hy : w.cell? ⟨kb, 1, none⟩ = some (.int .i64 (-1))) :
    Calls Try.prog 152 #[.slice (some ⟨kb, 0, none⟩) 1 cap, .int .i64 (c : Int)] w fun e w' => e = .returned (.slice (some ⟨w.heap.size, 0, none⟩) c c) ∧ WW w' w.heap.size (c - 1) (fun _ => (0, -1)) ∧ Below w.heap.size w w' := by
  have hszW : (Try.prog.info? 139).map (·.size) = some 2 := by kernel_rfl
  have hmk := mkW c (by omega)
  have HX : Hid (w.cell? ⟨kb, 0, none⟩ = some (.int .i64 0) ∧ w.cell? ⟨kb, 1, none⟩ = some (.int .i64 (-1))) := hid ⟨hx, hy⟩
  clear hx hy
  obtain ⟨W4, hcp, hC4, hB4⟩ : ∃ W4, (Builtin.copy_ #[136, 136] 3 #[.slice (some ⟨w.heap.size, 0, none⟩) c c, .slice (some ⟨kb, 0, none⟩) 1 cap]).run Try.prog (w.alloc (.cells (zerosW c) 139)) = .ok (.int .i64 1) W4 ∧ (∃ L : List Value, CB W4 w.heap.size L.toArray 139 ∧ L.length = c * 2 ∧ ∀ j, j < 1 * 2 → L[j]? = some (if j % 2 = 0 then .int .i64 0 else .int .i64 (-1))) ∧ Below w.heap.size w W4 := by
    have hg : (w.alloc (.cells (zerosW c) 139)).heap[w.heap.size]? = some (.cells (zerosW c) 139 (0, 0)) := CB.new _ _
    have hmin : Nat.min 1 c = 1 := Nat.min_eq_left (by omega)
    have hrun := run_copy_rowS (P := Try.prog) 2 (w.alloc (.cells (zerosW c) 139)) 136 136 3 139 w.heap.size 0 c c ⟨kb, 0, none⟩ 1 cap (zerosW c) 139 [.int .i64 0, .int .i64 (-1)] Try.underlying136 hszW hg (by rw [hmin]; rfl) (fun j v hv => by
      rcases (show j = 0 ∨ j = 1 ∨ 2 ≤ j by omega) with rfl | rfl | q
      · simp at hv; subst hv
        exact keep_cell ((Below.refl _ _).alloc (Nat.le_refl _) _) HX.out.1
      · simp at hv; subst hv
        exact keep_cell ((Below.refl _ _).alloc (Nat.le_refl _) _) HX.out.2
      · rw [List.getElem?_eq_none (by simpa using q)] at hv; cases hv) (by rw [zerosW_size]; show 0 + 2 ≤ c * 2; omega) (fun v hv => by simp at hv; rcases hv with rfl | rfl <;> rfl)
    rw [hmin] at hrun
    refine ⟨_, hrun, ⟨_, setRow_heap _ _ _ _ _ _ hg, ?_, ?_⟩, below_setRow ((Below.refl _ _).alloc (Nat.le_refl _) _) (Nat.le_refl _) _⟩
    · have := zerosW_size c
      simp; omega
    · intro j hj
      rcases (show j = 0 ∨ j = 1 by omega) with rfl | rfl <;> simp
  obtain ⟨L4, hC4, hL4, hO4⟩ := hC4
  have HC4 := hid hC4
  have HB4 := hid hB4
  have HO4 := hid hO4
  clear hC4 hB4 hO4
  go_enter Try.func152, Try.ntmps152
  go_wp2_with (go_at_call 162; refine (mul_one c hc _).mono ?_; rintro e w1 ⟨rfl, ew⟩; replace ew := ew.symm; subst ew)
  clear hcp hmk
  obtain ⟨g, hgg⟩ : ∃ g, w.heap.size = g := ⟨_, rfl⟩
  rw [hgg] at HC4 ⊢
  go_loopw [8] (fun x wr => ∃ (n : Nat) (L : List Value), x = .int .i64 (n : Int) ∧ 1 ≤ n ∧ n ≤ c ∧ L.length = c * 2 ∧ Hid (CB wr g L.toArray 139 ∧ (∀ j, j < n * 2 → L[j]? = some (if j % 2 = 0 then .int .i64 0 else .int .i64 (-1))) ∧ Below w.heap.size w wr)) (fun x _ => c - (intOf x).toNat)
  case atStart => exact ⟨1, L4, rfl, by omega, by omega, hL4, HC4.out, HO4.out, HB4.out⟩
  case round =>
    obtain ⟨n, L, rfl, hn1, hnc, hL, HH⟩ := hrel
    by_cases hlt : n < c
    · have hlt2 : (n : Int) < (c : Int) := by omega
      have hn0 : (0 : Int) ≤ (n : Int) := by omega
      have hle : (n : Int) ≤ (c : Int) := by omega
      have hCd : CB wr.drew g L.toArray 139 := HH.out.1
      have hBd : Below w.heap.size w wr.drew := HH.out.2.2.drew
      have hgw : w.heap.size ≤ g := by omega
      go_wp2
      obtain ⟨m, hm⟩ : ∃ m, Nat.min n (c - n) = m := ⟨_, rfl⟩
      have hmd : m = n ∨ m = c - n := by rcases Nat.le_total n (c - n) with q | q; exact .inl (by rw [← hm]; exact Nat.min_eq_left q); exact .inr (by rw [← hm]; exact Nat.min_eq_right q)
      have hm1 : 1 ≤ m := by omega
      have hm2 : m ≤ n := by rw [← hm]; exact Nat.min_le_left _ _
      have hm3 : n + m ≤ c := by have := Nat.min_le_right n (c - n); have h2 : Nat.min n (c - n) ≤ c - n := this; omega
      have HMM : Hid (Nat.min n (c - n) = m) := hm
      clear hm hmd
      have hwnm : IntKind.i64.wrap ((n : Int) + (m : Int)) = (n : Int) + (m : Int) := IntWalk.i64_in _ ⟨by omega, by omega⟩
      obtain ⟨cs, hcs⟩ : ∃ cs, noneL m = cs := ⟨_, rfl⟩
      have hcl : cs.length = m * 2 := by rw [← hcs]; exact noneL_len m
      have HCS : Hid (noneL m = cs) := hcs
      clear hcs
      refine wp_region_noPanic ?_
      refine wp_region_held_drew (S := fun _ => True) (by kernel_rfl) trivial (fun hHeld => ?_)
      refine wpAnyH_take (i := 0) (oi := { dst := some 38, op := Go.Op.move (Go.Operand.tmp 8), type := 3, pos := "slices.go:528", after := #[], guard := none }) (v := ?_) rfl (by kernel_rfl) (by kernel_rfl) (by kernel_rfl) (fun _ _ _ h => h) (Or.inl ⟨by rfl, ?_⟩) (by assumption) ?_
      rotate_left
      · (intro w hSw; (try dsimp only at hSw); go_simp <;> try with_reducible rfl)
      try simp only [Act.put, List.setIfInBounds_toArray, List.set_cons_zero, List.set_cons_succ]
      refine wpAnyH_take (i := 1) (oi := { dst := some 39, op := Go.Op.move (Go.Operand.tmp 7), type := 136, pos := "slices.go:528", after := #[], guard := none }) (v := ?_) rfl (by kernel_rfl) (by kernel_rfl) (by kernel_rfl) (fun _ _ _ h => h) (Or.inl ⟨by rfl, ?_⟩) (by assumption) ?_
      rotate_left
      · (intro w hSw; (try dsimp only at hSw); go_simp <;> try with_reducible rfl)
      try simp only [Act.put, List.setIfInBounds_toArray, List.set_cons_zero, List.set_cons_succ]
      refine wpAnyH_take (i := 2) (oi := { dst := some 40, op := Go.Op.move (Go.Operand.tmp 8), type := 3, pos := "slices.go:528", after := #[], guard := none }) (v := ?_) rfl (by kernel_rfl) (by kernel_rfl) (by kernel_rfl) (fun _ _ _ h => h) (Or.inl ⟨by rfl, ?_⟩) (by assumption) ?_
      rotate_left
      · (intro w hSw; (try dsimp only at hSw); go_simp <;> try with_reducible rfl)
      try simp only [Act.put, List.setIfInBounds_toArray, List.set_cons_zero, List.set_cons_succ]
      refine wpAnyH_take (i := 3) (oi := { dst := some 41, op := Go.Op.slice 136 (Go.Operand.tmp 39) (some (Go.Operand.tmp 40)) none none, type := 136, pos := "slices.go:528", after := #[{ on := 1, ground := Go.Ground.data }, { on := 2, ground := Go.Ground.data }], guard := none }) (v := ?_) rfl (by kernel_rfl) (by kernel_rfl) (by kernel_rfl) (fun _ _ _ h => h) (Or.inl ⟨by rfl, ?_⟩) (by assumption) ?_
      rotate_left
      · (intro w hSw; (try dsimp only at hSw); go_simp <;> try with_reducible rfl)
      try simp only [Act.put, List.setIfInBounds_toArray, List.set_cons_zero, List.set_cons_succ]
      refine wpAnyH_take (i := 4) (oi := { dst := some 42, op := Go.Op.move (Go.Operand.tmp 7), type := 136, pos := "slices.go:528", after := #[], guard := none }) (v := ?_) rfl (by kernel_rfl) (by kernel_rfl) (by kernel_rfl) (fun _ _ _ h => h) (Or.inl ⟨by rfl, ?_⟩) (by assumption) ?_
      rotate_left
      · (intro w hSw; (try dsimp only at hSw); go_simp <;> try with_reducible rfl)
      try simp only [Act.put, List.setIfInBounds_toArray, List.set_cons_zero, List.set_cons_succ]
      refine wpAnyH_take (i := 5) (oi := { dst := some 43, op := Go.Op.move (Go.Operand.tmp 8), type := 3, pos := "slices.go:528", after := #[], guard := none }) (v := ?_) rfl (by kernel_rfl) (by kernel_rfl) (by kernel_rfl) (fun _ _ _ h => h) (Or.inl ⟨by rfl, ?_⟩) (by assumption) ?_
      rotate_left
      · (intro w hSw; (try dsimp only at hSw); go_simp <;> try with_reducible rfl)
      try simp only [Act.put, List.setIfInBounds_toArray, List.set_cons_zero, List.set_cons_succ]
      refine wpAnyH_take (i := 6) (oi := { dst := some 44, op := Go.Op.slice 136 (Go.Operand.tmp 42) none (some (Go.Operand.tmp 43)) none, type := 136, pos := "slices.go:528", after := #[{ on := 4, ground := Go.Ground.data }, { on := 5, ground := Go.Ground.data }], guard := none }) (v := ?_) rfl (by kernel_rfl) (by kernel_rfl) (by kernel_rfl) (fun _ _ _ h => h) (Or.inl ⟨by rfl, ?_⟩) (by assumption) ?_
      rotate_left
      · (intro w hSw; (try dsimp only at hSw); go_simp <;> try with_reducible rfl)
      try simp only [Act.put, List.setIfInBounds_toArray, List.set_cons_zero, List.set_cons_succ]
      refine wpAnyH_ready (rs := [7]) (by kernel_rfl) (by simp) ?_
      refine AllReadyH.cons (o := { dst := some 45, op := Go.Op.call { callee := Go.Callee.builtin Go.Builtin.copy, args := #[Go.Operand.tmp 41, Go.Operand.tmp 44], argTypes := #[136, 136] }, type := 3, pos := "slices.go:528", after := #[{ on := 3, ground := Go.Ground.data }, { on := 6, ground := Go.Ground.data }], guard := none }) rfl (fun K hK => ?_) (AllReadyH.nil)
      refine step_copy_spliceS 2 rfl (.tmp 41) (.tmp 44) 136 136 rfl 139 Try.underlying136 hszW ⟨g, 0, none⟩ (c - n) (c - n) n c g (n * 2) (by show Value.slice (if c = n then _ else _) _ _ = _; rw [if_neg (by omega)]) rfl L 139 hCd cs (by rw [hcl, ← HMM.out]) (fun j v hv => ?_) (by rw [hcl]; omega) (fun v hv => by rw [← HCS.out] at hv; exact noneL_one m v hv) w.heap.size w hBd hgw ?_
      · have hj : j < m * 2 := by
          rcases Nat.lt_or_ge j (m * 2) with q | q
          · exact q
          · rw [List.getElem?_eq_none (by omega)] at hv; cases hv
        rw [← HCS.out, noneL_get m j hj] at hv
        have e : (⟨g, 0, none⟩ : Addr).add j = ⟨g, j, none⟩ := by simp only [Addr.add]; by_cases q : j = 0 <;> simp [q]
        rw [e, hCd.cell, ← hv]
        have := HH.out.2.1 j (by omega)
        simpa using this
      intro w5 hg5 hb5
      rw [HMM.out]
      have HG5 := hg5
      have HB5 := hid hb5
      clear hg5 hb5
      refine hK.out _ _ trivial (fun hHeld => ?_)
      clear hK K
      try simp only [Act.put, List.setIfInBounds_toArray, List.set_cons_zero, List.set_cons_succ]
      refine wpAnyH_take (i := 8) (oi := { dst := some 46, op := Go.Op.binOp Go.BinOp.add 3 (Go.Operand.tmp 38) (Go.Operand.tmp 45) 3, type := 3, pos := "slices.go:528", after := #[{ on := 0, ground := Go.Ground.data }, { on := 7, ground := Go.Ground.data }], guard := none }) (v := ?_) rfl (by kernel_rfl) (by kernel_rfl) (by kernel_rfl) (fun _ _ _ h => h) (Or.inl ⟨by rfl, ?_⟩) (by assumption) ?_
      rotate_left
      · (intro w hSw; (try dsimp only at hSw); go_simp <;> try with_reducible rfl)
      try simp only [Act.put, List.setIfInBounds_toArray, List.set_cons_zero, List.set_cons_succ]
      refine wpAnyH_take (i := 9) (oi := { dst := some 8, op := Go.Op.assign (Go.Operand.tmp 46), type := 3, pos := "slices.go:528", after := #[{ on := 8, ground := Go.Ground.data }, { on := 7, ground := Go.Ground.chain }, { on := 0, ground := Go.Ground.phase }, { on := 1, ground := Go.Ground.phase }, { on := 2, ground := Go.Ground.phase }, { on := 3, ground := Go.Ground.phase }, { on := 4, ground := Go.Ground.phase }, { on := 5, ground := Go.Ground.phase }, { on := 6, ground := Go.Ground.phase }, { on := 7, ground := Go.Ground.phase }, { on := 8, ground := Go.Ground.phase }], guard := none }) (v := ?_) rfl (by kernel_rfl) (by kernel_rfl) (by kernel_rfl) (fun _ _ _ h => h) (Or.inl ⟨by rfl, ?_⟩) (by assumption) ?_
      rotate_left
      · (intro w hSw; (try dsimp only at hSw); go_simp <;> try with_reducible rfl)
      try simp only [Act.put, List.setIfInBounds_toArray, List.set_cons_zero, List.set_cons_succ]
      refine wpAnyH_done (by kernel_rfl) ?_ _
      refine NoPanic.normal ?_
      clear hHeld
      have HR5 : Hid ((splice L (n * 2) cs).length = c * 2 ∧ ∀ j, j < (n + m) * 2 → (splice L (n * 2) cs)[j]? = some (if j % 2 = 0 then .int .i64 0 else .int .i64 (-1))) := hid ⟨by rw [length_splice _ _ _ (by omega)]; exact hL, fun j hj => by
        unfold splice
        by_cases q : j < n * 2
        · rw [List.getElem?_append_left (by rw [List.length_take]; omega), List.getElem?_take, if_pos q]; exact HH.out.2.1 j q
        · have hlt : (List.take (n * 2) L).length = n * 2 := by rw [List.length_take]; omega
          rw [List.getElem?_append_right (by omega), hlt, List.getElem?_append_left (by omega), ← HCS.out, noneL_get m _ (by omega)]
          rw [show (j - n * 2) % 2 = j % 2 by omega]⟩
      obtain ⟨L5, hL5⟩ : ∃ L5, splice L (n * 2) cs = L5 := ⟨_, rfl⟩
      rw [hL5] at HG5 HR5
      clear hL5
      go_wp2
      go_roundw
      case rel => exact ⟨n + m, L5, by go_num, by omega, by omega, HR5.out.1, HG5.out, HR5.out.2, HB5.out⟩
      case measure => simp [intOf]; omega
    · obtain rfl : n = c := by omega
      have lkk : ¬ (n : Int) < (n : Int) := by omega
      go_wp2
      go_returns
      refine ⟨rfl, ⟨_, HH.out.1, by simp; omega, fun e he => ?_⟩, by rw [← hgg]; exact HH.out.2.2⟩
      have g0 := HH.out.2.1 (e * 2) (by omega)
      have g1 := HH.out.2.1 (e * 2 + 1) (by omega)
      rw [if_pos (by omega)] at g0
      rw [if_neg (by omega)] at g1
      exact ⟨by simpa using g0, by simpa using g1⟩
end Go.Proofs.Ytmbdeafpfdeigaa
