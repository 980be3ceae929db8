/- An account is added to the tree, or refused, in the program. -/
import Derived.Test.YtapailihjlfkgaaDoorTh
namespace Go.Proofs.YtapailihjlfkgaaDoor
open Go.ChangeShapes Go.WideShapes Go.ChangeAt Go.RowKit
open Go.Maps (Keyed)
set_option linter.unusedVariables false
set_option linter.unusedSimpArgs false

theorem zero60 (w : World) : (zeroValue 179).run Tryd.prog w = .ok (.pointer none) w := by kernel_rfl
theorem implName_eq (s : ByteArray) {v : Bool} (w : World) (hs : s.size ≤ maxLen) (hv : nameB s = v) :
    Calls Tryd.prog 122 #[.string s] w fun e w' => e = .returned (.bool v) ∧ w' = w := hv ▸ implName_any s w hs
theorem isKind_eq (x : Int) {v : Bool} (w : World) (hv : inB x 1 5 = v) : Calls Tryd.prog 123 #[.int .i64 x] w fun e w' => e = .returned (.bool v) ∧ w' = w := hv ▸ isKind_any x w

theorem way_some {c : Nat → C3} {n : Nat} (h : OkAt c n) : upW (par c) (atP (par c n)) n = some (par c n + 1).toNat := by
  cases e : upW (par c) (atP (par c n)) n with
  | none => exact absurd e h.way
  | some t =>
    have := atP_iff.1 (upW_some e).2
    congr 1; omega
theorem codeAt_no {c : Nat → C3} {x : ByteArray} : ∀ {n : Nat}, (∀ k, k < n → (c k).code ≠ x) → codeAt c n x = none
  | 0, h => rfl
  | n + 1, h => by rw [codeAt, if_neg (fun e => h n (by omega) e.symm), codeAt_no (fun k hk => h k (by omega))]

theorem up_eq (b : Nat) (p : Int) {base T mp n : Nat} {c : Nat → C3} {N : Nat → Nat} {S : Nat → Value} {ns : Value} (w : World) (h : TR Tryd.prog w base T mp n c N S ns) (L : Low (par c) n) (hb : w.cell? ⟨b, 1, none⟩ = some (.int .i64 p)) {U : Option Nat} (hU : upW (par c) (atP p) n = U) :
    Calls Tryd.prog 124 #[.pointer (some ⟨N n, 0, none⟩), .func (Fn.func 125) #[] #[.pointer (some ⟨b, 0, none⟩)]] w fun e w' => e = .returned (upV N U) ∧ ∃ q', w' = w.drewN q' := hU ▸ up_any b p w h L hb n (Nat.le_refl _) 0

set_option maxRecDepth 20000 in
set_option maxHeartbeats 4000000 in
theorem add_ok (T mp base n : Nat) (c : Nat → C3) (N : Nat → Nat) (S : Nat → Value) (ns : Value) (w : World) (h : TR Tryd.prog w base T mp n c N S ns) (hbase : base ≤ w.heap.size) (hn : n < 120) (R : RightTo c n) (hok : OkAt c n) :
    Calls Tryd.prog 100 #[.pointer (some ⟨T, 0, none⟩), .agg #[.string (c n).code, .int .i64 (c n).places, .int .i64 (c n).step]] w fun e w' => e = .returned .nilIface ∧ (∃ N' S' ns', TR Tryd.prog w' base T mp (n + 1) c N' S' ns') ∧ Below base w w' := by
  obtain ⟨a, ha⟩ : ∃ a, a = c n := ⟨_, rfl⟩
  have HA : Hid (a = c n) := ha
  rw [← ha]
  have hname : nameB a.code = true := by rw [ha]; exact hok.name
  have hsz20 : a.code.size ≤ 20 := by unfold nameB at hname; simp at hname; exact hname.2.2
  have hsz : a.code.size ≤ maxLen := by unfold maxLen; omega
  have hkind : inB a.step 1 5 = true := by rw [ha]; exact inB_t hok.kind.1 hok.kind.2
  have hn1 : ((n : Int) == 120) = false := by simp; omega
  obtain ⟨s0, hs0⟩ : ∃ s0, (par c n + 1).toNat = s0 := ⟨_, rfl⟩
  have hln := hok.low
  have hs : s0 ≤ n := by omega
  have HU : Hid (upW (par c) (atP a.places) n = some s0) := by rw [ha, ← hs0]; exact way_some hok
  have hF : Hid (((codeAt c n a.code).map (fun i => pn (N (i + 1)))).getD (.pointer none) = .pointer none) := by rw [codeAt_no (by rw [ha]; exact hok.once)]; rfl
  have hO : Hid (((codeAt c n a.code).map (fun i => pn (N (i + 1)))).isSome = false) := by rw [codeAt_no (by rw [ha]; exact hok.once)]; rfl
  have hd9 := R.dep_le s0 hs
  have hdeep : dep (par c) s0 ≤ 8 := hs0 ▸ hok.deep
  obtain ⟨d, hdd⟩ : ∃ d : Int, (dep (par c) s0 : Int) = d := ⟨_, rfl⟩
  have hd8 : ((d - 1) == 8) = false := by simp; omega
  have HK : Hid (∀ i, (par c n + 1).toNat = i + 1 → (c i).step = a.step) := fun i hi => by
    have := hok.same (by omega)
    rw [ha, ← this]; congr 2; omega
  have RL := R.low
  have L1 : Low (par c) (n + 1) := (R.succ hok).low
  obtain ⟨adn, capn, rfl⟩ := row_form h.nodes
  have h1 := h.alloc (.cells #[.string a.code, .int .i64 a.places, .int .i64 a.step] 43 (0, 0))
  have C1 := CB.new (w := w) #[.string a.code, .int .i64 a.places, .int .i64 a.step] 43
  have b0 : (w.alloc (.cells #[.string a.code, .int .i64 a.places, .int .i64 a.step] 43 (0, 0))).cell? ⟨w.heap.size, 0, none⟩ = some (.string a.code) := (C1.cell 0).trans rfl
  have t2 := h1.top2
  have HM : Hid (MT Tryd.prog 9 (.pointer none) (w.alloc (.cells #[.string a.code, .int .i64 a.places, .int .i64 a.step] 43 (0, 0))).drew mp n (fun x => (codeAt c n x).map (fun i => pn (N (i + 1))))) := h1.map
  have HT : Hid (TR Tryd.prog (w.alloc (.cells #[.string a.code, .int .i64 a.places, .int .i64 a.step] 43 (0, 0))) base T mp n c N S (.slice adn n capn)) := h1
  have HC : Hid (CB (w.alloc (.cells #[.string a.code, .int .i64 a.places, .int .i64 a.step] 43 (0, 0))) w.heap.size #[.string a.code, .int .i64 a.places, .int .i64 a.step] 43) := C1
  have HB : Hid (Below base w (w.alloc (.cells #[.string a.code, .int .i64 a.places, .int .i64 a.step] 43 (0, 0)))) := (Below.refl _ _).alloc hbase _
  clear h h1 C1 ha
  have hmf : ∀ (fn : Fn) (first cap : Array Value) (w : World), (Instr.makeFunc fn first cap).run Tryd.prog w = .ok (.func fn first cap) w := fun _ _ _ _ => rfl
  go_enter Tryd.func100, Tryd.ntmps100
  go_wp2
  refine wp_region_noPanic ?_
  refine wp_region_held_drew (S := fun w' => w'.cell? ⟨T, 2, none⟩ = some (.map (some mp)) ∧ w'.cell? ⟨w.heap.size, 0, none⟩ = some (.string a.code)) (by kernel_rfl) ?_ (fun hHeld => ?_)
  · exact ⟨t2, b0⟩
  refine wpAnyH_take (i := 0) (oi := { dst := some 9, op := Go.Op.move (Go.Operand.tmp 0), type := 80, pos := "l04_accounts.go:82", after := #[], guard := none }) (v := ?_) rfl (by kernel_rfl) (by kernel_rfl) (by kernel_rfl) (fun _ _ _ h => h) (Or.inl ⟨by rfl, ?_⟩) (by assumption) ?_
  rotate_left
  · (intro w hSw; (try dsimp only at hSw); go_simp <;> try with_reducible rfl)
  try simp only [Act.put, List.setIfInBounds_toArray, List.set_cons_zero, List.set_cons_succ]
  refine wpAnyH_take (i := 1) (oi := { dst := some 10, op := Go.Op.nilCheck (Go.Operand.tmp 9), type := 0, pos := "l04_accounts.go:82", after := #[{ on := 0, ground := Go.Ground.data }], guard := none }) (v := ?_) rfl (by kernel_rfl) (by kernel_rfl) (by kernel_rfl) (fun _ _ _ h => h) (Or.inl ⟨by rfl, ?_⟩) (by assumption) ?_
  rotate_left
  · (intro w hSw; (try dsimp only at hSw); go_simp <;> try with_reducible rfl)
  try simp only [Act.put, List.setIfInBounds_toArray, List.set_cons_zero, List.set_cons_succ]
  refine wpAnyH_take (i := 2) (oi := { dst := some 11, op := Go.Op.fieldAddr 185 (Go.Operand.tmp 10) 2, type := 0, pos := "l04_accounts.go:82", after := #[{ on := 1, ground := Go.Ground.data }], guard := none }) (v := ?_) rfl (by kernel_rfl) (by kernel_rfl) (by kernel_rfl) (fun _ _ _ h => h) (Or.inl ⟨by rfl, ?_⟩) (by assumption) ?_
  rotate_left
  · (intro w hSw; (try dsimp only at hSw); go_simp <;> try with_reducible rfl)
  try simp only [Act.put, List.setIfInBounds_toArray, List.set_cons_zero, List.set_cons_succ]
  refine wpAnyH_take (i := 3) (oi := { dst := some 12, op := Go.Op.load 183 (Go.Operand.tmp 11), type := 183, pos := "l04_accounts.go:82", after := #[{ on := 2, ground := Go.Ground.data }], guard := none }) (v := ?_) rfl (by kernel_rfl) (by kernel_rfl) (by kernel_rfl) (fun _ _ _ h => h) (Or.inl ⟨by rfl, ?_⟩) (by assumption) ?_
  rotate_left
  · (intro w hSw; (try dsimp only at hSw); go_simp <;> try with_reducible rfl)
  try simp only [Act.put, List.setIfInBounds_toArray, List.set_cons_zero, List.set_cons_succ]
  refine wpAnyH_take (i := 4) (oi := { dst := some 13, op := Go.Op.fieldAddr 43 (Go.Operand.tmp 3) 0, type := 0, pos := "l04_accounts.go:82", after := #[], guard := none }) (v := ?_) rfl (by kernel_rfl) (by kernel_rfl) (by kernel_rfl) (fun _ _ _ h => h) (Or.inl ⟨by rfl, ?_⟩) (by assumption) ?_
  rotate_left
  · (intro w hSw; (try dsimp only at hSw); go_simp <;> try with_reducible rfl)
  try simp only [Act.put, List.setIfInBounds_toArray, List.set_cons_zero, List.set_cons_succ]
  refine wpAnyH_take (i := 5) (oi := { dst := some 14, op := Go.Op.load 9 (Go.Operand.tmp 13), type := 9, pos := "l04_accounts.go:82", after := #[{ on := 4, ground := Go.Ground.data }], guard := none }) (v := ?_) rfl (by kernel_rfl) (by kernel_rfl) (by kernel_rfl) (fun _ _ _ h => h) (Or.inl ⟨by rfl, ?_⟩) (by assumption) ?_
  rotate_left
  · (intro w hSw; (try dsimp only at hSw); go_simp <;> try with_reducible rfl)
  try simp only [Act.put, List.setIfInBounds_toArray, List.set_cons_zero, List.set_cons_succ]
  refine wpAnyH_ready (rs := [6]) (by kernel_rfl) (by simp) ?_
  refine AllReadyH.cons (o := { dst := some 15, op := Go.Op.lookup 183 (Go.Operand.tmp 12) (Go.Operand.tmp 14) true, type := 186, pos := "l04_accounts.go:82", after := #[{ on := 3, ground := Go.Ground.data }, { on := 5, ground := Go.Ground.data }], guard := none }) rfl (fun K hK => ?_) AllReadyH.nil
  rw [if_pos (by rfl)]
  refine oper_look_mt (Operand.tmp 12) (Operand.tmp 14) 183 rfl 9 179 key9 Tryd.underlying9 Tryd.underlying183 (.pointer none) (zero60 _) mp n (fun x => (codeAt c n x).map (fun i => pn (N (i + 1)))) rfl HM.out a.code rfl hsz (.pointer none) false hF.out hO.out ?_
  refine hK.out _ _ (by exact hHeld) (fun hHeld => ?_)
  clear hK K
  try simp only [Act.put, List.setIfInBounds_toArray, List.set_cons_zero, List.set_cons_succ]
  refine wpAnyH_take (i := 7) (oi := { dst := some 8, op := Go.Op.move (Go.Operand.tmp 15), type := 186, pos := "l04_accounts.go:82", after := #[{ on := 6, ground := Go.Ground.data }], guard := none }) (v := ?_) rfl (by kernel_rfl) (by kernel_rfl) (by kernel_rfl) (fun _ _ _ h => h) (Or.inl ⟨by rfl, ?_⟩) (by assumption) ?_
  rotate_left
  · (intro w hSw; (try dsimp only at hSw); go_simp <;> try with_reducible rfl)
  try simp only [Act.put, List.setIfInBounds_toArray, List.set_cons_zero, List.set_cons_succ]
  refine wpAnyH_take (i := 8) (oi := { dst := some 16, op := Go.Op.extract (Go.Operand.tmp 8) 0, type := 179, pos := "l04_accounts.go:82", after := #[{ on := 7, ground := Go.Ground.data }], guard := none }) (v := ?_) rfl (by kernel_rfl) (by kernel_rfl) (by kernel_rfl) (fun _ _ _ h => h) (Or.inl ⟨by rfl, ?_⟩) (by assumption) ?_
  rotate_left
  · (intro w hSw; (try dsimp only at hSw); go_simp <;> try with_reducible rfl)
  try simp only [Act.put, List.setIfInBounds_toArray, List.set_cons_zero, List.set_cons_succ]
  refine wpAnyH_take (i := 9) (oi := { dst := some 17, op := Go.Op.extract (Go.Operand.tmp 8) 1, type := 4, pos := "l04_accounts.go:82", after := #[{ on := 7, ground := Go.Ground.data }, { on := 10, ground := Go.Ground.gcOnly Go.Departure.lateStores }], guard := none }) (v := ?_) rfl (by kernel_rfl) (by kernel_rfl) (by kernel_rfl) (fun _ _ _ h => h) (Or.inl ⟨by rfl, ?_⟩) (by assumption) ?_
  rotate_left
  · (intro w hSw; (try dsimp only at hSw); go_simp <;> try with_reducible rfl)
  try simp only [Act.put, List.setIfInBounds_toArray, List.set_cons_zero, List.set_cons_succ]
  refine wpAnyH_take (i := 10) (oi := { dst := some 5, op := Go.Op.assign (Go.Operand.tmp 16), type := 179, pos := "l04_accounts.go:82", after := #[{ on := 8, ground := Go.Ground.data }, { on := 0, ground := Go.Ground.phase }, { on := 1, ground := Go.Ground.phase }, { on := 2, ground := Go.Ground.phase }, { on := 3, ground := Go.Ground.phase }, { on := 4, ground := Go.Ground.phase }, { on := 5, ground := Go.Ground.phase }, { on := 6, ground := Go.Ground.phase }, { on := 7, ground := Go.Ground.phase }, { on := 8, ground := Go.Ground.phase }, { on := 9, ground := Go.Ground.textOnly Go.Departure.lateStores }], guard := none }) (v := ?_) rfl (by kernel_rfl) (by kernel_rfl) (by kernel_rfl) (fun _ _ _ h => h) (Or.inl ⟨by rfl, ?_⟩) (by assumption) ?_
  rotate_left
  · (intro w hSw; (try dsimp only at hSw); go_simp <;> try with_reducible rfl)
  try simp only [Act.put, List.setIfInBounds_toArray, List.set_cons_zero, List.set_cons_succ]
  refine wpAnyH_take (i := 11) (oi := { dst := some 6, op := Go.Op.assign (Go.Operand.tmp 17), type := 4, pos := "l04_accounts.go:82", after := #[{ on := 9, ground := Go.Ground.data }, { on := 10, ground := Go.Ground.chain }, { on := 0, ground := Go.Ground.phase }, { on := 1, ground := Go.Ground.phase }, { on := 2, ground := Go.Ground.phase }, { on := 3, ground := Go.Ground.phase }, { on := 4, ground := Go.Ground.phase }, { on := 5, ground := Go.Ground.phase }, { on := 6, ground := Go.Ground.phase }, { on := 7, ground := Go.Ground.phase }, { on := 8, ground := Go.Ground.phase }, { on := 9, ground := Go.Ground.phase }, { on := 10, ground := Go.Ground.phase }], guard := none }) (v := ?_) rfl (by kernel_rfl) (by kernel_rfl) (by kernel_rfl) (fun _ _ _ h => h) (Or.inl ⟨by rfl, ?_⟩) (by assumption) ?_
  rotate_left
  · (intro w hSw; (try dsimp only at hSw); go_simp <;> try with_reducible rfl)
  try simp only [Act.put, List.setIfInBounds_toArray, List.set_cons_zero, List.set_cons_succ]
  refine wpAnyH_done (by kernel_rfl) ?_ _
  refine NoPanic.normal ?_
  generalize hWg : (w.alloc (.cells #[.string a.code, .int .i64 a.places, .int .i64 a.step] 43 (0, 0))) = W at HT HC HB b0 t2 HM hHeld ⊢
  have hWs : w.heap.size < W.heap.size := HC.out.lt
  clear hWg HM hHeld
  have t0 := HT.out.top0
  have t1 := HT.out.top1
  have b1 : W.cell? ⟨w.heap.size, 1, none⟩ = some (.int .i64 a.places) := (HC.out.cell 1).trans rfl
  have b2 : W.cell? ⟨w.heap.size, 2, none⟩ = some (.int .i64 a.step) := (HC.out.cell 2).trans rfl
  go_wp2_with (first
    | (go_at_call 122; refine (implName_eq _ _ hsz hname).mono ?_; rintro e w' ⟨rfl, rfl⟩)
    | (go_at_call 123; refine (isKind_eq _ _ hkind).mono ?_; rintro e w' ⟨rfl, rfl⟩)
    | (go_at_call 124; refine (up_eq w.heap.size a.places W.drew HT.out.drew RL b1 HU.out).mono ?_; rintro e w' ⟨rfl, q, rfl⟩; simp only [upV]))
  have hang' : ∀ W', TR Tryd.prog W' base T mp n c N S (.slice adn n capn) → base ≤ W'.heap.size → Calls Tryd.prog 127 #[.pointer (some ⟨T, 0, none⟩), .agg #[.string a.code, .int .i64 a.places, .int .i64 a.step], .pointer (some ⟨N s0, 0, none⟩)] W' fun e w' => e = .returned undef ∧ (∃ N' S' ns', TR Tryd.prog w' base T mp (n + 1) c N' S' ns') ∧ Below base W' w' ∧ W'.heap.size ≤ w'.heap.size := by
    intro W' h1 h2
    have := hang_any T mp base n s0 c N S _ W' h1 h2 hn L1 hs0 (by rw [← HA.out]; exact hsz20) (by omega)
    rw [← HA.out] at this
    exact this
  have HG : Hid (∀ W', TR Tryd.prog W' base T mp n c N S (.slice adn n capn) → base ≤ W'.heap.size → Calls Tryd.prog 127 #[.pointer (some ⟨T, 0, none⟩), .agg #[.string a.code, .int .i64 a.places, .int .i64 a.step], .pointer (some ⟨N s0, 0, none⟩)] W' fun e w' => e = .returned undef ∧ (∃ N' S' ns', TR Tryd.prog w' base T mp (n + 1) c N' S' ns') ∧ Below base W' w' ∧ W'.heap.size ≤ w'.heap.size) := hang'
  have s4 := HT.out.depth hs
  rw [hdd] at s4
  have hbW : base ≤ W.heap.size := by omega
  clear hang' hok R RL L1 hdd hd9 hdeep hln
  cases s0 with
  | zero =>
    obtain ⟨abv, s5, habv⟩ : ∃ abv, W.cell? ⟨N 0, 5, none⟩ = some (.pointer abv) ∧ abv.isNone = true := ⟨none, HT.out.above0, rfl⟩
    refine wp_region_noPanic ?_
    refine wp_region_held_drew (S := fun w' => w'.cell? ⟨N 0, 5, none⟩ = some (.pointer abv) ∧ w'.cell? ⟨w.heap.size, 2, none⟩ = some (.int .i64 a.step)) (by kernel_rfl) ?_ (fun hHeld => ?_)
    · exact ⟨s5, b2⟩
    refine wpAnyH_take (i := 0) (oi := { dst := some 52, op := Go.Op.move (Go.Operand.tmp 7), type := 179, pos := "l04_accounts.go:97", after := #[], guard := none }) (v := ?_) rfl (by kernel_rfl) (by kernel_rfl) (by kernel_rfl) (fun _ _ _ h => h) (Or.inl ⟨by rfl, ?_⟩) (by assumption) ?_
    rotate_left
    · (intro w hSw; (try dsimp only at hSw); go_simp <;> try with_reducible rfl)
    try simp only [Act.put, List.setIfInBounds_toArray, List.set_cons_zero, List.set_cons_succ]
    refine wpAnyH_ready (rs := [1]) (by kernel_rfl) (by simp) ?_
    refine AllReadyH.cons (o := { dst := some 53, op := Go.Op.call { callee := Go.Callee.value (Go.Operand.func 126), args := #[Go.Operand.tmp 52], argTypes := #[179] }, type := 4, pos := "l04_accounts.go:97", after := #[{ on := 0, ground := Go.Ground.data }], guard := none }) rfl (fun K hK => ?_) AllReadyH.nil
    go_simp
    (go_at_call 126; refine (isTop_eq _ abv _ (by exact s5) habv).mono ?_; rintro e w' ⟨rfl, ew⟩; replace ew := ew.symm; subst ew)
    first | refine hK.out _ _ ?_ (fun hHeld => ?_) | (go_wp2_with fail; refine hK.out _ _ ?_ (fun hHeld => ?_))
    · exact hHeld
    clear hK K
    try simp only [Act.put, List.setIfInBounds_toArray, List.set_cons_zero, List.set_cons_succ]
    refine wpAnyH_take (i := 2) (oi := { dst := some 54, op := Go.Op.unOp Go.UnOp.not 4 (Go.Operand.tmp 53), type := 4, pos := "l04_accounts.go:97", after := #[{ on := 1, ground := Go.Ground.data }], guard := none }) (v := ?_) rfl (by kernel_rfl) (by kernel_rfl) (by kernel_rfl) (fun _ _ _ h => h) (Or.inl ⟨by rfl, ?_⟩) (by assumption) ?_
    rotate_left
    · (intro w hSw; (try dsimp only at hSw); go_simp <;> try with_reducible rfl)
    try simp only [Act.put, List.setIfInBounds_toArray, List.set_cons_zero, List.set_cons_succ]
    refine wpAnyH_take (i := 3) (oi := { dst := some 55, op := Go.Op.move (Go.Operand.tmp 54), type := 4, pos := "l04_accounts.go:97", after := #[{ on := 2, ground := Go.Ground.data }, { on := 1, ground := Go.Ground.chain }], guard := none }) (v := ?_) rfl (by kernel_rfl) (by kernel_rfl) (by kernel_rfl) (fun _ _ _ h => h) (Or.inl ⟨by rfl, ?_⟩) (by assumption) ?_
    rotate_left
    · (intro w hSw; (try dsimp only at hSw); go_simp <;> try with_reducible rfl)
    try simp only [Act.put, List.setIfInBounds_toArray, List.set_cons_zero, List.set_cons_succ]
    refine wpAnyH_take (i := 4) (oi := { dst := some 56, op := Go.Op.move (Go.Operand.tmp 7), type := 179, pos := "l04_accounts.go:97", after := #[{ on := 3, ground := Go.Ground.guard }], guard := some (3, true) }) (v := undef) rfl (by kernel_rfl) (by kernel_rfl) (by kernel_rfl) (fun _ _ _ h => h) (Or.inr ⟨by rfl, rfl⟩) (by assumption) ?_
    try simp only [Act.put, List.setIfInBounds_toArray, List.set_cons_zero, List.set_cons_succ]
    refine wpAnyH_take (i := 5) (oi := { dst := some 57, op := Go.Op.nilCheck (Go.Operand.tmp 56), type := 0, pos := "l04_accounts.go:97", after := #[{ on := 4, ground := Go.Ground.data }, { on := 3, ground := Go.Ground.guard }], guard := some (3, true) }) (v := undef) rfl (by kernel_rfl) (by kernel_rfl) (by kernel_rfl) (fun _ _ _ h => h) (Or.inr ⟨by rfl, rfl⟩) (by assumption) ?_
    try simp only [Act.put, List.setIfInBounds_toArray, List.set_cons_zero, List.set_cons_succ]
    refine wpAnyH_take (i := 6) (oi := { dst := some 58, op := Go.Op.fieldAddr 182 (Go.Operand.tmp 57) 0, type := 0, pos := "l04_accounts.go:97", after := #[{ on := 5, ground := Go.Ground.data }, { on := 3, ground := Go.Ground.guard }], guard := some (3, true) }) (v := undef) rfl (by kernel_rfl) (by kernel_rfl) (by kernel_rfl) (fun _ _ _ h => h) (Or.inr ⟨by rfl, rfl⟩) (by assumption) ?_
    try simp only [Act.put, List.setIfInBounds_toArray, List.set_cons_zero, List.set_cons_succ]
    refine wpAnyH_take (i := 7) (oi := { dst := some 59, op := Go.Op.fieldAddr 43 (Go.Operand.tmp 58) 2, type := 0, pos := "l04_accounts.go:97", after := #[{ on := 6, ground := Go.Ground.data }, { on := 3, ground := Go.Ground.guard }], guard := some (3, true) }) (v := undef) rfl (by kernel_rfl) (by kernel_rfl) (by kernel_rfl) (fun _ _ _ h => h) (Or.inr ⟨by rfl, rfl⟩) (by assumption) ?_
    try simp only [Act.put, List.setIfInBounds_toArray, List.set_cons_zero, List.set_cons_succ]
    refine wpAnyH_take (i := 8) (oi := { dst := some 60, op := Go.Op.load 3 (Go.Operand.tmp 59), type := 3, pos := "l04_accounts.go:97", after := #[{ on := 7, ground := Go.Ground.data }, { on := 3, ground := Go.Ground.guard }], guard := some (3, true) }) (v := undef) rfl (by kernel_rfl) (by kernel_rfl) (by kernel_rfl) (fun _ _ _ h => h) (Or.inr ⟨by rfl, rfl⟩) (by assumption) ?_
    try simp only [Act.put, List.setIfInBounds_toArray, List.set_cons_zero, List.set_cons_succ]
    refine wpAnyH_take (i := 9) (oi := { dst := some 61, op := Go.Op.fieldAddr 43 (Go.Operand.tmp 3) 2, type := 0, pos := "l04_accounts.go:97", after := #[{ on := 3, ground := Go.Ground.guard }], guard := some (3, true) }) (v := undef) rfl (by kernel_rfl) (by kernel_rfl) (by kernel_rfl) (fun _ _ _ h => h) (Or.inr ⟨by rfl, rfl⟩) (by assumption) ?_
    try simp only [Act.put, List.setIfInBounds_toArray, List.set_cons_zero, List.set_cons_succ]
    refine wpAnyH_take (i := 10) (oi := { dst := some 62, op := Go.Op.load 3 (Go.Operand.tmp 61), type := 3, pos := "l04_accounts.go:97", after := #[{ on := 9, ground := Go.Ground.data }, { on := 3, ground := Go.Ground.guard }], guard := some (3, true) }) (v := undef) rfl (by kernel_rfl) (by kernel_rfl) (by kernel_rfl) (fun _ _ _ h => h) (Or.inr ⟨by rfl, rfl⟩) (by assumption) ?_
    try simp only [Act.put, List.setIfInBounds_toArray, List.set_cons_zero, List.set_cons_succ]
    refine wpAnyH_take (i := 11) (oi := { dst := some 63, op := Go.Op.binOp Go.BinOp.neq 3 (Go.Operand.tmp 60) (Go.Operand.tmp 62) 3, type := 4, pos := "l04_accounts.go:97", after := #[{ on := 8, ground := Go.Ground.data }, { on := 10, ground := Go.Ground.data }, { on := 3, ground := Go.Ground.guard }], guard := some (3, true) }) (v := undef) rfl (by kernel_rfl) (by kernel_rfl) (by kernel_rfl) (fun _ _ _ h => h) (Or.inr ⟨by rfl, rfl⟩) (by assumption) ?_
    try simp only [Act.put, List.setIfInBounds_toArray, List.set_cons_zero, List.set_cons_succ]
    refine wpAnyH_take (i := 12) (oi := { dst := some 64, op := Go.Op.pick (Go.Operand.tmp 55) (Go.Operand.tmp 63) (Go.Operand.const (Go.Value.bool false)), type := 4, pos := "l04_accounts.go:97", after := #[{ on := 3, ground := Go.Ground.data }, { on := 11, ground := Go.Ground.data }], guard := none }) (v := ?_) rfl (by kernel_rfl) (by kernel_rfl) (by kernel_rfl) (fun _ _ _ h => h) (Or.inl ⟨by rfl, ?_⟩) (by assumption) ?_
    rotate_left
    · (intro w hSw; (try dsimp only at hSw); go_simp <;> try with_reducible rfl)
    try simp only [Act.put, List.setIfInBounds_toArray, List.set_cons_zero, List.set_cons_succ]
    refine wpAnyH_take (i := 13) (oi := { dst := some 51, op := Go.Op.assign (Go.Operand.tmp 64), type := 4, pos := "l04_accounts.go:97", after := #[{ on := 12, ground := Go.Ground.data }, { on := 3, ground := Go.Ground.chain }], guard := none }) (v := ?_) rfl (by kernel_rfl) (by kernel_rfl) (by kernel_rfl) (fun _ _ _ h => h) (Or.inl ⟨by rfl, ?_⟩) (by assumption) ?_
    rotate_left
    · (intro w hSw; (try dsimp only at hSw); go_simp <;> try with_reducible rfl)
    try simp only [Act.put, List.setIfInBounds_toArray, List.set_cons_zero, List.set_cons_succ]
    refine wpAnyH_done (by kernel_rfl) ?_ _
    refine NoPanic.normal ?_
    go_wp2_with (go_at_call 127; refine (HG.out _ (by exact HT.out.keep (fun _ _ => rfl)) (by exact hbW)).mono ?_; rintro e w' ⟨rfl, HR, HBB, _⟩; have HR2 : Hid (∃ N' S' ns', TR Tryd.prog w' base T mp (n + 1) c N' S' ns') := HR; have HB2 : Hid (Below base W w') := ⟨HBB.os, HBB.tape, HBB.output, HBB.size, HBB.block⟩; clear HR HBB)
    go_returns
    exact ⟨rfl, HR2.out, HB.out.trans HB2.out⟩
  | succ i =>
    obtain ⟨abv, s5, habv⟩ : ∃ abv, W.cell? ⟨N (i + 1), 5, none⟩ = some (.pointer abv) ∧ abv.isNone = false := ⟨_, HT.out.aboveS (by omega), rfl⟩
    have s2 := HT.out.kind (by omega : i < n)
    rw [HK.out i hs0] at s2
    generalize i + 1 = s0 at s5 s4 s2 HG ⊢
    refine wp_region_noPanic ?_
    refine wp_region_held_drew (S := fun w' => w'.cell? ⟨N s0, 5, none⟩ = some (.pointer abv) ∧ w'.cell? ⟨w.heap.size, 2, none⟩ = some (.int .i64 a.step) ∧ w'.cell? ⟨N s0, 2, none⟩ = some (.int .i64 a.step)) (by kernel_rfl) ?_ (fun hHeld => ?_)
    · exact ⟨s5, b2, s2⟩
    refine wpAnyH_take (i := 0) (oi := { dst := some 52, op := Go.Op.move (Go.Operand.tmp 7), type := 179, pos := "l04_accounts.go:97", after := #[], guard := none }) (v := ?_) rfl (by kernel_rfl) (by kernel_rfl) (by kernel_rfl) (fun _ _ _ h => h) (Or.inl ⟨by rfl, ?_⟩) (by assumption) ?_
    rotate_left
    · (intro w hSw; (try dsimp only at hSw); go_simp <;> try with_reducible rfl)
    try simp only [Act.put, List.setIfInBounds_toArray, List.set_cons_zero, List.set_cons_succ]
    refine wpAnyH_ready (rs := [1]) (by kernel_rfl) (by simp) ?_
    refine AllReadyH.cons (o := { dst := some 53, op := Go.Op.call { callee := Go.Callee.value (Go.Operand.func 126), args := #[Go.Operand.tmp 52], argTypes := #[179] }, type := 4, pos := "l04_accounts.go:97", after := #[{ on := 0, ground := Go.Ground.data }], guard := none }) rfl (fun K hK => ?_) AllReadyH.nil
    go_simp
    (go_at_call 126; refine (isTop_eq _ abv _ (by exact s5) habv).mono ?_; rintro e w' ⟨rfl, ew⟩; replace ew := ew.symm; subst ew)
    first | refine hK.out _ _ ?_ (fun hHeld => ?_) | (go_wp2_with fail; refine hK.out _ _ ?_ (fun hHeld => ?_))
    · exact hHeld
    clear hK K
    try simp only [Act.put, List.setIfInBounds_toArray, List.set_cons_zero, List.set_cons_succ]
    refine wpAnyH_take (i := 2) (oi := { dst := some 54, op := Go.Op.unOp Go.UnOp.not 4 (Go.Operand.tmp 53), type := 4, pos := "l04_accounts.go:97", after := #[{ on := 1, ground := Go.Ground.data }], guard := none }) (v := ?_) rfl (by kernel_rfl) (by kernel_rfl) (by kernel_rfl) (fun _ _ _ h => h) (Or.inl ⟨by rfl, ?_⟩) (by assumption) ?_
    rotate_left
    · (intro w hSw; (try dsimp only at hSw); go_simp <;> try with_reducible rfl)
    try simp only [Act.put, List.setIfInBounds_toArray, List.set_cons_zero, List.set_cons_succ]
    refine wpAnyH_take (i := 3) (oi := { dst := some 55, op := Go.Op.move (Go.Operand.tmp 54), type := 4, pos := "l04_accounts.go:97", after := #[{ on := 2, ground := Go.Ground.data }, { on := 1, ground := Go.Ground.chain }], guard := none }) (v := ?_) rfl (by kernel_rfl) (by kernel_rfl) (by kernel_rfl) (fun _ _ _ h => h) (Or.inl ⟨by rfl, ?_⟩) (by assumption) ?_
    rotate_left
    · (intro w hSw; (try dsimp only at hSw); go_simp <;> try with_reducible rfl)
    try simp only [Act.put, List.setIfInBounds_toArray, List.set_cons_zero, List.set_cons_succ]
    refine wpAnyH_take (i := 4) (oi := { dst := some 56, op := Go.Op.move (Go.Operand.tmp 7), type := 179, pos := "l04_accounts.go:97", after := #[{ on := 3, ground := Go.Ground.guard }], guard := some (3, true) }) (v := ?_) rfl (by kernel_rfl) (by kernel_rfl) (by kernel_rfl) (fun _ _ _ h => h) (Or.inl ⟨by rfl, ?_⟩) (by assumption) ?_
    rotate_left
    · (intro w hSw; (try dsimp only at hSw); go_simp <;> try with_reducible rfl)
    try simp only [Act.put, List.setIfInBounds_toArray, List.set_cons_zero, List.set_cons_succ]
    refine wpAnyH_take (i := 5) (oi := { dst := some 57, op := Go.Op.nilCheck (Go.Operand.tmp 56), type := 0, pos := "l04_accounts.go:97", after := #[{ on := 4, ground := Go.Ground.data }, { on := 3, ground := Go.Ground.guard }], guard := some (3, true) }) (v := ?_) rfl (by kernel_rfl) (by kernel_rfl) (by kernel_rfl) (fun _ _ _ h => h) (Or.inl ⟨by rfl, ?_⟩) (by assumption) ?_
    rotate_left
    · (intro w hSw; (try dsimp only at hSw); go_simp <;> try with_reducible rfl)
    try simp only [Act.put, List.setIfInBounds_toArray, List.set_cons_zero, List.set_cons_succ]
    refine wpAnyH_take (i := 6) (oi := { dst := some 58, op := Go.Op.fieldAddr 182 (Go.Operand.tmp 57) 0, type := 0, pos := "l04_accounts.go:97", after := #[{ on := 5, ground := Go.Ground.data }, { on := 3, ground := Go.Ground.guard }], guard := some (3, true) }) (v := ?_) rfl (by kernel_rfl) (by kernel_rfl) (by kernel_rfl) (fun _ _ _ h => h) (Or.inl ⟨by rfl, ?_⟩) (by assumption) ?_
    rotate_left
    · (intro w hSw; (try dsimp only at hSw); go_simp <;> try with_reducible rfl)
    try simp only [Act.put, List.setIfInBounds_toArray, List.set_cons_zero, List.set_cons_succ]
    refine wpAnyH_take (i := 7) (oi := { dst := some 59, op := Go.Op.fieldAddr 43 (Go.Operand.tmp 58) 2, type := 0, pos := "l04_accounts.go:97", after := #[{ on := 6, ground := Go.Ground.data }, { on := 3, ground := Go.Ground.guard }], guard := some (3, true) }) (v := ?_) rfl (by kernel_rfl) (by kernel_rfl) (by kernel_rfl) (fun _ _ _ h => h) (Or.inl ⟨by rfl, ?_⟩) (by assumption) ?_
    rotate_left
    · (intro w hSw; (try dsimp only at hSw); go_simp <;> try with_reducible rfl)
    try simp only [Act.put, List.setIfInBounds_toArray, List.set_cons_zero, List.set_cons_succ]
    refine wpAnyH_take (i := 8) (oi := { dst := some 60, op := Go.Op.load 3 (Go.Operand.tmp 59), type := 3, pos := "l04_accounts.go:97", after := #[{ on := 7, ground := Go.Ground.data }, { on := 3, ground := Go.Ground.guard }], guard := some (3, true) }) (v := ?_) rfl (by kernel_rfl) (by kernel_rfl) (by kernel_rfl) (fun _ _ _ h => h) (Or.inl ⟨by rfl, ?_⟩) (by assumption) ?_
    rotate_left
    · (intro w hSw; (try dsimp only at hSw); go_simp <;> try with_reducible rfl)
    try simp only [Act.put, List.setIfInBounds_toArray, List.set_cons_zero, List.set_cons_succ]
    refine wpAnyH_take (i := 9) (oi := { dst := some 61, op := Go.Op.fieldAddr 43 (Go.Operand.tmp 3) 2, type := 0, pos := "l04_accounts.go:97", after := #[{ on := 3, ground := Go.Ground.guard }], guard := some (3, true) }) (v := ?_) rfl (by kernel_rfl) (by kernel_rfl) (by kernel_rfl) (fun _ _ _ h => h) (Or.inl ⟨by rfl, ?_⟩) (by assumption) ?_
    rotate_left
    · (intro w hSw; (try dsimp only at hSw); go_simp <;> try with_reducible rfl)
    try simp only [Act.put, List.setIfInBounds_toArray, List.set_cons_zero, List.set_cons_succ]
    refine wpAnyH_take (i := 10) (oi := { dst := some 62, op := Go.Op.load 3 (Go.Operand.tmp 61), type := 3, pos := "l04_accounts.go:97", after := #[{ on := 9, ground := Go.Ground.data }, { on := 3, ground := Go.Ground.guard }], guard := some (3, true) }) (v := ?_) rfl (by kernel_rfl) (by kernel_rfl) (by kernel_rfl) (fun _ _ _ h => h) (Or.inl ⟨by rfl, ?_⟩) (by assumption) ?_
    rotate_left
    · (intro w hSw; (try dsimp only at hSw); go_simp <;> try with_reducible rfl)
    try simp only [Act.put, List.setIfInBounds_toArray, List.set_cons_zero, List.set_cons_succ]
    refine wpAnyH_take (i := 11) (oi := { dst := some 63, op := Go.Op.binOp Go.BinOp.neq 3 (Go.Operand.tmp 60) (Go.Operand.tmp 62) 3, type := 4, pos := "l04_accounts.go:97", after := #[{ on := 8, ground := Go.Ground.data }, { on := 10, ground := Go.Ground.data }, { on := 3, ground := Go.Ground.guard }], guard := some (3, true) }) (v := ?_) rfl (by kernel_rfl) (by kernel_rfl) (by kernel_rfl) (fun _ _ _ h => h) (Or.inl ⟨by rfl, ?_⟩) (by assumption) ?_
    rotate_left
    · (intro w hSw; (try dsimp only at hSw); go_simp <;> try with_reducible rfl)
    try simp only [Act.put, List.setIfInBounds_toArray, List.set_cons_zero, List.set_cons_succ]
    refine wpAnyH_take (i := 12) (oi := { dst := some 64, op := Go.Op.pick (Go.Operand.tmp 55) (Go.Operand.tmp 63) (Go.Operand.const (Go.Value.bool false)), type := 4, pos := "l04_accounts.go:97", after := #[{ on := 3, ground := Go.Ground.data }, { on := 11, ground := Go.Ground.data }], guard := none }) (v := ?_) rfl (by kernel_rfl) (by kernel_rfl) (by kernel_rfl) (fun _ _ _ h => h) (Or.inl ⟨by rfl, ?_⟩) (by assumption) ?_
    rotate_left
    · (intro w hSw; (try dsimp only at hSw); go_simp <;> try with_reducible rfl)
    try simp only [Act.put, List.setIfInBounds_toArray, List.set_cons_zero, List.set_cons_succ]
    refine wpAnyH_take (i := 13) (oi := { dst := some 51, op := Go.Op.assign (Go.Operand.tmp 64), type := 4, pos := "l04_accounts.go:97", after := #[{ on := 12, ground := Go.Ground.data }, { on := 3, ground := Go.Ground.chain }], guard := none }) (v := ?_) rfl (by kernel_rfl) (by kernel_rfl) (by kernel_rfl) (fun _ _ _ h => h) (Or.inl ⟨by rfl, ?_⟩) (by assumption) ?_
    rotate_left
    · (intro w hSw; (try dsimp only at hSw); go_simp <;> try with_reducible rfl)
    try simp only [Act.put, List.setIfInBounds_toArray, List.set_cons_zero, List.set_cons_succ]
    refine wpAnyH_done (by kernel_rfl) ?_ _
    refine NoPanic.normal ?_
    go_wp2_with (go_at_call 127; refine (HG.out _ (by exact HT.out.keep (fun _ _ => rfl)) (by exact hbW)).mono ?_; rintro e w' ⟨rfl, HR, HBB, _⟩; have HR2 : Hid (∃ N' S' ns', TR Tryd.prog w' base T mp (n + 1) c N' S' ns') := HR; have HB2 : Hid (Below base W w') := ⟨HBB.os, HBB.tape, HBB.output, HBB.size, HBB.block⟩; clear HR HBB)
    go_returns
    exact ⟨rfl, HR2.out, HB.out.trans HB2.out⟩

/-- The seven refusals are laid: none of them is nil. -/
def EL (w : World) : Prop := ∀ g : Nat, (g = 0 ∨ 2 ≤ g) → g ≤ 8 → ∃ ty v, w.cell? ⟨g, 0, none⟩ = some (.iface ty v)
theorem EL.heap {w w' : World} (h : EL w) (k : ∀ b, b < w.heap.size → w'.heap[b]? = w.heap[b]?) : EL w' := fun g h1 h2 => by
  obtain ⟨ty, v, hv⟩ := h g h1 h2
  exact ⟨ty, v, (World.cell?_of_block (k g (World.block_lt_of_cell? w _ hv))).trans hv⟩
theorem EL.below {w w' : World} (h : EL w) {B : Nat} (k : Below B w w') (hB : 9 ≤ B) : EL w' := fun g h1 h2 => by
  obtain ⟨ty, v, hv⟩ := h g h1 h2
  exact ⟨ty, v, (World.cell?_of_block (k.block g (show g < B by omega))).trans hv⟩

def ErrP (w : World) (e : Ending) (w' : World) : Prop := ∃ ty v, e = .returned (.iface ty v) ∧ Below w.heap.size w w'

set_option maxRecDepth 20000 in
set_option maxHeartbeats 4000000 in
theorem add_bad (T mp base n : Nat) (c : Nat → C3) (N : Nat → Nat) (S : Nat → Value) (ns : Value) (w : World) (h : TR Tryd.prog w base T mp n c N S ns) (hE : EL w) (hn : n ≤ 120) (R : RightTo c n) (hsz : (c n).code.size ≤ maxLen) (hbad : ¬ (n < 120 ∧ OkAt c n)) :
    Calls Tryd.prog 100 #[.pointer (some ⟨T, 0, none⟩), .agg #[.string (c n).code, .int .i64 (c n).places, .int .i64 (c n).step]] w (ErrP w) := by
  obtain ⟨a, ha⟩ : ∃ a, a = c n := ⟨_, rfl⟩
  rw [← ha] at hsz ⊢
  obtain ⟨vv, hF0⟩ : ∃ vv, ((codeAt c n a.code).map (fun i => pn (N (i + 1)))).getD (.pointer none) = vv := ⟨_, rfl⟩
  obtain ⟨ok, hO0⟩ : ∃ ok, ((codeAt c n a.code).map (fun i => pn (N (i + 1)))).isSome = ok := ⟨_, rfl⟩
  have hF : Hid (((codeAt c n a.code).map (fun i => pn (N (i + 1)))).getD (.pointer none) = vv) := hF0
  have hO : Hid (((codeAt c n a.code).map (fun i => pn (N (i + 1)))).isSome = ok) := hO0
  have RL := R.low
  have hcase : (n = 120) ∨ (n < 120 ∧ nameB a.code = false) ∨ (n < 120 ∧ nameB a.code = true ∧ ok = true) ∨ (n < 120 ∧ nameB a.code = true ∧ ok = false ∧ inB a.step 1 5 = false) ∨ (n < 120 ∧ nameB a.code = true ∧ ok = false ∧ inB a.step 1 5 = true ∧ upW (par c) (atP a.places) n = none) ∨
      (∃ i, i < n ∧ n < 120 ∧ nameB a.code = true ∧ ok = false ∧ inB a.step 1 5 = true ∧ upW (par c) (atP a.places) n = some (i + 1) ∧ (c i).step ≠ a.step) ∨
      (∃ i, i < n ∧ n < 120 ∧ nameB a.code = true ∧ ok = false ∧ inB a.step 1 5 = true ∧ upW (par c) (atP a.places) n = some (i + 1) ∧ (c i).step = a.step ∧ dep (par c) (i + 1) = 9) := by
    by_cases h1 : n = 120
    · exact .inl h1
    refine .inr ?_
    have h1' : n < 120 := by omega
    cases h2 : nameB a.code
    · exact .inl ⟨h1', rfl⟩
    refine .inr ?_
    cases h3 : ok
    rotate_left
    · exact .inl ⟨h1', rfl, rfl⟩
    refine .inr ?_
    cases h4 : inB a.step 1 5
    · exact .inl ⟨h1', rfl, rfl, rfl⟩
    refine .inr ?_
    cases h5 : upW (par c) (atP a.places) n with
    | none => exact .inl ⟨h1', rfl, rfl, rfl, rfl⟩
    | some t =>
      refine .inr ?_
      obtain ⟨q1, q2⟩ := upW_some h5
      have q3 := atP_iff.1 q2
      have hpa : par c n = a.places := by rw [ha]; rfl
      have nomore : (0 ≤ par c n → (c (par c n).toNat).step = (c n).step) → dep (par c) (par c n + 1).toNat ≤ 8 → False := fun r1 r2 => hbad ⟨h1', by rw [← ha]; exact h2, by rw [← ha]; exact inB_iff.1 h4, fun k hk e => by
        have hcn : codeAt c n a.code = none := by
          cases q : codeAt c n a.code with
          | none => rfl
          | some i => rw [q] at hO0; rw [h3] at hO0; simp at hO0
        exact codeAt_none hcn k hk (by rw [e, ha]), by rw [hpa, h5]; simp, r1, r2⟩
      cases t with
      | zero =>
        exfalso
        refine nomore (fun q => by omega) ?_
        rw [show (par c n + 1).toNat = 0 by omega, dep_zero]; omega
      | succ i =>
        by_cases h6 : (c i).step = a.step
        · refine .inr ⟨i, by omega, h1', rfl, rfl, rfl, rfl, h6, ?_⟩
          have h9 := R.dep_le (i + 1) q1
          rcases Nat.lt_or_ge (dep (par c) (i + 1)) 9 with q | q
          · exfalso
            refine nomore (fun _ => ?_) ?_
            · rw [show (par c n).toNat = i by omega, h6, ha]
            · rw [show (par c n + 1).toNat = i + 1 by omega]; omega
          · omega
        · exact .inl ⟨i, by omega, h1', rfl, rfl, rfl, rfl, h6⟩
  have HCS : Hid ((n = 120) ∨ (n < 120 ∧ nameB a.code = false) ∨ (n < 120 ∧ nameB a.code = true ∧ ok = true) ∨ (n < 120 ∧ nameB a.code = true ∧ ok = false ∧ inB a.step 1 5 = false) ∨ (n < 120 ∧ nameB a.code = true ∧ ok = false ∧ inB a.step 1 5 = true ∧ upW (par c) (atP a.places) n = none) ∨
      (∃ i, i < n ∧ n < 120 ∧ nameB a.code = true ∧ ok = false ∧ inB a.step 1 5 = true ∧ upW (par c) (atP a.places) n = some (i + 1) ∧ (c i).step ≠ a.step) ∨
      (∃ i, i < n ∧ n < 120 ∧ nameB a.code = true ∧ ok = false ∧ inB a.step 1 5 = true ∧ upW (par c) (atP a.places) n = some (i + 1) ∧ (c i).step = a.step ∧ dep (par c) (i + 1) = 9)) := hcase
  obtain ⟨adn, capn, rfl⟩ := row_form h.nodes
  have h1 := h.alloc (.cells #[.string a.code, .int .i64 a.places, .int .i64 a.step] 43 (0, 0))
  have hE1 := hE.heap (w' := w.alloc (.cells #[.string a.code, .int .i64 a.places, .int .i64 a.step] 43 (0, 0))) (fun b hb => heap_alloc_old _ _ hb)
  have C1 := CB.new (w := w) #[.string a.code, .int .i64 a.places, .int .i64 a.step] 43
  have b0 : (w.alloc (.cells #[.string a.code, .int .i64 a.places, .int .i64 a.step] 43 (0, 0))).cell? ⟨w.heap.size, 0, none⟩ = some (.string a.code) := (C1.cell 0).trans rfl
  have t2 := h1.top2
  have HM : Hid (MT Tryd.prog 9 (.pointer none) (w.alloc (.cells #[.string a.code, .int .i64 a.places, .int .i64 a.step] 43 (0, 0))).drew mp n (fun x => (codeAt c n x).map (fun i => pn (N (i + 1))))) := h1.map
  have HT : Hid (TR Tryd.prog (w.alloc (.cells #[.string a.code, .int .i64 a.places, .int .i64 a.step] 43 (0, 0))) base T mp n c N S (.slice adn n capn)) := h1
  have HE : Hid (EL (w.alloc (.cells #[.string a.code, .int .i64 a.places, .int .i64 a.step] 43 (0, 0)))) := hE1
  have HC : Hid (CB (w.alloc (.cells #[.string a.code, .int .i64 a.places, .int .i64 a.step] 43 (0, 0))) w.heap.size #[.string a.code, .int .i64 a.places, .int .i64 a.step] 43) := C1
  have HB : Hid (Below w.heap.size w (w.alloc (.cells #[.string a.code, .int .i64 a.places, .int .i64 a.step] 43 (0, 0)))) := (Below.refl _ _).alloc (Nat.le_refl _) _
  clear h h1 C1 ha hcase hF0 hO0 hE hE1 hbad
  have hmf : ∀ (fn : Fn) (first cap : Array Value) (w : World), (Instr.makeFunc fn first cap).run Tryd.prog w = .ok (.func fn first cap) w := fun _ _ _ _ => rfl
  go_enter Tryd.func100, Tryd.ntmps100
  go_wp2
  refine wp_region_noPanic ?_
  refine wp_region_held_drew (S := fun w' => w'.cell? ⟨T, 2, none⟩ = some (.map (some mp)) ∧ w'.cell? ⟨w.heap.size, 0, none⟩ = some (.string a.code)) (by kernel_rfl) ?_ (fun hHeld => ?_)
  · exact ⟨t2, b0⟩
  refine wpAnyH_take (i := 0) (oi := { dst := some 9, op := Go.Op.move (Go.Operand.tmp 0), type := 80, pos := "l04_accounts.go:82", after := #[], guard := none }) (v := ?_) rfl (by kernel_rfl) (by kernel_rfl) (by kernel_rfl) (fun _ _ _ h => h) (Or.inl ⟨by rfl, ?_⟩) (by assumption) ?_
  rotate_left
  · (intro w hSw; (try dsimp only at hSw); go_simp <;> try with_reducible rfl)
  try simp only [Act.put, List.setIfInBounds_toArray, List.set_cons_zero, List.set_cons_succ]
  refine wpAnyH_take (i := 1) (oi := { dst := some 10, op := Go.Op.nilCheck (Go.Operand.tmp 9), type := 0, pos := "l04_accounts.go:82", after := #[{ on := 0, ground := Go.Ground.data }], guard := none }) (v := ?_) rfl (by kernel_rfl) (by kernel_rfl) (by kernel_rfl) (fun _ _ _ h => h) (Or.inl ⟨by rfl, ?_⟩) (by assumption) ?_
  rotate_left
  · (intro w hSw; (try dsimp only at hSw); go_simp <;> try with_reducible rfl)
  try simp only [Act.put, List.setIfInBounds_toArray, List.set_cons_zero, List.set_cons_succ]
  refine wpAnyH_take (i := 2) (oi := { dst := some 11, op := Go.Op.fieldAddr 185 (Go.Operand.tmp 10) 2, type := 0, pos := "l04_accounts.go:82", after := #[{ on := 1, ground := Go.Ground.data }], guard := none }) (v := ?_) rfl (by kernel_rfl) (by kernel_rfl) (by kernel_rfl) (fun _ _ _ h => h) (Or.inl ⟨by rfl, ?_⟩) (by assumption) ?_
  rotate_left
  · (intro w hSw; (try dsimp only at hSw); go_simp <;> try with_reducible rfl)
  try simp only [Act.put, List.setIfInBounds_toArray, List.set_cons_zero, List.set_cons_succ]
  refine wpAnyH_take (i := 3) (oi := { dst := some 12, op := Go.Op.load 183 (Go.Operand.tmp 11), type := 183, pos := "l04_accounts.go:82", after := #[{ on := 2, ground := Go.Ground.data }], guard := none }) (v := ?_) rfl (by kernel_rfl) (by kernel_rfl) (by kernel_rfl) (fun _ _ _ h => h) (Or.inl ⟨by rfl, ?_⟩) (by assumption) ?_
  rotate_left
  · (intro w hSw; (try dsimp only at hSw); go_simp <;> try with_reducible rfl)
  try simp only [Act.put, List.setIfInBounds_toArray, List.set_cons_zero, List.set_cons_succ]
  refine wpAnyH_take (i := 4) (oi := { dst := some 13, op := Go.Op.fieldAddr 43 (Go.Operand.tmp 3) 0, type := 0, pos := "l04_accounts.go:82", after := #[], guard := none }) (v := ?_) rfl (by kernel_rfl) (by kernel_rfl) (by kernel_rfl) (fun _ _ _ h => h) (Or.inl ⟨by rfl, ?_⟩) (by assumption) ?_
  rotate_left
  · (intro w hSw; (try dsimp only at hSw); go_simp <;> try with_reducible rfl)
  try simp only [Act.put, List.setIfInBounds_toArray, List.set_cons_zero, List.set_cons_succ]
  refine wpAnyH_take (i := 5) (oi := { dst := some 14, op := Go.Op.load 9 (Go.Operand.tmp 13), type := 9, pos := "l04_accounts.go:82", after := #[{ on := 4, ground := Go.Ground.data }], guard := none }) (v := ?_) rfl (by kernel_rfl) (by kernel_rfl) (by kernel_rfl) (fun _ _ _ h => h) (Or.inl ⟨by rfl, ?_⟩) (by assumption) ?_
  rotate_left
  · (intro w hSw; (try dsimp only at hSw); go_simp <;> try with_reducible rfl)
  try simp only [Act.put, List.setIfInBounds_toArray, List.set_cons_zero, List.set_cons_succ]
  refine wpAnyH_ready (rs := [6]) (by kernel_rfl) (by simp) ?_
  refine AllReadyH.cons (o := { dst := some 15, op := Go.Op.lookup 183 (Go.Operand.tmp 12) (Go.Operand.tmp 14) true, type := 186, pos := "l04_accounts.go:82", after := #[{ on := 3, ground := Go.Ground.data }, { on := 5, ground := Go.Ground.data }], guard := none }) rfl (fun K hK => ?_) AllReadyH.nil
  rw [if_pos (by rfl)]
  refine oper_look_mt (Operand.tmp 12) (Operand.tmp 14) 183 rfl 9 179 key9 Tryd.underlying9 Tryd.underlying183 (.pointer none) (zero60 _) mp n (fun x => (codeAt c n x).map (fun i => pn (N (i + 1)))) rfl HM.out a.code rfl hsz vv ok hF.out hO.out ?_
  refine hK.out _ _ (by exact hHeld) (fun hHeld => ?_)
  clear hK K
  try simp only [Act.put, List.setIfInBounds_toArray, List.set_cons_zero, List.set_cons_succ]
  refine wpAnyH_take (i := 7) (oi := { dst := some 8, op := Go.Op.move (Go.Operand.tmp 15), type := 186, pos := "l04_accounts.go:82", after := #[{ on := 6, ground := Go.Ground.data }], guard := none }) (v := ?_) rfl (by kernel_rfl) (by kernel_rfl) (by kernel_rfl) (fun _ _ _ h => h) (Or.inl ⟨by rfl, ?_⟩) (by assumption) ?_
  rotate_left
  · (intro w hSw; (try dsimp only at hSw); go_simp <;> try with_reducible rfl)
  try simp only [Act.put, List.setIfInBounds_toArray, List.set_cons_zero, List.set_cons_succ]
  refine wpAnyH_take (i := 8) (oi := { dst := some 16, op := Go.Op.extract (Go.Operand.tmp 8) 0, type := 179, pos := "l04_accounts.go:82", after := #[{ on := 7, ground := Go.Ground.data }], guard := none }) (v := ?_) rfl (by kernel_rfl) (by kernel_rfl) (by kernel_rfl) (fun _ _ _ h => h) (Or.inl ⟨by rfl, ?_⟩) (by assumption) ?_
  rotate_left
  · (intro w hSw; (try dsimp only at hSw); go_simp <;> try with_reducible rfl)
  try simp only [Act.put, List.setIfInBounds_toArray, List.set_cons_zero, List.set_cons_succ]
  refine wpAnyH_take (i := 9) (oi := { dst := some 17, op := Go.Op.extract (Go.Operand.tmp 8) 1, type := 4, pos := "l04_accounts.go:82", after := #[{ on := 7, ground := Go.Ground.data }, { on := 10, ground := Go.Ground.gcOnly Go.Departure.lateStores }], guard := none }) (v := ?_) rfl (by kernel_rfl) (by kernel_rfl) (by kernel_rfl) (fun _ _ _ h => h) (Or.inl ⟨by rfl, ?_⟩) (by assumption) ?_
  rotate_left
  · (intro w hSw; (try dsimp only at hSw); go_simp <;> try with_reducible rfl)
  try simp only [Act.put, List.setIfInBounds_toArray, List.set_cons_zero, List.set_cons_succ]
  refine wpAnyH_take (i := 10) (oi := { dst := some 5, op := Go.Op.assign (Go.Operand.tmp 16), type := 179, pos := "l04_accounts.go:82", after := #[{ on := 8, ground := Go.Ground.data }, { on := 0, ground := Go.Ground.phase }, { on := 1, ground := Go.Ground.phase }, { on := 2, ground := Go.Ground.phase }, { on := 3, ground := Go.Ground.phase }, { on := 4, ground := Go.Ground.phase }, { on := 5, ground := Go.Ground.phase }, { on := 6, ground := Go.Ground.phase }, { on := 7, ground := Go.Ground.phase }, { on := 8, ground := Go.Ground.phase }, { on := 9, ground := Go.Ground.textOnly Go.Departure.lateStores }], guard := none }) (v := ?_) rfl (by kernel_rfl) (by kernel_rfl) (by kernel_rfl) (fun _ _ _ h => h) (Or.inl ⟨by rfl, ?_⟩) (by assumption) ?_
  rotate_left
  · (intro w hSw; (try dsimp only at hSw); go_simp <;> try with_reducible rfl)
  try simp only [Act.put, List.setIfInBounds_toArray, List.set_cons_zero, List.set_cons_succ]
  refine wpAnyH_take (i := 11) (oi := { dst := some 6, op := Go.Op.assign (Go.Operand.tmp 17), type := 4, pos := "l04_accounts.go:82", after := #[{ on := 9, ground := Go.Ground.data }, { on := 10, ground := Go.Ground.chain }, { on := 0, ground := Go.Ground.phase }, { on := 1, ground := Go.Ground.phase }, { on := 2, ground := Go.Ground.phase }, { on := 3, ground := Go.Ground.phase }, { on := 4, ground := Go.Ground.phase }, { on := 5, ground := Go.Ground.phase }, { on := 6, ground := Go.Ground.phase }, { on := 7, ground := Go.Ground.phase }, { on := 8, ground := Go.Ground.phase }, { on := 9, ground := Go.Ground.phase }, { on := 10, ground := Go.Ground.phase }], guard := none }) (v := ?_) rfl (by kernel_rfl) (by kernel_rfl) (by kernel_rfl) (fun _ _ _ h => h) (Or.inl ⟨by rfl, ?_⟩) (by assumption) ?_
  rotate_left
  · (intro w hSw; (try dsimp only at hSw); go_simp <;> try with_reducible rfl)
  try simp only [Act.put, List.setIfInBounds_toArray, List.set_cons_zero, List.set_cons_succ]
  refine wpAnyH_done (by kernel_rfl) ?_ _
  refine NoPanic.normal ?_
  generalize hWg : (w.alloc (.cells #[.string a.code, .int .i64 a.places, .int .i64 a.step] 43 (0, 0))) = W at HT HC HB HE b0 t2 HM hHeld ⊢
  clear hWg HM hHeld
  have t0 := HT.out.top0
  have t1 := HT.out.top1
  have b1 : W.cell? ⟨w.heap.size, 1, none⟩ = some (.int .i64 a.places) := (HC.out.cell 1).trans rfl
  have b2 : W.cell? ⟨w.heap.size, 2, none⟩ = some (.int .i64 a.step) := (HC.out.cell 2).trans rfl
  rcases HCS.out with q1 | ⟨q1, q2⟩ | ⟨q1, q2, q3⟩ | ⟨q1, q2, q3, q4⟩ | ⟨q1, q2, q3, q4, q5⟩ | ⟨i, hi, q1, q2, q3, q4, q5, q6⟩ | ⟨i, hi, q1, q2, q3, q4, q5, q6, q7⟩
  · have hn1 : ((n : Int) == 120) = true := by simp; omega
    obtain ⟨ty, v, e2⟩ := HE.out 2 (by omega) (by omega)
    clear HCS
    go_wp2
    go_returns
    exact ⟨ty, v, rfl, HB.out.drew⟩
  · have hn1 : ((n : Int) == 120) = false := by simp; omega
    obtain ⟨ty, v, e3⟩ := HE.out 3 (by omega) (by omega)
    clear HCS
    go_wp2_with (go_at_call 122; refine (implName_eq _ _ hsz q2).mono ?_; rintro e w' ⟨rfl, rfl⟩)
    go_returns
    exact ⟨ty, v, rfl, HB.out.drew⟩
  · have hn1 : ((n : Int) == 120) = false := by simp; omega
    obtain ⟨ty, v, e3⟩ := HE.out 4 (by omega) (by omega)
    clear HCS
    subst q3
    go_wp2_with (go_at_call 122; refine (implName_eq _ _ hsz q2).mono ?_; rintro e w' ⟨rfl, rfl⟩)
    go_returns
    exact ⟨ty, v, rfl, HB.out.drew⟩
  · have hn1 : ((n : Int) == 120) = false := by simp; omega
    obtain ⟨ty, v, e3⟩ := HE.out 5 (by omega) (by omega)
    clear HCS
    subst q3
    go_wp2_with (first
      | (go_at_call 122; refine (implName_eq _ _ hsz q2).mono ?_; rintro e w' ⟨rfl, rfl⟩)
      | (go_at_call 123; refine (isKind_eq _ _ q4).mono ?_; rintro e w' ⟨rfl, rfl⟩))
    go_returns
    exact ⟨ty, v, rfl, HB.out.drew⟩
  · have hn1 : ((n : Int) == 120) = false := by simp; omega
    obtain ⟨ty, v, e3⟩ := HE.out 6 (by omega) (by omega)
    have HU : Hid (upW (par c) (atP a.places) n = none) := q5
    clear HCS q5
    subst q3
    go_wp2_with (first
      | (go_at_call 122; refine (implName_eq _ _ hsz q2).mono ?_; rintro e w' ⟨rfl, rfl⟩)
      | (go_at_call 123; refine (isKind_eq _ _ q4).mono ?_; rintro e w' ⟨rfl, rfl⟩)
      | (go_at_call 124; refine (up_eq w.heap.size a.places W.drew HT.out.drew RL b1 HU.out).mono ?_; rintro e w' ⟨rfl, q, rfl⟩; simp only [upV]))
    go_returns
    exact ⟨ty, v, rfl, ⟨HB.out.os, HB.out.tape, HB.out.output, HB.out.size, HB.out.block⟩⟩
  · have hn1 : ((n : Int) == 120) = false := by simp; omega
    obtain ⟨ty, v, e3⟩ := HE.out 7 (by omega) (by omega)
    have HU : Hid (upW (par c) (atP a.places) n = some (i + 1)) := q5
    obtain ⟨kk, hkk⟩ : ∃ kk, kk = (c i).step := ⟨_, rfl⟩
    have hke : (kk == a.step) = false := by rw [hkk]; simpa using q6
    obtain ⟨abv, s5, habv⟩ : ∃ abv, W.cell? ⟨N (i + 1), 5, none⟩ = some (.pointer abv) ∧ abv.isNone = false := ⟨_, HT.out.aboveS hi, rfl⟩
    have s2 := HT.out.kind hi
    rw [← hkk] at s2
    clear HCS q5 q6 hkk
    subst q3
    generalize i + 1 = s0 at s5 s2 HU
    go_wp2_with (first
      | (go_at_call 122; refine (implName_eq _ _ hsz q2).mono ?_; rintro e w' ⟨rfl, rfl⟩)
      | (go_at_call 123; refine (isKind_eq _ _ q4).mono ?_; rintro e w' ⟨rfl, rfl⟩)
      | (go_at_call 124; refine (up_eq w.heap.size a.places W.drew HT.out.drew RL b1 HU.out).mono ?_; rintro e w' ⟨rfl, q, rfl⟩; simp only [upV]))
    refine wp_region_noPanic ?_
    refine wp_region_held_drew (S := fun w' => w'.cell? ⟨N s0, 5, none⟩ = some (.pointer abv) ∧ w'.cell? ⟨w.heap.size, 2, none⟩ = some (.int .i64 a.step) ∧ w'.cell? ⟨N s0, 2, none⟩ = some (.int .i64 kk)) (by kernel_rfl) ?_ (fun hHeld => ?_)
    · exact ⟨s5, b2, s2⟩
    refine wpAnyH_take (i := 0) (oi := { dst := some 52, op := Go.Op.move (Go.Operand.tmp 7), type := 179, pos := "l04_accounts.go:97", after := #[], guard := none }) (v := ?_) rfl (by kernel_rfl) (by kernel_rfl) (by kernel_rfl) (fun _ _ _ h => h) (Or.inl ⟨by rfl, ?_⟩) (by assumption) ?_
    rotate_left
    · (intro w hSw; (try dsimp only at hSw); go_simp <;> try with_reducible rfl)
    try simp only [Act.put, List.setIfInBounds_toArray, List.set_cons_zero, List.set_cons_succ]
    refine wpAnyH_ready (rs := [1]) (by kernel_rfl) (by simp) ?_
    refine AllReadyH.cons (o := { dst := some 53, op := Go.Op.call { callee := Go.Callee.value (Go.Operand.func 126), args := #[Go.Operand.tmp 52], argTypes := #[179] }, type := 4, pos := "l04_accounts.go:97", after := #[{ on := 0, ground := Go.Ground.data }], guard := none }) rfl (fun K hK => ?_) AllReadyH.nil
    go_simp
    (go_at_call 126; refine (isTop_eq _ abv _ (by exact s5) habv).mono ?_; rintro e w' ⟨rfl, ew⟩; replace ew := ew.symm; subst ew)
    first | refine hK.out _ _ ?_ (fun hHeld => ?_) | (go_wp2_with fail; refine hK.out _ _ ?_ (fun hHeld => ?_))
    · exact hHeld
    clear hK K
    try simp only [Act.put, List.setIfInBounds_toArray, List.set_cons_zero, List.set_cons_succ]
    refine wpAnyH_take (i := 2) (oi := { dst := some 54, op := Go.Op.unOp Go.UnOp.not 4 (Go.Operand.tmp 53), type := 4, pos := "l04_accounts.go:97", after := #[{ on := 1, ground := Go.Ground.data }], guard := none }) (v := ?_) rfl (by kernel_rfl) (by kernel_rfl) (by kernel_rfl) (fun _ _ _ h => h) (Or.inl ⟨by rfl, ?_⟩) (by assumption) ?_
    rotate_left
    · (intro w hSw; (try dsimp only at hSw); go_simp <;> try with_reducible rfl)
    try simp only [Act.put, List.setIfInBounds_toArray, List.set_cons_zero, List.set_cons_succ]
    refine wpAnyH_take (i := 3) (oi := { dst := some 55, op := Go.Op.move (Go.Operand.tmp 54), type := 4, pos := "l04_accounts.go:97", after := #[{ on := 2, ground := Go.Ground.data }, { on := 1, ground := Go.Ground.chain }], guard := none }) (v := ?_) rfl (by kernel_rfl) (by kernel_rfl) (by kernel_rfl) (fun _ _ _ h => h) (Or.inl ⟨by rfl, ?_⟩) (by assumption) ?_
    rotate_left
    · (intro w hSw; (try dsimp only at hSw); go_simp <;> try with_reducible rfl)
    try simp only [Act.put, List.setIfInBounds_toArray, List.set_cons_zero, List.set_cons_succ]
    refine wpAnyH_take (i := 4) (oi := { dst := some 56, op := Go.Op.move (Go.Operand.tmp 7), type := 179, pos := "l04_accounts.go:97", after := #[{ on := 3, ground := Go.Ground.guard }], guard := some (3, true) }) (v := ?_) rfl (by kernel_rfl) (by kernel_rfl) (by kernel_rfl) (fun _ _ _ h => h) (Or.inl ⟨by rfl, ?_⟩) (by assumption) ?_
    rotate_left
    · (intro w hSw; (try dsimp only at hSw); go_simp <;> try with_reducible rfl)
    try simp only [Act.put, List.setIfInBounds_toArray, List.set_cons_zero, List.set_cons_succ]
    refine wpAnyH_take (i := 5) (oi := { dst := some 57, op := Go.Op.nilCheck (Go.Operand.tmp 56), type := 0, pos := "l04_accounts.go:97", after := #[{ on := 4, ground := Go.Ground.data }, { on := 3, ground := Go.Ground.guard }], guard := some (3, true) }) (v := ?_) rfl (by kernel_rfl) (by kernel_rfl) (by kernel_rfl) (fun _ _ _ h => h) (Or.inl ⟨by rfl, ?_⟩) (by assumption) ?_
    rotate_left
    · (intro w hSw; (try dsimp only at hSw); go_simp <;> try with_reducible rfl)
    try simp only [Act.put, List.setIfInBounds_toArray, List.set_cons_zero, List.set_cons_succ]
    refine wpAnyH_take (i := 6) (oi := { dst := some 58, op := Go.Op.fieldAddr 182 (Go.Operand.tmp 57) 0, type := 0, pos := "l04_accounts.go:97", after := #[{ on := 5, ground := Go.Ground.data }, { on := 3, ground := Go.Ground.guard }], guard := some (3, true) }) (v := ?_) rfl (by kernel_rfl) (by kernel_rfl) (by kernel_rfl) (fun _ _ _ h => h) (Or.inl ⟨by rfl, ?_⟩) (by assumption) ?_
    rotate_left
    · (intro w hSw; (try dsimp only at hSw); go_simp <;> try with_reducible rfl)
    try simp only [Act.put, List.setIfInBounds_toArray, List.set_cons_zero, List.set_cons_succ]
    refine wpAnyH_take (i := 7) (oi := { dst := some 59, op := Go.Op.fieldAddr 43 (Go.Operand.tmp 58) 2, type := 0, pos := "l04_accounts.go:97", after := #[{ on := 6, ground := Go.Ground.data }, { on := 3, ground := Go.Ground.guard }], guard := some (3, true) }) (v := ?_) rfl (by kernel_rfl) (by kernel_rfl) (by kernel_rfl) (fun _ _ _ h => h) (Or.inl ⟨by rfl, ?_⟩) (by assumption) ?_
    rotate_left
    · (intro w hSw; (try dsimp only at hSw); go_simp <;> try with_reducible rfl)
    try simp only [Act.put, List.setIfInBounds_toArray, List.set_cons_zero, List.set_cons_succ]
    refine wpAnyH_take (i := 8) (oi := { dst := some 60, op := Go.Op.load 3 (Go.Operand.tmp 59), type := 3, pos := "l04_accounts.go:97", after := #[{ on := 7, ground := Go.Ground.data }, { on := 3, ground := Go.Ground.guard }], guard := some (3, true) }) (v := ?_) rfl (by kernel_rfl) (by kernel_rfl) (by kernel_rfl) (fun _ _ _ h => h) (Or.inl ⟨by rfl, ?_⟩) (by assumption) ?_
    rotate_left
    · (intro w hSw; (try dsimp only at hSw); go_simp <;> try with_reducible rfl)
    try simp only [Act.put, List.setIfInBounds_toArray, List.set_cons_zero, List.set_cons_succ]
    refine wpAnyH_take (i := 9) (oi := { dst := some 61, op := Go.Op.fieldAddr 43 (Go.Operand.tmp 3) 2, type := 0, pos := "l04_accounts.go:97", after := #[{ on := 3, ground := Go.Ground.guard }], guard := some (3, true) }) (v := ?_) rfl (by kernel_rfl) (by kernel_rfl) (by kernel_rfl) (fun _ _ _ h => h) (Or.inl ⟨by rfl, ?_⟩) (by assumption) ?_
    rotate_left
    · (intro w hSw; (try dsimp only at hSw); go_simp <;> try with_reducible rfl)
    try simp only [Act.put, List.setIfInBounds_toArray, List.set_cons_zero, List.set_cons_succ]
    refine wpAnyH_take (i := 10) (oi := { dst := some 62, op := Go.Op.load 3 (Go.Operand.tmp 61), type := 3, pos := "l04_accounts.go:97", after := #[{ on := 9, ground := Go.Ground.data }, { on := 3, ground := Go.Ground.guard }], guard := some (3, true) }) (v := ?_) rfl (by kernel_rfl) (by kernel_rfl) (by kernel_rfl) (fun _ _ _ h => h) (Or.inl ⟨by rfl, ?_⟩) (by assumption) ?_
    rotate_left
    · (intro w hSw; (try dsimp only at hSw); go_simp <;> try with_reducible rfl)
    try simp only [Act.put, List.setIfInBounds_toArray, List.set_cons_zero, List.set_cons_succ]
    refine wpAnyH_take (i := 11) (oi := { dst := some 63, op := Go.Op.binOp Go.BinOp.neq 3 (Go.Operand.tmp 60) (Go.Operand.tmp 62) 3, type := 4, pos := "l04_accounts.go:97", after := #[{ on := 8, ground := Go.Ground.data }, { on := 10, ground := Go.Ground.data }, { on := 3, ground := Go.Ground.guard }], guard := some (3, true) }) (v := ?_) rfl (by kernel_rfl) (by kernel_rfl) (by kernel_rfl) (fun _ _ _ h => h) (Or.inl ⟨by rfl, ?_⟩) (by assumption) ?_
    rotate_left
    · (intro w hSw; (try dsimp only at hSw); go_simp <;> try with_reducible rfl)
    try simp only [Act.put, List.setIfInBounds_toArray, List.set_cons_zero, List.set_cons_succ]
    refine wpAnyH_take (i := 12) (oi := { dst := some 64, op := Go.Op.pick (Go.Operand.tmp 55) (Go.Operand.tmp 63) (Go.Operand.const (Go.Value.bool false)), type := 4, pos := "l04_accounts.go:97", after := #[{ on := 3, ground := Go.Ground.data }, { on := 11, ground := Go.Ground.data }], guard := none }) (v := ?_) rfl (by kernel_rfl) (by kernel_rfl) (by kernel_rfl) (fun _ _ _ h => h) (Or.inl ⟨by rfl, ?_⟩) (by assumption) ?_
    rotate_left
    · (intro w hSw; (try dsimp only at hSw); go_simp <;> try with_reducible rfl)
    try simp only [Act.put, List.setIfInBounds_toArray, List.set_cons_zero, List.set_cons_succ]
    refine wpAnyH_take (i := 13) (oi := { dst := some 51, op := Go.Op.assign (Go.Operand.tmp 64), type := 4, pos := "l04_accounts.go:97", after := #[{ on := 12, ground := Go.Ground.data }, { on := 3, ground := Go.Ground.chain }], guard := none }) (v := ?_) rfl (by kernel_rfl) (by kernel_rfl) (by kernel_rfl) (fun _ _ _ h => h) (Or.inl ⟨by rfl, ?_⟩) (by assumption) ?_
    rotate_left
    · (intro w hSw; (try dsimp only at hSw); go_simp <;> try with_reducible rfl)
    try simp only [Act.put, List.setIfInBounds_toArray, List.set_cons_zero, List.set_cons_succ]
    refine wpAnyH_done (by kernel_rfl) ?_ _
    refine NoPanic.normal ?_
    go_wp2
    go_returns
    exact ⟨ty, v, rfl, ⟨HB.out.os, HB.out.tape, HB.out.output, HB.out.size, HB.out.block⟩⟩
  · have hn1 : ((n : Int) == 120) = false := by simp; omega
    obtain ⟨ty, v, e3⟩ := HE.out 8 (by omega) (by omega)
    have HU : Hid (upW (par c) (atP a.places) n = some (i + 1)) := q5
    obtain ⟨abv, s5, habv⟩ : ∃ abv, W.cell? ⟨N (i + 1), 5, none⟩ = some (.pointer abv) ∧ abv.isNone = false := ⟨_, HT.out.aboveS hi, rfl⟩
    have s2 := HT.out.kind hi
    rw [q6] at s2
    have s4 := HT.out.depth (by omega : i + 1 ≤ n)
    rw [q7, show (((9 : Nat) : Int) - 1) = 8 by omega] at s4
    clear HCS q5 q6 q7
    subst q3
    generalize i + 1 = s0 at s5 s2 s4 HU
    go_wp2_with (first
      | (go_at_call 122; refine (implName_eq _ _ hsz q2).mono ?_; rintro e w' ⟨rfl, rfl⟩)
      | (go_at_call 123; refine (isKind_eq _ _ q4).mono ?_; rintro e w' ⟨rfl, rfl⟩)
      | (go_at_call 124; refine (up_eq w.heap.size a.places W.drew HT.out.drew RL b1 HU.out).mono ?_; rintro e w' ⟨rfl, q, rfl⟩; simp only [upV]))
    refine wp_region_noPanic ?_
    refine wp_region_held_drew (S := fun w' => w'.cell? ⟨N s0, 5, none⟩ = some (.pointer abv) ∧ w'.cell? ⟨w.heap.size, 2, none⟩ = some (.int .i64 a.step) ∧ w'.cell? ⟨N s0, 2, none⟩ = some (.int .i64 a.step)) (by kernel_rfl) ?_ (fun hHeld => ?_)
    · exact ⟨s5, b2, s2⟩
    refine wpAnyH_take (i := 0) (oi := { dst := some 52, op := Go.Op.move (Go.Operand.tmp 7), type := 179, pos := "l04_accounts.go:97", after := #[], guard := none }) (v := ?_) rfl (by kernel_rfl) (by kernel_rfl) (by kernel_rfl) (fun _ _ _ h => h) (Or.inl ⟨by rfl, ?_⟩) (by assumption) ?_
    rotate_left
    · (intro w hSw; (try dsimp only at hSw); go_simp <;> try with_reducible rfl)
    try simp only [Act.put, List.setIfInBounds_toArray, List.set_cons_zero, List.set_cons_succ]
    refine wpAnyH_ready (rs := [1]) (by kernel_rfl) (by simp) ?_
    refine AllReadyH.cons (o := { dst := some 53, op := Go.Op.call { callee := Go.Callee.value (Go.Operand.func 126), args := #[Go.Operand.tmp 52], argTypes := #[179] }, type := 4, pos := "l04_accounts.go:97", after := #[{ on := 0, ground := Go.Ground.data }], guard := none }) rfl (fun K hK => ?_) AllReadyH.nil
    go_simp
    (go_at_call 126; refine (isTop_eq _ abv _ (by exact s5) habv).mono ?_; rintro e w' ⟨rfl, ew⟩; replace ew := ew.symm; subst ew)
    first | refine hK.out _ _ ?_ (fun hHeld => ?_) | (go_wp2_with fail; refine hK.out _ _ ?_ (fun hHeld => ?_))
    · exact hHeld
    clear hK K
    try simp only [Act.put, List.setIfInBounds_toArray, List.set_cons_zero, List.set_cons_succ]
    refine wpAnyH_take (i := 2) (oi := { dst := some 54, op := Go.Op.unOp Go.UnOp.not 4 (Go.Operand.tmp 53), type := 4, pos := "l04_accounts.go:97", after := #[{ on := 1, ground := Go.Ground.data }], guard := none }) (v := ?_) rfl (by kernel_rfl) (by kernel_rfl) (by kernel_rfl) (fun _ _ _ h => h) (Or.inl ⟨by rfl, ?_⟩) (by assumption) ?_
    rotate_left
    · (intro w hSw; (try dsimp only at hSw); go_simp <;> try with_reducible rfl)
    try simp only [Act.put, List.setIfInBounds_toArray, List.set_cons_zero, List.set_cons_succ]
    refine wpAnyH_take (i := 3) (oi := { dst := some 55, op := Go.Op.move (Go.Operand.tmp 54), type := 4, pos := "l04_accounts.go:97", after := #[{ on := 2, ground := Go.Ground.data }, { on := 1, ground := Go.Ground.chain }], guard := none }) (v := ?_) rfl (by kernel_rfl) (by kernel_rfl) (by kernel_rfl) (fun _ _ _ h => h) (Or.inl ⟨by rfl, ?_⟩) (by assumption) ?_
    rotate_left
    · (intro w hSw; (try dsimp only at hSw); go_simp <;> try with_reducible rfl)
    try simp only [Act.put, List.setIfInBounds_toArray, List.set_cons_zero, List.set_cons_succ]
    refine wpAnyH_take (i := 4) (oi := { dst := some 56, op := Go.Op.move (Go.Operand.tmp 7), type := 179, pos := "l04_accounts.go:97", after := #[{ on := 3, ground := Go.Ground.guard }], guard := some (3, true) }) (v := ?_) rfl (by kernel_rfl) (by kernel_rfl) (by kernel_rfl) (fun _ _ _ h => h) (Or.inl ⟨by rfl, ?_⟩) (by assumption) ?_
    rotate_left
    · (intro w hSw; (try dsimp only at hSw); go_simp <;> try with_reducible rfl)
    try simp only [Act.put, List.setIfInBounds_toArray, List.set_cons_zero, List.set_cons_succ]
    refine wpAnyH_take (i := 5) (oi := { dst := some 57, op := Go.Op.nilCheck (Go.Operand.tmp 56), type := 0, pos := "l04_accounts.go:97", after := #[{ on := 4, ground := Go.Ground.data }, { on := 3, ground := Go.Ground.guard }], guard := some (3, true) }) (v := ?_) rfl (by kernel_rfl) (by kernel_rfl) (by kernel_rfl) (fun _ _ _ h => h) (Or.inl ⟨by rfl, ?_⟩) (by assumption) ?_
    rotate_left
    · (intro w hSw; (try dsimp only at hSw); go_simp <;> try with_reducible rfl)
    try simp only [Act.put, List.setIfInBounds_toArray, List.set_cons_zero, List.set_cons_succ]
    refine wpAnyH_take (i := 6) (oi := { dst := some 58, op := Go.Op.fieldAddr 182 (Go.Operand.tmp 57) 0, type := 0, pos := "l04_accounts.go:97", after := #[{ on := 5, ground := Go.Ground.data }, { on := 3, ground := Go.Ground.guard }], guard := some (3, true) }) (v := ?_) rfl (by kernel_rfl) (by kernel_rfl) (by kernel_rfl) (fun _ _ _ h => h) (Or.inl ⟨by rfl, ?_⟩) (by assumption) ?_
    rotate_left
    · (intro w hSw; (try dsimp only at hSw); go_simp <;> try with_reducible rfl)
    try simp only [Act.put, List.setIfInBounds_toArray, List.set_cons_zero, List.set_cons_succ]
    refine wpAnyH_take (i := 7) (oi := { dst := some 59, op := Go.Op.fieldAddr 43 (Go.Operand.tmp 58) 2, type := 0, pos := "l04_accounts.go:97", after := #[{ on := 6, ground := Go.Ground.data }, { on := 3, ground := Go.Ground.guard }], guard := some (3, true) }) (v := ?_) rfl (by kernel_rfl) (by kernel_rfl) (by kernel_rfl) (fun _ _ _ h => h) (Or.inl ⟨by rfl, ?_⟩) (by assumption) ?_
    rotate_left
    · (intro w hSw; (try dsimp only at hSw); go_simp <;> try with_reducible rfl)
    try simp only [Act.put, List.setIfInBounds_toArray, List.set_cons_zero, List.set_cons_succ]
    refine wpAnyH_take (i := 8) (oi := { dst := some 60, op := Go.Op.load 3 (Go.Operand.tmp 59), type := 3, pos := "l04_accounts.go:97", after := #[{ on := 7, ground := Go.Ground.data }, { on := 3, ground := Go.Ground.guard }], guard := some (3, true) }) (v := ?_) rfl (by kernel_rfl) (by kernel_rfl) (by kernel_rfl) (fun _ _ _ h => h) (Or.inl ⟨by rfl, ?_⟩) (by assumption) ?_
    rotate_left
    · (intro w hSw; (try dsimp only at hSw); go_simp <;> try with_reducible rfl)
    try simp only [Act.put, List.setIfInBounds_toArray, List.set_cons_zero, List.set_cons_succ]
    refine wpAnyH_take (i := 9) (oi := { dst := some 61, op := Go.Op.fieldAddr 43 (Go.Operand.tmp 3) 2, type := 0, pos := "l04_accounts.go:97", after := #[{ on := 3, ground := Go.Ground.guard }], guard := some (3, true) }) (v := ?_) rfl (by kernel_rfl) (by kernel_rfl) (by kernel_rfl) (fun _ _ _ h => h) (Or.inl ⟨by rfl, ?_⟩) (by assumption) ?_
    rotate_left
    · (intro w hSw; (try dsimp only at hSw); go_simp <;> try with_reducible rfl)
    try simp only [Act.put, List.setIfInBounds_toArray, List.set_cons_zero, List.set_cons_succ]
    refine wpAnyH_take (i := 10) (oi := { dst := some 62, op := Go.Op.load 3 (Go.Operand.tmp 61), type := 3, pos := "l04_accounts.go:97", after := #[{ on := 9, ground := Go.Ground.data }, { on := 3, ground := Go.Ground.guard }], guard := some (3, true) }) (v := ?_) rfl (by kernel_rfl) (by kernel_rfl) (by kernel_rfl) (fun _ _ _ h => h) (Or.inl ⟨by rfl, ?_⟩) (by assumption) ?_
    rotate_left
    · (intro w hSw; (try dsimp only at hSw); go_simp <;> try with_reducible rfl)
    try simp only [Act.put, List.setIfInBounds_toArray, List.set_cons_zero, List.set_cons_succ]
    refine wpAnyH_take (i := 11) (oi := { dst := some 63, op := Go.Op.binOp Go.BinOp.neq 3 (Go.Operand.tmp 60) (Go.Operand.tmp 62) 3, type := 4, pos := "l04_accounts.go:97", after := #[{ on := 8, ground := Go.Ground.data }, { on := 10, ground := Go.Ground.data }, { on := 3, ground := Go.Ground.guard }], guard := some (3, true) }) (v := ?_) rfl (by kernel_rfl) (by kernel_rfl) (by kernel_rfl) (fun _ _ _ h => h) (Or.inl ⟨by rfl, ?_⟩) (by assumption) ?_
    rotate_left
    · (intro w hSw; (try dsimp only at hSw); go_simp <;> try with_reducible rfl)
    try simp only [Act.put, List.setIfInBounds_toArray, List.set_cons_zero, List.set_cons_succ]
    refine wpAnyH_take (i := 12) (oi := { dst := some 64, op := Go.Op.pick (Go.Operand.tmp 55) (Go.Operand.tmp 63) (Go.Operand.const (Go.Value.bool false)), type := 4, pos := "l04_accounts.go:97", after := #[{ on := 3, ground := Go.Ground.data }, { on := 11, ground := Go.Ground.data }], guard := none }) (v := ?_) rfl (by kernel_rfl) (by kernel_rfl) (by kernel_rfl) (fun _ _ _ h => h) (Or.inl ⟨by rfl, ?_⟩) (by assumption) ?_
    rotate_left
    · (intro w hSw; (try dsimp only at hSw); go_simp <;> try with_reducible rfl)
    try simp only [Act.put, List.setIfInBounds_toArray, List.set_cons_zero, List.set_cons_succ]
    refine wpAnyH_take (i := 13) (oi := { dst := some 51, op := Go.Op.assign (Go.Operand.tmp 64), type := 4, pos := "l04_accounts.go:97", after := #[{ on := 12, ground := Go.Ground.data }, { on := 3, ground := Go.Ground.chain }], guard := none }) (v := ?_) rfl (by kernel_rfl) (by kernel_rfl) (by kernel_rfl) (fun _ _ _ h => h) (Or.inl ⟨by rfl, ?_⟩) (by assumption) ?_
    rotate_left
    · (intro w hSw; (try dsimp only at hSw); go_simp <;> try with_reducible rfl)
    try simp only [Act.put, List.setIfInBounds_toArray, List.set_cons_zero, List.set_cons_succ]
    refine wpAnyH_done (by kernel_rfl) ?_ _
    refine NoPanic.normal ?_
    go_wp2
    go_returns
    exact ⟨ty, v, rfl, ⟨HB.out.os, HB.out.tape, HB.out.output, HB.out.size, HB.out.block⟩⟩

end Go.Proofs.YtapailihjlfkgaaDoor
