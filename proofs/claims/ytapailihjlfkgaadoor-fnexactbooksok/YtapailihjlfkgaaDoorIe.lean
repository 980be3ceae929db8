/- Even lines, in the program: amounts summed by currency and bases by part in one map, then all of them asked for 0. -/
import Derived.Test.YtapailihjlfkgaaDoorMg
import Derived.Test.YtapailihjlfkgaaDoorLt
import Derived.Test.YtapailihjlfkgaaDoorTh
namespace Go.Proofs.YtapailihjlfkgaaDoor
open Go.ChangeShapes Go.WideShapes Go.ChangeAt Go.RowKit
open Go.Maps (Keyed)
open Go.ChangeMaps (setBlock heap_setBlock_same heap_setBlock_other)
set_option linter.unusedVariables false
set_option linter.unusedSimpArgs false

theorem oper_look_mg {w : World} {o : Oper} {a : Act} {K : Act → World → Prop} {Q : Exit → Act → World → Prop} (m x : Operand) (hop : o.op = Op.lookup 190 m x false) (b : Nat) (hm : a.eval m = .map (some b)) (key : Value) (hx : a.eval x = key) (v : Value)
    (hrun : (Instr.lookup 190 (.map (some b)) key false).run Tryd.prog w = .ok v w) (hK : K (a.put o.dst v) w) : Oper.wp Tryd.prog o a w K Q := by
  unfold Oper.wp
  simp [execOp, hop, hm, hx, hrun, Result.andThen]
  exact hK
theorem oper_entry_mg {w : World} {o : Oper} {a : Act} {K : Act → World → Prop} {Q : Exit → Act → World → Prop} (m x : Operand) (hop : o.op = Op.mapEntry 190 m x) (b : Nat) (hm : a.eval m = .map (some b)) (key : Value) (hx : a.eval x = key) (v : Value) (w' : World)
    (hrun : (Instr.mapEntry 190 (.map (some b)) key).run Tryd.prog w = .ok v w') (hK : K (a.put o.dst v) w') : Oper.wp Tryd.prog o a w K Q := by
  unfold Oper.wp
  simp [execOp, hop, hm, hx, hrun, Result.andThen]
  exact hK
theorem oper_store_mg {w : World} {o : Oper} {a : Act} {K : Act → World → Prop} {Q : Exit → Act → World → Prop} (m s v : Operand) (hop : o.op = Op.entryStore 190 m s v) (b : Nat) (hm : a.eval m = .map (some b)) (st : Value) (hs : a.eval s = st) (val : Value) (hv : a.eval v = val) (w' : World)
    (hrun : (Instr.entryStore 190 (.map (some b)) st val).run Tryd.prog w = .ok () w') (hK : K (a.put o.dst undef) w') : Oper.wp Tryd.prog o a w K Q := by
  unfold Oper.wp
  simp [execOp, hop, hm, hs, hv, hrun, Result.andThen]
  exact hK

theorem MG.obj {w : World} {b n : Nat} {G : Int → Int → Int} (h : MG w b n G) : ∃ es clock, w.heap[b]? = some (.map es clock) := by
  obtain ⟨D, ⟨es, clock, e1, e2⟩, h3⟩ := h
  exact ⟨es, clock, e1⟩

theorem ret_bool' {a b : Bool} (h : a = b) : Ending.returned (.bool b) = .returned (.bool a) := by rw [h]

/-- What the map holds behind the first k lines. -/
def G1 (G : Int → Int → Int) (l : L5) : Int → Int → Int := upG G l.cur (-1) (G l.cur (-1) + l.amt)
def GS (ls : Nat → L5) : Nat → Int → Int → Int
  | 0 => fun _ _ => 0
  | k + 1 => upG (G1 (GS ls k) (ls k)) (-1) (ls k).dim (G1 (GS ls k) (ls k) (-1) (ls k).dim + (ls k).base)

/-- Lines that may be summed. -/
def LOk (l : L5) : Prop := 0 ≤ l.cur ∧ l.cur ≤ 20 ∧ 0 ≤ l.dim ∧ l.dim ≤ 20 ∧ -100000000000 ≤ l.amt ∧ l.amt ≤ 100000000000 ∧ -100000000000 ≤ l.base ∧ l.base ≤ 100000000000

theorem G1_bd {G : Int → Int → Int} {l : L5} {B : Int} (h : ∀ x y, -B ≤ G x y ∧ G x y ≤ B) (hl : LOk l) (x y : Int) : -(B + 100000000000) ≤ G1 G l x y ∧ G1 G l x y ≤ B + 100000000000 := by
  unfold G1 upG
  obtain ⟨_, _, _, _, h1, h2, h3, h4⟩ := hl
  split
  · have := h l.cur (-1); omega
  · have := h x y; omega
theorem GS_bd {ls : Nat → L5} {n : Nat} (h : ∀ i, i < n → LOk (ls i)) : ∀ k, k ≤ n → ∀ x y, -((k : Int) * 200000000000) ≤ GS ls k x y ∧ GS ls k x y ≤ (k : Int) * 200000000000
  | 0, _, x, y => by simp [GS]
  | k + 1, hk, x, y => by
    have ih := GS_bd h k (by omega)
    have g1 := G1_bd (B := (k : Int) * 200000000000) ih (h k (by omega))
    obtain ⟨_, _, _, _, h1, h2, h3, h4⟩ := h k (by omega)
    unfold GS upG
    split
    · have := g1 (-1) (ls k).dim; push_cast; omega
    · have := g1 x y; push_cast; omega

theorem two_steps {W : World} {lb mb n : Nat} {G : Int → Int → Int} {x y v g : Int} (hM : MG W mb n G) (hn : n < 1000) (hx : i64ok x) (hy : i64ok y) (hv : i64ok v) (hg : G x y = g) (hne : lb ≠ mb) :
    ∃ (v0 : Value) (st : Nat) (W1 W2 : World), (Instr.lookup 190 (.map (some mb)) (pk x y) false).run Tryd.prog W = .ok (.int .i64 g) W ∧
      (Instr.mapEntry 190 (.map (some mb)) (pk x y)).run Tryd.prog W = .ok (.tuple #[v0, .int .i64 (st : Int)]) W1 ∧
      (Instr.lookup 190 (.map (some mb)) (pk x y) false).run Tryd.prog W1 = .ok (.int .i64 g) W1 ∧
      (Instr.entryStore 190 (.map (some mb)) (.int .i64 (st : Int)) (.int .i64 v)).run Tryd.prog W1 = .ok () W2 ∧
      (∀ o, W1.cell? ⟨lb, o, none⟩ = W.cell? ⟨lb, o, none⟩) ∧ (∀ o, W2.cell? ⟨lb, o, none⟩ = W.cell? ⟨lb, o, none⟩) ∧ MG W2 mb (n + 1) (upG G x y v) ∧ Below mb W W2 := by
  obtain ⟨v0, st, m1, m2, e1, M1, e2, M2, hs⟩ := hM.add (by unfold maxLen; omega) hx hy hv
  obtain ⟨es, ck, hb⟩ := hM.obj
  obtain ⟨es1, ck1, hb1⟩ := M1.obj
  have c1 : ∀ k, k ≠ mb → (setBlock W mb m1).heap[k]? = W.heap[k]? := fun k hk => heap_setBlock_other hb _ hk
  have c2 : ∀ k, k ≠ mb → (setBlock (setBlock W mb m1) mb m2).heap[k]? = W.heap[k]? := fun k hk => (heap_setBlock_other hb1 _ hk).trans (c1 k hk)
  refine ⟨v0, st, _, _, by rw [← hg]; exact hM.look hx hy, e1, by rw [← hg]; exact M1.look hx hy, e2, fun o => World.cell?_of_block (c1 lb hne), fun o => World.cell?_of_block (c2 lb hne), M2, ⟨rfl, rfl, rfl, by simp [setBlock], fun k hk => c2 k (by omega)⟩⟩

noncomputable def evB (n : Nat) (ls : Nat → L5) : Bool := @decide (∀ x y, i64ok x → i64ok y → GS ls n x y = 0) (Classical.propDecidable _)

set_option maxRecDepth 20000 in
set_option maxHeartbeats 8000000 in
theorem isEven_any (ad : Option Addr) (n cap : Nat) (ls : Nat → L5) (w : World) (hn : n ≤ 60) (hl : ∀ i, i < n → LOk (ls i)) (hr : LR w ad n ls) :
    Calls Tryd.prog 104 #[.slice ad n cap] w fun e w' => e = .returned (.bool (evB n ls)) ∧ Below w.heap.size w w' := by
  have HR : Hid (LR w ad n ls) := hr
  have HL : Hid (∀ i, i < n → LOk (ls i)) := hl
  have HG : Hid (∀ k, k ≤ n → ∀ x y, -((k : Int) * 200000000000) ≤ GS ls k x y ∧ GS ls k x y ≤ (k : Int) * 200000000000) := GS_bd hl
  clear hr hl
  obtain ⟨mb, hmb⟩ : ∃ mb, mb = w.heap.size := ⟨_, rfl⟩
  have HMB : Hid (mb = w.heap.size) := hmb
  have hmk := @run_makeMap Tryd.prog
  go_enter Tryd.func104, Tryd.ntmps104
  go_wp2
  rw [← hmb]
  clear hmb
  go_loopw [11] (fun i wr => ∃ k : Nat, k ≤ n ∧ i = .int .i64 (k : Int) ∧ MG wr mb (2 * k) (GS ls k) ∧ Below mb w wr) (fun i _ => n - (intOf i).toNat)
  case atStart => exact ⟨0, Nat.zero_le _, rfl, by rw [HMB.out]; exact MG.made w, by rw [HMB.out]; exact (Below.refl _ _).alloc (Nat.le_refl _) _⟩
  case round =>
  obtain ⟨k, hk, rfl, hM, hB⟩ := hrel
  have HM : Hid (MG wr mb (2 * k) (GS ls k)) := hM
  have HB : Hid (Below mb w wr) := hB
  by_cases hlt : k < n
  · obtain ⟨kb, off, rfl, hkb⟩ := HR.out.addr (by omega)
    obtain ⟨d1, d2, d3, d4, d5⟩ := (HR.out.below (by rw [← HMB.out]; exact hB)).cell hlt
    have hok := HL.out k hlt
    have hbd := HG.out k hk
    obtain ⟨q1, q2, q3, q4, q5, q6, q7, q8⟩ := hok
    have HQ : Hid (LOk (ls k)) := HL.out k hlt
    obtain ⟨lb, hlb⟩ : ∃ lb, lb = wr.heap.size := ⟨_, rfl⟩
    have hlm : lb ≠ mb := by have := hM.lt; omega
    obtain ⟨am, ham⟩ : ∃ am, am = (ls k).amt := ⟨_, rfl⟩
    obtain ⟨ba, hba⟩ : ∃ ba, ba = (ls k).base := ⟨_, rfl⟩
    obtain ⟨cu, hcu⟩ : ∃ cu, cu = (ls k).cur := ⟨_, rfl⟩
    obtain ⟨dm, hdm⟩ : ∃ dm, dm = (ls k).dim := ⟨_, rfl⟩
    obtain ⟨ac, hac⟩ : ∃ ac, ac = (ls k).acc := ⟨_, rfl⟩
    obtain ⟨g, hg⟩ : ∃ g, GS ls k cu (-1) = g := ⟨_, rfl⟩
    obtain ⟨g', hg'⟩ : ∃ g', G1 (GS ls k) (ls k) (-1) dm = g' := ⟨_, rfl⟩
    have b1 := hbd cu (-1)
    have b2 := G1_bd (B := (k : Int) * 200000000000) hbd HQ.out (-1) dm
    rw [hg] at b1
    rw [hg'] at b2
    rw [← hac] at d1
    rw [← hdm] at d2
    rw [← hcu] at d3
    rw [← ham] at d4
    rw [← hba] at d5
    rw [← hcu] at q1 q2
    rw [← hdm] at q3 q4
    rw [← ham] at q5 q6
    rw [← hba] at q7 q8
    obtain ⟨L0, hL0⟩ : ∃ L0, L0 = (wr.alloc (.cells #[.int .i64 ac, .int .i64 dm, .int .i64 cu, .int .i64 am, .int .i64 ba] 78 (0, 0))) := ⟨_, rfl⟩
    have C0 : CB L0 lb #[.int .i64 ac, .int .i64 dm, .int .i64 cu, .int .i64 am, .int .i64 ba] 78 := by rw [hL0, hlb]; exact CB.new _ _
    have M0 : MG L0.drew mb (2 * k) (GS ls k) := hM.block (by rw [hL0]; exact heap_alloc_old wr _ hM.lt)
    have B0 : Below mb w L0.drew := by rw [hL0]; exact (hB.alloc (by have := hM.lt; omega) _).drew
    obtain ⟨v0, st, W1, W2, hlk, hent, hlk1, hsto, hc1, hc2, M2, B2⟩ := two_steps (x := cu) (y := -1) (v := g + am) (g := g) (lb := lb) M0 (by omega) ⟨by omega, by omega⟩ ⟨by omega, by omega⟩ ⟨by omega, by omega⟩ hg hlm
    have M2' : MG W2.drew mb (2 * k + 1) (G1 (GS ls k) (ls k)) := by
      refine (M2.congr fun a c => ?_).block rfl
      unfold G1; rw [← hcu, ← ham, hg]
    obtain ⟨v1, st', W3, W4, hlk', hent', hlk1', hsto', hc3, hc4, M4, B4⟩ := two_steps (x := -1) (y := dm) (v := g' + ba) (g := g') (lb := lb) M2' (by omega) ⟨by omega, by omega⟩ ⟨by omega, by omega⟩ ⟨by omega, by omega⟩ hg' hlm
    have HM4 : Hid (MG W4 mb (2 * (k + 1)) (GS ls (k + 1))) := by
      have e : 2 * (k + 1) = 2 * k + 1 + 1 := by omega
      rw [e]
      refine M4.congr fun a c => ?_
      have e2 : GS ls (k + 1) = upG (G1 (GS ls k) (ls k)) (-1) (ls k).dim (G1 (GS ls k) (ls k) (-1) (ls k).dim + (ls k).base) := rfl
      rw [e2, ← hdm, ← hba, hg']
    have HB4 : Hid (Below mb w W4) := (B0.trans B2).trans (Below.trans ((Below.refl _ _).drew) B4)
    have c3 : L0.drew.cell? ⟨lb, 2, none⟩ = some (.int .i64 cu) := (C0.cell 2).trans rfl
    have c4 : L0.drew.cell? ⟨lb, 3, none⟩ = some (.int .i64 am) := (C0.cell 3).trans rfl
    have hS1 : W1.cell? ⟨lb, 2, none⟩ = some (.int .i64 cu) ∧ W1.cell? ⟨lb, 3, none⟩ = some (.int .i64 am) := ⟨(hc1 2).trans c3, (hc1 3).trans c4⟩
    have hS2 : W2.cell? ⟨lb, 2, none⟩ = some (.int .i64 cu) ∧ W2.cell? ⟨lb, 3, none⟩ = some (.int .i64 am) := ⟨(hc2 2).trans c3, (hc2 3).trans c4⟩
    have c2 : W2.drew.cell? ⟨lb, 1, none⟩ = some (.int .i64 dm) := (hc2 1).trans ((C0.cell 1).trans rfl)
    have c5 : W2.drew.cell? ⟨lb, 4, none⟩ = some (.int .i64 ba) := (hc2 4).trans ((C0.cell 4).trans rfl)
    have hT1 : W3.cell? ⟨lb, 1, none⟩ = some (.int .i64 dm) ∧ W3.cell? ⟨lb, 4, none⟩ = some (.int .i64 ba) := ⟨(hc3 1).trans c2, (hc3 4).trans c5⟩
    have hT2 : W4.cell? ⟨lb, 1, none⟩ = some (.int .i64 dm) ∧ W4.cell? ⟨lb, 4, none⟩ = some (.int .i64 ba) := ⟨(hc4 1).trans c2, (hc4 4).trans c5⟩
    have hw1 : IntKind.i64.wrap (g + am) = g + am := IntWalk.i64_in _ ⟨by omega, by omega⟩
    have hw2 : IntKind.i64.wrap (g' + ba) = g' + ba := IntWalk.i64_in _ ⟨by omega, by omega⟩
    clear M0 B0 M2 M2' M4 B2 B4 hc1 hc2 hc3 hc4 hbd b1 b2 hg hg' HQ C0 hM hB
    have hk60 : k < 60 := by omega
    have HL0 : Hid (L0 = (wr.alloc (.cells #[.int .i64 ac, .int .i64 dm, .int .i64 cu, .int .i64 am, .int .i64 ba] 78 (0, 0)))) := hL0
    have HLB : Hid (lb = wr.heap.size) := hlb
    clear hL0 hlb ham hba hcu hdm hac
    go_wp2
    rw [← HLB.out, ← HL0.out]
    refine wp_region_noPanic ?_
    refine wp_region_held_drew (S := fun w' => w'.cell? ⟨lb, 2, none⟩ = some (.int .i64 cu) ∧ w'.cell? ⟨lb, 3, none⟩ = some (.int .i64 am)) (by kernel_rfl) ?_ (fun hHeld => ?_)
    · exact ⟨c3, c4⟩
    refine wpAnyH_take (i := 0) (oi := { dst := some 15, op := Go.Op.move (Go.Operand.tmp 3), type := 190, pos := "l05_journal.go:107", after := #[], guard := none }) (v := ?_) rfl (by kernel_rfl) (by kernel_rfl) (by kernel_rfl) (fun _ _ _ h => h) (Or.inl ⟨by rfl, ?_⟩) (by assumption) ?_
    rotate_left
    · (intro w hSw; (try dsimp only at hSw); go_simp <;> try with_reducible rfl)
    try simp only [Act.put, List.setIfInBounds_toArray, List.set_cons_zero, List.set_cons_succ]
    refine wpAnyH_take (i := 1) (oi := { dst := some 16, op := Go.Op.fieldAddr 78 (Go.Operand.tmp 5) 2, type := 0, pos := "l05_journal.go:107", after := #[], guard := none }) (v := ?_) rfl (by kernel_rfl) (by kernel_rfl) (by kernel_rfl) (fun _ _ _ h => h) (Or.inl ⟨by rfl, ?_⟩) (by assumption) ?_
    rotate_left
    · (intro w hSw; (try dsimp only at hSw); go_simp <;> try with_reducible rfl)
    try simp only [Act.put, List.setIfInBounds_toArray, List.set_cons_zero, List.set_cons_succ]
    refine wpAnyH_take (i := 2) (oi := { dst := some 17, op := Go.Op.load 3 (Go.Operand.tmp 16), type := 3, pos := "l05_journal.go:107", after := #[{ on := 1, ground := Go.Ground.data }], guard := none }) (v := ?_) rfl (by kernel_rfl) (by kernel_rfl) (by kernel_rfl) (fun _ _ _ h => h) (Or.inl ⟨by rfl, ?_⟩) (by assumption) ?_
    rotate_left
    · (intro w hSw; (try dsimp only at hSw); go_simp <;> try with_reducible rfl)
    try simp only [Act.put, List.setIfInBounds_toArray, List.set_cons_zero, List.set_cons_succ]
    refine wpAnyH_take (i := 3) (oi := { dst := some 18, op := Go.Op.build 191 #[(0, Go.Operand.tmp 17), (1, Go.Operand.const (Go.Value.int Go.IntKind.i64 (-1)))], type := 191, pos := "l05_journal.go:107", after := #[{ on := 2, ground := Go.Ground.data }], guard := none }) (v := ?_) rfl (by kernel_rfl) (by kernel_rfl) (by kernel_rfl) (fun _ _ _ h => h) (Or.inl ⟨by rfl, ?_⟩) (by assumption) ?_
    rotate_left
    · (intro w hSw; (try dsimp only at hSw); go_simp <;> try with_reducible rfl)
    try simp only [Act.put, List.setIfInBounds_toArray, List.set_cons_zero, List.set_cons_succ]
    refine wpAnyH_take (i := 5) (oi := { dst := some 20, op := Go.Op.fieldAddr 78 (Go.Operand.tmp 5) 3, type := 0, pos := "l05_journal.go:107", after := #[], guard := none }) (v := ?_) rfl (by kernel_rfl) (by kernel_rfl) (by kernel_rfl) (fun _ _ _ h => h) (Or.inl ⟨by rfl, ?_⟩) (by assumption) ?_
    rotate_left
    · (intro w hSw; (try dsimp only at hSw); go_simp <;> try with_reducible rfl)
    try simp only [Act.put, List.setIfInBounds_toArray, List.set_cons_zero, List.set_cons_succ]
    refine wpAnyH_take (i := 6) (oi := { dst := some 21, op := Go.Op.load 3 (Go.Operand.tmp 20), type := 3, pos := "l05_journal.go:107", after := #[{ on := 5, ground := Go.Ground.data }], guard := none }) (v := ?_) rfl (by kernel_rfl) (by kernel_rfl) (by kernel_rfl) (fun _ _ _ h => h) (Or.inl ⟨by rfl, ?_⟩) (by assumption) ?_
    rotate_left
    · (intro w hSw; (try dsimp only at hSw); go_simp <;> try with_reducible rfl)
    try simp only [Act.put, List.setIfInBounds_toArray, List.set_cons_zero, List.set_cons_succ]
    refine wpAnyH_ready (rs := [4, 8]) (by kernel_rfl) (by simp) ?_
    refine AllReadyH.cons (o := { dst := some 19, op := Go.Op.lookup 190 (Go.Operand.tmp 15) (Go.Operand.tmp 18) false, type := 3, pos := "l05_journal.go:107", after := #[{ on := 0, ground := Go.Ground.data }, { on := 3, ground := Go.Ground.data }], guard := none }) rfl (fun K hK => ?_) (AllReadyH.cons (o := { dst := some 23, op := Go.Op.mapEntry 190 (Go.Operand.tmp 15) (Go.Operand.tmp 18), type := 0, pos := "l05_journal.go:107", after := #[{ on := 0, ground := Go.Ground.data }, { on := 3, ground := Go.Ground.data }, { on := 0, ground := Go.Ground.phase }, { on := 1, ground := Go.Ground.phase }, { on := 2, ground := Go.Ground.phase }, { on := 3, ground := Go.Ground.phase }, { on := 4, ground := Go.Ground.textOnly Go.Departure.mapOpAssignEntry }, { on := 5, ground := Go.Ground.phase }, { on := 6, ground := Go.Ground.phase }, { on := 7, ground := Go.Ground.textOnly Go.Departure.mapOpAssignEntry }], guard := none }) rfl (fun K hK => ?_) AllReadyH.nil)
    focus
      rw [if_pos (by rfl)]
      refine oper_look_mg (Operand.tmp 15) (Operand.tmp 18) rfl mb rfl (pk cu (-1)) rfl _ hlk ?_
      refine hK.out _ _ (by exact hHeld) (fun hHeld => ?_)
      clear hK K
      try simp only [Act.put, List.setIfInBounds_toArray, List.set_cons_zero, List.set_cons_succ]
      refine wpAnyH_take (i := 7) (oi := { dst := some 22, op := Go.Op.binOp Go.BinOp.add 3 (Go.Operand.tmp 19) (Go.Operand.tmp 21) 3, type := 3, pos := "l05_journal.go:107", after := #[{ on := 4, ground := Go.Ground.data }, { on := 6, ground := Go.Ground.data }], guard := none }) (v := ?_) rfl (by kernel_rfl) (by kernel_rfl) (by kernel_rfl) (fun _ _ _ h => h) (Or.inl ⟨by rfl, ?_⟩) (by assumption) ?_
      rotate_left
      · (intro w hSw; (try dsimp only at hSw); go_simp <;> try with_reducible rfl)
      try simp only [Act.put, List.setIfInBounds_toArray, List.set_cons_zero, List.set_cons_succ]
      refine wpAnyH_ready (rs := [8]) (by kernel_rfl) (by simp) ?_
      refine AllReadyH.cons (o := { dst := some 23, op := Go.Op.mapEntry 190 (Go.Operand.tmp 15) (Go.Operand.tmp 18), type := 0, pos := "l05_journal.go:107", after := #[{ on := 0, ground := Go.Ground.data }, { on := 3, ground := Go.Ground.data }, { on := 0, ground := Go.Ground.phase }, { on := 1, ground := Go.Ground.phase }, { on := 2, ground := Go.Ground.phase }, { on := 3, ground := Go.Ground.phase }, { on := 4, ground := Go.Ground.textOnly Go.Departure.mapOpAssignEntry }, { on := 5, ground := Go.Ground.phase }, { on := 6, ground := Go.Ground.phase }, { on := 7, ground := Go.Ground.textOnly Go.Departure.mapOpAssignEntry }], guard := none }) rfl (fun K hK => ?_) AllReadyH.nil
      rw [if_pos (by rfl)]
      refine oper_entry_mg (Operand.tmp 15) (Operand.tmp 18) rfl mb rfl (pk cu (-1)) rfl _ _ hent ?_
      refine hK.out _ _ (by exact hS1) (fun hHeld => ?_)
      clear hK K
      try simp only [Act.put, List.setIfInBounds_toArray, List.set_cons_zero, List.set_cons_succ]
      refine wpAnyH_take (i := 9) (oi := { dst := some 24, op := Go.Op.extract (Go.Operand.tmp 23) 1, type := 3, pos := "l05_journal.go:107", after := #[{ on := 8, ground := Go.Ground.data }], guard := none }) (v := ?_) rfl (by kernel_rfl) (by kernel_rfl) (by kernel_rfl) (fun _ _ _ h => h) (Or.inl ⟨by rfl, ?_⟩) (by assumption) ?_
      rotate_left
      · (intro w hSw; (try dsimp only at hSw); go_simp <;> try with_reducible rfl)
      try simp only [Act.put, List.setIfInBounds_toArray, List.set_cons_zero, List.set_cons_succ]
      refine wpAnyH_ready (rs := [10]) (by kernel_rfl) (by simp) ?_
      refine AllReadyH.cons (o := { dst := none, op := Go.Op.entryStore 190 (Go.Operand.tmp 15) (Go.Operand.tmp 24) (Go.Operand.tmp 22), type := 0, pos := "l05_journal.go:107", after := #[{ on := 0, ground := Go.Ground.data }, { on := 9, ground := Go.Ground.data }, { on := 7, ground := Go.Ground.data }, { on := 8, ground := Go.Ground.chain }, { on := 0, ground := Go.Ground.phase }, { on := 1, ground := Go.Ground.phase }, { on := 2, ground := Go.Ground.phase }, { on := 3, ground := Go.Ground.phase }, { on := 4, ground := Go.Ground.phase }, { on := 5, ground := Go.Ground.phase }, { on := 6, ground := Go.Ground.phase }, { on := 7, ground := Go.Ground.phase }, { on := 8, ground := Go.Ground.phase }, { on := 9, ground := Go.Ground.phase }], guard := none }) rfl (fun K hK => ?_) AllReadyH.nil
      rw [if_pos (by rfl)]
      refine oper_store_mg (Operand.tmp 15) (Operand.tmp 24) (Operand.tmp 22) rfl mb rfl _ rfl _ rfl _ hsto ?_
      refine hK.out _ _ (by exact hS2) (fun hHeld => ?_)
      clear hK K
      try simp only [Act.put, List.setIfInBounds_toArray, List.set_cons_zero, List.set_cons_succ]
      refine wpAnyH_done (by kernel_rfl) ?_ _
      refine NoPanic.normal ?_
      skip
    rotate_left
    focus
      rw [if_pos (by rfl)]
      refine oper_entry_mg (Operand.tmp 15) (Operand.tmp 18) rfl mb rfl (pk cu (-1)) rfl _ _ hent ?_
      refine hK.out _ _ (by exact hS1) (fun hHeld => ?_)
      clear hK K
      try simp only [Act.put, List.setIfInBounds_toArray, List.set_cons_zero, List.set_cons_succ]
      refine wpAnyH_take (i := 9) (oi := { dst := some 24, op := Go.Op.extract (Go.Operand.tmp 23) 1, type := 3, pos := "l05_journal.go:107", after := #[{ on := 8, ground := Go.Ground.data }], guard := none }) (v := ?_) rfl (by kernel_rfl) (by kernel_rfl) (by kernel_rfl) (fun _ _ _ h => h) (Or.inl ⟨by rfl, ?_⟩) (by assumption) ?_
      rotate_left
      · (intro w hSw; (try dsimp only at hSw); go_simp <;> try with_reducible rfl)
      try simp only [Act.put, List.setIfInBounds_toArray, List.set_cons_zero, List.set_cons_succ]
      refine wpAnyH_ready (rs := [4]) (by kernel_rfl) (by simp) ?_
      refine AllReadyH.cons (o := { dst := some 19, op := Go.Op.lookup 190 (Go.Operand.tmp 15) (Go.Operand.tmp 18) false, type := 3, pos := "l05_journal.go:107", after := #[{ on := 0, ground := Go.Ground.data }, { on := 3, ground := Go.Ground.data }], guard := none }) rfl (fun K hK => ?_) AllReadyH.nil
      rw [if_pos (by rfl)]
      refine oper_look_mg (Operand.tmp 15) (Operand.tmp 18) rfl mb rfl (pk cu (-1)) rfl _ hlk1 ?_
      refine hK.out _ _ (by exact hS1) (fun hHeld => ?_)
      clear hK K
      try simp only [Act.put, List.setIfInBounds_toArray, List.set_cons_zero, List.set_cons_succ]
      refine wpAnyH_take (i := 7) (oi := { dst := some 22, op := Go.Op.binOp Go.BinOp.add 3 (Go.Operand.tmp 19) (Go.Operand.tmp 21) 3, type := 3, pos := "l05_journal.go:107", after := #[{ on := 4, ground := Go.Ground.data }, { on := 6, ground := Go.Ground.data }], guard := none }) (v := ?_) rfl (by kernel_rfl) (by kernel_rfl) (by kernel_rfl) (fun _ _ _ h => h) (Or.inl ⟨by rfl, ?_⟩) (by assumption) ?_
      rotate_left
      · (intro w hSw; (try dsimp only at hSw); go_simp <;> try with_reducible rfl)
      try simp only [Act.put, List.setIfInBounds_toArray, List.set_cons_zero, List.set_cons_succ]
      refine wpAnyH_ready (rs := [10]) (by kernel_rfl) (by simp) ?_
      refine AllReadyH.cons (o := { dst := none, op := Go.Op.entryStore 190 (Go.Operand.tmp 15) (Go.Operand.tmp 24) (Go.Operand.tmp 22), type := 0, pos := "l05_journal.go:107", after := #[{ on := 0, ground := Go.Ground.data }, { on := 9, ground := Go.Ground.data }, { on := 7, ground := Go.Ground.data }, { on := 8, ground := Go.Ground.chain }, { on := 0, ground := Go.Ground.phase }, { on := 1, ground := Go.Ground.phase }, { on := 2, ground := Go.Ground.phase }, { on := 3, ground := Go.Ground.phase }, { on := 4, ground := Go.Ground.phase }, { on := 5, ground := Go.Ground.phase }, { on := 6, ground := Go.Ground.phase }, { on := 7, ground := Go.Ground.phase }, { on := 8, ground := Go.Ground.phase }, { on := 9, ground := Go.Ground.phase }], guard := none }) rfl (fun K hK => ?_) AllReadyH.nil
      rw [if_pos (by rfl)]
      refine oper_store_mg (Operand.tmp 15) (Operand.tmp 24) (Operand.tmp 22) rfl mb rfl _ rfl _ rfl _ hsto ?_
      refine hK.out _ _ (by exact hS2) (fun hHeld => ?_)
      clear hK K
      try simp only [Act.put, List.setIfInBounds_toArray, List.set_cons_zero, List.set_cons_succ]
      refine wpAnyH_done (by kernel_rfl) ?_ _
      refine NoPanic.normal ?_
      skip
    all_goals
      go_wp2
      refine wp_region_noPanic ?_
      refine wp_region_held_drew (S := fun w' => w'.cell? ⟨lb, 1, none⟩ = some (.int .i64 dm) ∧ w'.cell? ⟨lb, 4, none⟩ = some (.int .i64 ba)) (by kernel_rfl) ?_ (fun hHeld => ?_)
      · exact ⟨c2, c5⟩
      refine wpAnyH_take (i := 0) (oi := { dst := some 25, op := Go.Op.move (Go.Operand.tmp 3), type := 190, pos := "l05_journal.go:108", after := #[], guard := none }) (v := ?_) rfl (by kernel_rfl) (by kernel_rfl) (by kernel_rfl) (fun _ _ _ h => h) (Or.inl ⟨by rfl, ?_⟩) (by assumption) ?_
      rotate_left
      · (intro w hSw; (try dsimp only at hSw); go_simp <;> try with_reducible rfl)
      try simp only [Act.put, List.setIfInBounds_toArray, List.set_cons_zero, List.set_cons_succ]
      refine wpAnyH_take (i := 1) (oi := { dst := some 26, op := Go.Op.fieldAddr 78 (Go.Operand.tmp 5) 1, type := 0, pos := "l05_journal.go:108", after := #[], guard := none }) (v := ?_) rfl (by kernel_rfl) (by kernel_rfl) (by kernel_rfl) (fun _ _ _ h => h) (Or.inl ⟨by rfl, ?_⟩) (by assumption) ?_
      rotate_left
      · (intro w hSw; (try dsimp only at hSw); go_simp <;> try with_reducible rfl)
      try simp only [Act.put, List.setIfInBounds_toArray, List.set_cons_zero, List.set_cons_succ]
      refine wpAnyH_take (i := 2) (oi := { dst := some 27, op := Go.Op.load 3 (Go.Operand.tmp 26), type := 3, pos := "l05_journal.go:108", after := #[{ on := 1, ground := Go.Ground.data }], guard := none }) (v := ?_) rfl (by kernel_rfl) (by kernel_rfl) (by kernel_rfl) (fun _ _ _ h => h) (Or.inl ⟨by rfl, ?_⟩) (by assumption) ?_
      rotate_left
      · (intro w hSw; (try dsimp only at hSw); go_simp <;> try with_reducible rfl)
      try simp only [Act.put, List.setIfInBounds_toArray, List.set_cons_zero, List.set_cons_succ]
      refine wpAnyH_take (i := 3) (oi := { dst := some 28, op := Go.Op.build 191 #[(0, Go.Operand.const (Go.Value.int Go.IntKind.i64 (-1))), (1, Go.Operand.tmp 27)], type := 191, pos := "l05_journal.go:108", after := #[{ on := 2, ground := Go.Ground.data }], guard := none }) (v := ?_) rfl (by kernel_rfl) (by kernel_rfl) (by kernel_rfl) (fun _ _ _ h => h) (Or.inl ⟨by rfl, ?_⟩) (by assumption) ?_
      rotate_left
      · (intro w hSw; (try dsimp only at hSw); go_simp <;> try with_reducible rfl)
      try simp only [Act.put, List.setIfInBounds_toArray, List.set_cons_zero, List.set_cons_succ]
      refine wpAnyH_take (i := 5) (oi := { dst := some 30, op := Go.Op.fieldAddr 78 (Go.Operand.tmp 5) 4, type := 0, pos := "l05_journal.go:108", after := #[], guard := none }) (v := ?_) rfl (by kernel_rfl) (by kernel_rfl) (by kernel_rfl) (fun _ _ _ h => h) (Or.inl ⟨by rfl, ?_⟩) (by assumption) ?_
      rotate_left
      · (intro w hSw; (try dsimp only at hSw); go_simp <;> try with_reducible rfl)
      try simp only [Act.put, List.setIfInBounds_toArray, List.set_cons_zero, List.set_cons_succ]
      refine wpAnyH_take (i := 6) (oi := { dst := some 31, op := Go.Op.load 3 (Go.Operand.tmp 30), type := 3, pos := "l05_journal.go:108", after := #[{ on := 5, ground := Go.Ground.data }], guard := none }) (v := ?_) rfl (by kernel_rfl) (by kernel_rfl) (by kernel_rfl) (fun _ _ _ h => h) (Or.inl ⟨by rfl, ?_⟩) (by assumption) ?_
      rotate_left
      · (intro w hSw; (try dsimp only at hSw); go_simp <;> try with_reducible rfl)
      try simp only [Act.put, List.setIfInBounds_toArray, List.set_cons_zero, List.set_cons_succ]
      refine wpAnyH_ready (rs := [4, 8]) (by kernel_rfl) (by simp) ?_
      refine AllReadyH.cons (o := { dst := some 29, op := Go.Op.lookup 190 (Go.Operand.tmp 25) (Go.Operand.tmp 28) false, type := 3, pos := "l05_journal.go:108", after := #[{ on := 0, ground := Go.Ground.data }, { on := 3, ground := Go.Ground.data }], guard := none }) rfl (fun K hK => ?_) (AllReadyH.cons (o := { dst := some 33, op := Go.Op.mapEntry 190 (Go.Operand.tmp 25) (Go.Operand.tmp 28), type := 0, pos := "l05_journal.go:108", after := #[{ on := 0, ground := Go.Ground.data }, { on := 3, ground := Go.Ground.data }, { on := 0, ground := Go.Ground.phase }, { on := 1, ground := Go.Ground.phase }, { on := 2, ground := Go.Ground.phase }, { on := 3, ground := Go.Ground.phase }, { on := 4, ground := Go.Ground.textOnly Go.Departure.mapOpAssignEntry }, { on := 5, ground := Go.Ground.phase }, { on := 6, ground := Go.Ground.phase }, { on := 7, ground := Go.Ground.textOnly Go.Departure.mapOpAssignEntry }], guard := none }) rfl (fun K hK => ?_) AllReadyH.nil)
      focus
        rw [if_pos (by rfl)]
        refine oper_look_mg (Operand.tmp 25) (Operand.tmp 28) rfl mb rfl (pk (-1) dm) rfl _ hlk' ?_
        refine hK.out _ _ (by exact hHeld) (fun hHeld => ?_)
        clear hK K
        try simp only [Act.put, List.setIfInBounds_toArray, List.set_cons_zero, List.set_cons_succ]
        refine wpAnyH_take (i := 7) (oi := { dst := some 32, op := Go.Op.binOp Go.BinOp.add 3 (Go.Operand.tmp 29) (Go.Operand.tmp 31) 3, type := 3, pos := "l05_journal.go:108", after := #[{ on := 4, ground := Go.Ground.data }, { on := 6, ground := Go.Ground.data }], guard := none }) (v := ?_) rfl (by kernel_rfl) (by kernel_rfl) (by kernel_rfl) (fun _ _ _ h => h) (Or.inl ⟨by rfl, ?_⟩) (by assumption) ?_
        rotate_left
        · (intro w hSw; (try dsimp only at hSw); go_simp <;> try with_reducible rfl)
        try simp only [Act.put, List.setIfInBounds_toArray, List.set_cons_zero, List.set_cons_succ]
        refine wpAnyH_ready (rs := [8]) (by kernel_rfl) (by simp) ?_
        refine AllReadyH.cons (o := { dst := some 33, op := Go.Op.mapEntry 190 (Go.Operand.tmp 25) (Go.Operand.tmp 28), type := 0, pos := "l05_journal.go:108", after := #[{ on := 0, ground := Go.Ground.data }, { on := 3, ground := Go.Ground.data }, { on := 0, ground := Go.Ground.phase }, { on := 1, ground := Go.Ground.phase }, { on := 2, ground := Go.Ground.phase }, { on := 3, ground := Go.Ground.phase }, { on := 4, ground := Go.Ground.textOnly Go.Departure.mapOpAssignEntry }, { on := 5, ground := Go.Ground.phase }, { on := 6, ground := Go.Ground.phase }, { on := 7, ground := Go.Ground.textOnly Go.Departure.mapOpAssignEntry }], guard := none }) rfl (fun K hK => ?_) AllReadyH.nil
        rw [if_pos (by rfl)]
        refine oper_entry_mg (Operand.tmp 25) (Operand.tmp 28) rfl mb rfl (pk (-1) dm) rfl _ _ hent' ?_
        refine hK.out _ _ (by exact hT1) (fun hHeld => ?_)
        clear hK K
        try simp only [Act.put, List.setIfInBounds_toArray, List.set_cons_zero, List.set_cons_succ]
        refine wpAnyH_take (i := 9) (oi := { dst := some 34, op := Go.Op.extract (Go.Operand.tmp 33) 1, type := 3, pos := "l05_journal.go:108", after := #[{ on := 8, ground := Go.Ground.data }], guard := none }) (v := ?_) rfl (by kernel_rfl) (by kernel_rfl) (by kernel_rfl) (fun _ _ _ h => h) (Or.inl ⟨by rfl, ?_⟩) (by assumption) ?_
        rotate_left
        · (intro w hSw; (try dsimp only at hSw); go_simp <;> try with_reducible rfl)
        try simp only [Act.put, List.setIfInBounds_toArray, List.set_cons_zero, List.set_cons_succ]
        refine wpAnyH_ready (rs := [10]) (by kernel_rfl) (by simp) ?_
        refine AllReadyH.cons (o := { dst := none, op := Go.Op.entryStore 190 (Go.Operand.tmp 25) (Go.Operand.tmp 34) (Go.Operand.tmp 32), type := 0, pos := "l05_journal.go:108", after := #[{ on := 0, ground := Go.Ground.data }, { on := 9, ground := Go.Ground.data }, { on := 7, ground := Go.Ground.data }, { on := 8, ground := Go.Ground.chain }, { on := 0, ground := Go.Ground.phase }, { on := 1, ground := Go.Ground.phase }, { on := 2, ground := Go.Ground.phase }, { on := 3, ground := Go.Ground.phase }, { on := 4, ground := Go.Ground.phase }, { on := 5, ground := Go.Ground.phase }, { on := 6, ground := Go.Ground.phase }, { on := 7, ground := Go.Ground.phase }, { on := 8, ground := Go.Ground.phase }, { on := 9, ground := Go.Ground.phase }], guard := none }) rfl (fun K hK => ?_) AllReadyH.nil
        rw [if_pos (by rfl)]
        refine oper_store_mg (Operand.tmp 25) (Operand.tmp 34) (Operand.tmp 32) rfl mb rfl _ rfl _ rfl _ hsto' ?_
        refine hK.out _ _ (by exact hT2) (fun hHeld => ?_)
        clear hK K
        try simp only [Act.put, List.setIfInBounds_toArray, List.set_cons_zero, List.set_cons_succ]
        refine wpAnyH_done (by kernel_rfl) ?_ _
        refine NoPanic.normal ?_
        skip
      rotate_left
      focus
        rw [if_pos (by rfl)]
        refine oper_entry_mg (Operand.tmp 25) (Operand.tmp 28) rfl mb rfl (pk (-1) dm) rfl _ _ hent' ?_
        refine hK.out _ _ (by exact hT1) (fun hHeld => ?_)
        clear hK K
        try simp only [Act.put, List.setIfInBounds_toArray, List.set_cons_zero, List.set_cons_succ]
        refine wpAnyH_take (i := 9) (oi := { dst := some 34, op := Go.Op.extract (Go.Operand.tmp 33) 1, type := 3, pos := "l05_journal.go:108", after := #[{ on := 8, ground := Go.Ground.data }], guard := none }) (v := ?_) rfl (by kernel_rfl) (by kernel_rfl) (by kernel_rfl) (fun _ _ _ h => h) (Or.inl ⟨by rfl, ?_⟩) (by assumption) ?_
        rotate_left
        · (intro w hSw; (try dsimp only at hSw); go_simp <;> try with_reducible rfl)
        try simp only [Act.put, List.setIfInBounds_toArray, List.set_cons_zero, List.set_cons_succ]
        refine wpAnyH_ready (rs := [4]) (by kernel_rfl) (by simp) ?_
        refine AllReadyH.cons (o := { dst := some 29, op := Go.Op.lookup 190 (Go.Operand.tmp 25) (Go.Operand.tmp 28) false, type := 3, pos := "l05_journal.go:108", after := #[{ on := 0, ground := Go.Ground.data }, { on := 3, ground := Go.Ground.data }], guard := none }) rfl (fun K hK => ?_) AllReadyH.nil
        rw [if_pos (by rfl)]
        refine oper_look_mg (Operand.tmp 25) (Operand.tmp 28) rfl mb rfl (pk (-1) dm) rfl _ hlk1' ?_
        refine hK.out _ _ (by exact hT1) (fun hHeld => ?_)
        clear hK K
        try simp only [Act.put, List.setIfInBounds_toArray, List.set_cons_zero, List.set_cons_succ]
        refine wpAnyH_take (i := 7) (oi := { dst := some 32, op := Go.Op.binOp Go.BinOp.add 3 (Go.Operand.tmp 29) (Go.Operand.tmp 31) 3, type := 3, pos := "l05_journal.go:108", after := #[{ on := 4, ground := Go.Ground.data }, { on := 6, ground := Go.Ground.data }], guard := none }) (v := ?_) rfl (by kernel_rfl) (by kernel_rfl) (by kernel_rfl) (fun _ _ _ h => h) (Or.inl ⟨by rfl, ?_⟩) (by assumption) ?_
        rotate_left
        · (intro w hSw; (try dsimp only at hSw); go_simp <;> try with_reducible rfl)
        try simp only [Act.put, List.setIfInBounds_toArray, List.set_cons_zero, List.set_cons_succ]
        refine wpAnyH_ready (rs := [10]) (by kernel_rfl) (by simp) ?_
        refine AllReadyH.cons (o := { dst := none, op := Go.Op.entryStore 190 (Go.Operand.tmp 25) (Go.Operand.tmp 34) (Go.Operand.tmp 32), type := 0, pos := "l05_journal.go:108", after := #[{ on := 0, ground := Go.Ground.data }, { on := 9, ground := Go.Ground.data }, { on := 7, ground := Go.Ground.data }, { on := 8, ground := Go.Ground.chain }, { on := 0, ground := Go.Ground.phase }, { on := 1, ground := Go.Ground.phase }, { on := 2, ground := Go.Ground.phase }, { on := 3, ground := Go.Ground.phase }, { on := 4, ground := Go.Ground.phase }, { on := 5, ground := Go.Ground.phase }, { on := 6, ground := Go.Ground.phase }, { on := 7, ground := Go.Ground.phase }, { on := 8, ground := Go.Ground.phase }, { on := 9, ground := Go.Ground.phase }], guard := none }) rfl (fun K hK => ?_) AllReadyH.nil
        rw [if_pos (by rfl)]
        refine oper_store_mg (Operand.tmp 25) (Operand.tmp 34) (Operand.tmp 32) rfl mb rfl _ rfl _ rfl _ hsto' ?_
        refine hK.out _ _ (by exact hT2) (fun hHeld => ?_)
        clear hK K
        try simp only [Act.put, List.setIfInBounds_toArray, List.set_cons_zero, List.set_cons_succ]
        refine wpAnyH_done (by kernel_rfl) ?_ _
        refine NoPanic.normal ?_
        skip
    all_goals
      go_wp2
      go_roundw
      case rel => exact ⟨k + 1, by omega, by go_num, HM4.out, HB4.out⟩
      case measure => simp [intOf]; omega
  · obtain rfl : k = n := by omega
    obtain ⟨D, hown, hat0, hkeys⟩ := hM
    have HAT : Hid (∀ x y, i64ok x → i64ok y → D.atKey (pl x y) (.lit (.int .i64 0)) = .lit (.int .i64 (GS ls k x y))) := hat0
    have HKE : Hid (∀ kl, Go.Maps.has D kl = true → ∃ x y, i64ok x ∧ i64ok y ∧ kl = pl x y) := hkeys
    have HOW : Hid (wr.ownsMap Tryd.prog 191 (plainElem Tryd.prog 3) mb (2 * k) D) := hown
    clear hat0 hkeys hown hB HM hmk
    go_wp2_with (first
      | (at_range; refine wpList_range_own _ rfl _ 190 rfl 191 3 key2 Tryd.underlying190 _ mb (2 * k) D rfl HOW.out ?_; intro w0 hrg0 hg0 hs0; have HRG : Hid (w0.ranges Tryd.prog 191 (plainElem Tryd.prog 3) mb wr.heap.size (2 * k) D (Go.Maps.has D) (Go.Maps.size D)) := hrg0; have HB0 : Hid (Below mb w w0) := HB.out.grown hg0 (by have := HOW.out.lt; omega) (fun g hg => by cases hg); clear hrg0 hg0 hs0)
      | go_in)
    have hmr : mb ≤ wr.heap.size := Nat.le_of_lt HOW.out.lt
    clear HOW
    generalize hrbx : wr.heap.size = rb at HRG hmr ⊢
    clear hrbx
    go_frame
    go_loopw [7] (fun _ wq => ∃ (left : Lit → Bool) (cnt : Nat), wq.ranges Tryd.prog 191 (plainElem Tryd.prog 3) mb rb (2 * k) D left cnt ∧ Hid (∀ kl, left kl = true → Go.Maps.has D kl = true) ∧ Hid (∀ kl, Go.Maps.has D kl = true → left kl = true ∨ D.atKey kl (.lit (.int .i64 0)) = .lit (.int .i64 0)) ∧ Below mb w wq) (fun _ wq => wq.rangeLeft mb rb)
    case atStart => exact ⟨_, _, HRG.out, fun kl h => h, fun kl h => .inl h, HB0.out⟩
    case round =>
      obtain ⟨left, cnt, hrg, hl1, hl2, hB1⟩ := hrel
      have HB1 : Hid (Below mb w wr) := hB1
      have HRG1 : Hid (wr.ranges Tryd.prog 191 (plainElem Tryd.prog 3) mb rb (2 * k) D left cnt) := hrg
      clear hB1 hrg
      go_wp2_with (first
        | (at_next; refine wpList_next_ranges _ rfl _ rfl 191 key2 (plainElem Tryd.prog 3) (fun x : Value => x) (fun c : Int => .int .i64 c) (fun key kl _ => ⟨key, rfl⟩) (fun v y hv => by obtain ⟨c, rfl, _⟩ := plainElem_int_inv Tryd.underlying3 hv; exact ⟨c, rfl⟩) mb rb (2 * k) D left cnt rfl HRG1.out ?_ ?_)
        | go_in)
      · intro _ hl0
        have HEV : Hid (evB k ls = true) := by
          refine @decide_eq_true _ (Classical.propDecidable _) (fun x y hx hy => ?_)
          have h := HAT.out x y hx hy
          cases hh : Go.Maps.has D (pl x y) with
          | false => rw [Go.Maps.atKey_of_not_has hh] at h; simp only [DataW.lit.injEq, Lit.int.injEq, true_and] at h; exact h.symm
          | true =>
            rcases hl2.out _ hh with q | q
            · rw [hl0] at q; cases q
            · rw [q] at h; simp only [DataW.lit.injEq, Lit.int.injEq, true_and] at h; exact h.symm
        clear hl0
        go_wp2
        go_returns
        exact ⟨ret_bool' HEV.out, by rw [← HMB.out]; exact HB1.out⟩
      · intro x c kl y ps w1 cnt1 hkl hlk hRv hat hrg1 hcl hg1 hs1 hen
        obtain ⟨c', ec, ey, hwc⟩ := plainElem_int_inv Tryd.underlying3 hRv
        obtain rfl : c = c' := by simpa using ec
        obtain ⟨rfl, rfl⟩ : y = .lit (.int .i64 c) ∧ ps = [] := by simpa using ey
        have HR1 : Hid (w1.ranges Tryd.prog 191 (plainElem Tryd.prog 3) mb rb (2 * k) D (fun z => left z && !z.sameKey kl) cnt1) := hrg1
        have HG1 : Hid (Below mb w w1) := HB1.out.grown hg1 (by have := HRG1.out.owns.lt; omega) (fun g hg => by cases hg; exact hmr)
        have HC1 : Hid (cnt1 < cnt) := hcl
        have HAT1 : Hid (∀ zd, D.atKey kl zd = .lit (.int .i64 c)) := hat
        have HLK : Hid (left kl = true) := hlk
        have HKL : Hid (WideAt.IsKeyLit kl) := key2.key hkl
        clear hrg1 hg1 hcl hat hlk hkl hRv ec ey hwc
        by_cases hc : c = 0
        · subst hc
          have e0 : ((0 : Int) == 0) = true := rfl
          go_wp2
          go_roundw
          case rel =>
            refine ⟨_, cnt1, HR1.out, fun z hz => hl1.out z (by simp at hz; exact hz.1), fun z hz => ?_, HG1.out⟩
            rcases hl2.out z hz with q | q
            · cases hs : z.sameKey kl with
              | false => left; simp [q, hs]
              | true => right; rw [WideAt.sameKey_eq hs]; exact HAT1.out _
            · exact .inr q
          case measure => rw [HR1.out.left_eq, HRG1.out.left_eq]; exact HC1.out
        · have e0 : (c == 0) = false := by simpa using hc
          have HEV : Hid (evB k ls = false) := by
            refine @decide_eq_false _ (Classical.propDecidable _) (fun q => hc ?_)
            obtain ⟨x', y', hx, hy, rfl⟩ := HKE.out kl (hl1.out kl HLK.out)
            have h := HAT.out x' y' hx hy
            rw [HAT1.out, q x' y' hx hy] at h
            simp only [DataW.lit.injEq, Lit.int.injEq, true_and] at h
            exact h
          go_wp2
          go_returns
          exact ⟨ret_bool' HEV.out, by rw [← HMB.out]; exact HG1.out⟩

end Go.Proofs.YtapailihjlfkgaaDoor
