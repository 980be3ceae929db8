/- Count of both sides. -/
import Derived.Test.YtpmnnfjabppahaaCr
import Derived.Test.YtpmnnfjabppahaaIn
import Derived.Maps.AppendAt
namespace Go.Proofs.Ytpmnnfjabppahaa
open Go Go.ChangeShapes Go.WideShapes Go.ChangeAt Go.RowKit
set_option linter.unusedVariables false
set_option linter.unusedSimpArgs false

theorem oper_append {P : Program} {w : World} {o : Oper} {a : Act} {K : Act → World → Prop} {Q : Exit → Act → World → Prop} (s x : Operand) (t : TypeId)
    (ho : o.op = .call { callee := .builtin .append, args := #[s, x], argTypes := #[t, t] })
    (base : Nat) (e : TypeId) (i : TypeInfo) (z : Value) (size bytes : Nat) (ht : P.underlying t = some (.slice e)) (hi : P.info? e = some i) (hz : i.zero = some z)
    (hsize : i.size = size) (hby : i.bytes = bytes) (hzs : z.cells.size = size) (hsz : 0 < size)
    (v : Value) (n : Nat) (xs : List Value) (hs : a.eval s = v) (hown : w.ownsRow base e size v n xs)
    (ad : Addr) (m c : Nat) (news : List Value) (hx : a.eval x = .slice (some ad) m c) (hl : news.length = m * size) (hnews : ∀ j u, news[j]? = some u → w.cell? (ad.add j) = some u) (h1 : ∀ u ∈ news, u.oneCell' = true)
    (h63 : n + m ≤ maxLen) (hbytes : (n + m) * bytes ≤ 140737488355328) (hbase : base ≤ w.heap.size)
    (h : ∀ v' w', w'.ownsRow base e size v' (n + m) (xs ++ news) → w.grownBy w' v.ownBlock → (v'.ownBlock = v.ownBlock ∨ v'.ownBlock = some w.heap.size) → K (a.put o.dst v') w') :
    Oper.wp P o a w K Q := by
  obtain ⟨v', w', hr, h2, h3, h4, h5⟩ := run_append_own_at (P := P) w base t o.type e i z size bytes ht hi hz hsize hby hzs hsz v n xs hown ad m c news hl hnews h1 h63 hbytes hbase
  unfold Oper.wp execOp
  simp only [ho, resolve, invoke, builtin, Sem.run_bind, Sem.run_pure, Result.andThen_ok, List.map_toArray, List.map_cons, List.map_nil, hs, hx, hr]
  exact h v' w' h2 h3 h5
theorem csrc {w : World} {b : Nat} {l : List Value} {t : TypeId} (h : CB w b l.toArray t) : ∀ j u, l[j]? = some u → w.cell? ((⟨b, 0, none⟩ : Addr).add j) = some u := by
  intro j u hj
  have e : (⟨b, 0, none⟩ : Addr).add j = ⟨b, j, none⟩ := by simp only [Addr.add]; by_cases q : j = 0 <;> simp [q]
  rw [e, h.cell]; simpa using hj
theorem egrown {B : Nat} {A w w' : World} {row : Option Nat} (h : Below B A w) (hA : B ≤ A.heap.size) (g : w.grownBy w' row) (hr : ∀ r, row = some r → B ≤ r) : Below B A w' :=
  ⟨g.os.trans h.os, g.tape.trans h.tape, g.output.trans h.output, Nat.le_trans h.size g.size, fun k hk => (g.block k (by have := h.size; omega) (fun e => by have := hr k e.symm; omega)).trans (h.block k hk)⟩
def CtP (n : Nat) (c : Nat → CE6) (m : Nat) (z : Nat → Int) : Prop := StP n c ∧ m = n ∧ ∀ j, j < n → inB (z j) 0 1000000 = true ∧ (c j).hld ≤ z j
open Classical in
noncomputable def ctM (n : Nat) (c : Nat → CE6) (m : Nat) (z : Nat → Int) : Nat := if CtP n c m z then n else 0
def ctF (c : Nat → CE6) (z : Nat → Int) (j : Nat) : Int := z j - (c j).qty
theorem ctM_ok {n m : Nat} {c : Nat → CE6} {z : Nat → Int} (h : CtP n c m z) : ctM n c m z = n := if_pos h
theorem ctM_no {n m : Nat} {c : Nat → CE6} {z : Nat → Int} (h : ¬ CtP n c m z) : ctM n c m z = 0 := if_neg h
theorem ownI_none (w : World) (lo : Nat) (ad : Option Addr) (c : Nat → Int) : OwnI w lo ad 0 c := .inl rfl

set_option maxRecDepth 20000 in
set_option maxHeartbeats 8000000 in
theorem implCount_any (ad : Option Addr) (len cap : Nat) (c : Nat → CE6) (ai : Option Addr) (leni capi : Nat) (z : Nat → Int) (w : World) (h : (len : Int) ≤ 1048576) (hi : (leni : Int) ≤ 1048576) (hr : CEr w ad len c) (hz : CZ c) (hri : IR w ai leni z) :
    Calls Try.prog 25 #[.slice ad len cap, .slice ai leni capi] w fun e w' => ∃ ado co, e = .returned (.slice ado (ctM len c leni z) co) ∧ OwnI w' w.heap.size ado (ctM len c leni z) (ctF c z) ∧ Below w.heap.size w w' := by
  have HR := hid hr
  have HZ := hid hz
  have HI := hid hri
  have hmk := mkI len h
  obtain ⟨i0, hi0, hz0, hz1, hz2⟩ := info3
  clear hr hz hri
  cases hs : stB len c
  · have HN : Hid (ctM len c leni z = 0) := hid (ctM_no fun H => by rw [stB_t H.1] at hs; cases hs)
    have HS := hid hs
    clear hs
    go_enter Try.func25, Try.ntmps25
    go_wp2_with (go_at_call 18; refine (implStock_eq _ len cap c _ _ h HR.out HZ.out HS.out).mono ?_; rintro e w1 ⟨rfl, b1⟩; have HB1 : Hid (Below w.heap.size w w1) := hid (b1); clear b1)
    go_returns
    rw [HN.out]
    first | exact ⟨_, _, rfl, .inl rfl, HB1.out.alloc HB1.out.size _⟩ | exact ⟨_, _, rfl, .inl rfl, HB1.out⟩
  have HS := hid hs
  have HSP := hid (stB_p hs)
  clear hs
  by_cases hn : leni = len
  case neg =>
    have HN : Hid (ctM len c leni z = 0) := hid (ctM_no fun H => hn H.2.1)
    have hne : ((leni : Int) != (len : Int)) = true := by simp; omega
    clear hn
    go_enter Try.func25, Try.ntmps25
    go_wp2_with (go_at_call 18; refine (implStock_eq _ len cap c _ _ h HR.out HZ.out HS.out).mono ?_; rintro e w1 ⟨rfl, b1⟩; have HB1 : Hid (Below w.heap.size w w1) := hid (b1); clear b1)
    go_returns
    rw [HN.out]
    first | exact ⟨_, _, rfl, .inl rfl, HB1.out.alloc HB1.out.size _⟩ | exact ⟨_, _, rfl, .inl rfl, HB1.out⟩
  subst hn
  obtain ⟨M, hM⟩ : ∃ M, ctM leni c leni z = M := ⟨_, rfl⟩
  rw [hM]
  have HM := hid hM
  clear hM
  go_enter Try.func25, Try.ntmps25
  go_wp2_with (go_at_call 18; refine (implStock_eq _ leni cap c _ _ h HR.out HZ.out HS.out).mono ?_; rintro e w1 ⟨rfl, b1⟩; have HB1 : Hid (Below w.heap.size w w1) := hid (b1); clear b1)
  go_loopw [24] (fun i wr => ∃ (k : Nat) (cs : Array Value), k ≤ leni ∧ i = .int .i64 (k : Int) ∧ Hid (CB wr w1.heap.size cs 3 ∧ cs.size = leni ∧ (∀ j, j < k → cs[j]? = some (.int .i64 (ctF c z j)))) ∧ Hid (∀ j, j < k → inB (z j) 0 1000000 = true ∧ (c j).hld ≤ z j) ∧ Hid (Below w.heap.size w wr)) (fun i _ => leni - (intOf i).toNat)
  case atStart => exact ⟨0, zeros leni, Nat.zero_le _, rfl, ⟨CB.new _ _, zeros_size _, fun j hj => by omega⟩, fun j hj => by omega, HB1.out.alloc HB1.out.size _⟩
  case round =>
    obtain ⟨k, cs, hk, rfl, HC, HK, HB⟩ := hrel
    have hsz := HB.out.size
    by_cases hlt : k < leni
    · have hlt2 : (k : Int) < (leni : Int) := by omega
      obtain ⟨kb, off, rfl, hkb⟩ := HR.out.addr (by omega)
      have A1 := (HR.out.below HB.out).cell hlt
      obtain ⟨e0, e1, e2, e3, e4, e5⟩ := A1
      obtain ⟨kz, oz, rfl, hkz⟩ := HI.out.addr (by omega)
      have sv := (HI.out.below HB.out).cell hlt
      have hce := ceB_p (HSP.out.1.2 k hlt)
      obtain ⟨_, _, _, _, hq, hd2⟩ := hce
      obtain ⟨y, hy⟩ : ∃ y, z k = y := ⟨_, rfl⟩
      obtain ⟨qt, hqt⟩ : ∃ x, (c k).qty = x := ⟨_, rfl⟩
      obtain ⟨hd, hhd⟩ : ∃ x, (c k).hld = x := ⟨_, rfl⟩
      rw [hy] at sv
      rw [hqt] at e4 hq hd2
      rw [hhd] at e5 hd2
      have HXX : Hid (z k = y ∧ (c k).qty = qt ∧ (c k).hld = hd) := hid ⟨hy, hqt, hhd⟩
      clear hy hqt hhd
      have HCP0 : Hid (CB (wr.alloc (.cells #[.string (c k).item, .string (c k).place, .string (c k).lot, .int .i64 (c k).exp, .int .i64 qt, .int .i64 hd] 28 (0, 0))) wr.heap.size #[.string (c k).item, .string (c k).place, .string (c k).lot, .int .i64 (c k).exp, .int .i64 qt, .int .i64 hd] 28 ∧ CB (wr.alloc (.cells #[.string (c k).item, .string (c k).place, .string (c k).lot, .int .i64 (c k).exp, .int .i64 qt, .int .i64 hd] 28 (0, 0))) w1.heap.size cs 3 ∧ Below w.heap.size w (wr.alloc (.cells #[.string (c k).item, .string (c k).place, .string (c k).lot, .int .i64 (c k).exp, .int .i64 qt, .int .i64 hd] 28 (0, 0))) ∧ IR (wr.alloc (.cells #[.string (c k).item, .string (c k).place, .string (c k).lot, .int .i64 (c k).exp, .int .i64 qt, .int .i64 hd] 28 (0, 0))) (some ⟨kz, oz, none⟩) leni z) := hid ⟨CB.new _ _, HC.out.1.alloc _, HB.out.alloc HB.out.size _, (HI.out.below HB.out).alloc _⟩
      go_wp2
      have HGN : Hid (w.heap.size ≤ w1.heap.size ∧ wr.heap.size ≠ w1.heap.size) := hid ⟨HB1.out.size, by have := HC.out.1.lt; omega⟩
      generalize wr.alloc (.cells #[.string (c k).item, .string (c k).place, .string (c k).lot, .int .i64 (c k).exp, .int .i64 qt, .int .i64 hd] 28 (0, 0)) = WA at HCP0 ⊢
      generalize wr.heap.size = cb at HCP0 HGN ⊢
      clear sv e0 e1 e2 e3 e4 e5
      cases hq1 : inB y 0 1000000
      · have HQ := hid hq1
        have HNO : Hid (¬ CtP leni c leni z) := hid (fun H => by have := (H.2.2 k hlt).1; rw [HXX.out.1, hq1] at this; cases this)
        clear hq1
        refine wp_region_noPanic ?_
        refine wp_region_held_drew (S := fun w' => (w'.cell? ⟨kz, oz + k, none⟩ = some (.int .i64 y)) ∧ (w'.cell? ⟨cb, 5, none⟩ = some (.int .i64 hd))) (by kernel_rfl) (by exact ⟨by have := HCP0.out.2.2.2.cell hlt; rw [HXX.out.1] at this; exact this, HCP0.out.1.cell 5⟩) (fun hHeld => ?_)
        refine wpAnyH_take (i := 0) (oi := { dst := some 29, op := Go.Op.move (Go.Operand.tmp 1), type := 40, pos := "l15_stock.go:310", after := #[], guard := none }) (v := ?_) rfl (by kernel_rfl) (by kernel_rfl) (by kernel_rfl) (fun _ _ _ h => h) (Or.inl ⟨by rfl, ?_⟩) (by assumption) ?_
        rotate_left
        · (intro w hSw; (try dsimp only at hSw); go_simp <;> try with_reducible rfl)
        try simp only [Act.put, List.setIfInBounds_toArray, List.set_cons_zero, List.set_cons_succ]
        refine wpAnyH_take (i := 1) (oi := { dst := some 30, op := Go.Op.move (Go.Operand.tmp 6), type := 3, pos := "l15_stock.go:310", after := #[], guard := none }) (v := ?_) rfl (by kernel_rfl) (by kernel_rfl) (by kernel_rfl) (fun _ _ _ h => h) (Or.inl ⟨by rfl, ?_⟩) (by assumption) ?_
        rotate_left
        · (intro w hSw; (try dsimp only at hSw); go_simp <;> try with_reducible rfl)
        try simp only [Act.put, List.setIfInBounds_toArray, List.set_cons_zero, List.set_cons_succ]
        refine wpAnyH_take (i := 2) (oi := { dst := some 31, op := Go.Op.indexAddr 40 (Go.Operand.tmp 29) (Go.Operand.tmp 30), type := 0, pos := "l15_stock.go:310", after := #[{ on := 0, ground := Go.Ground.data }, { on := 1, ground := Go.Ground.data }], guard := none }) (v := ?_) rfl (by kernel_rfl) (by kernel_rfl) (by kernel_rfl) (fun _ _ _ h => h) (Or.inl ⟨by rfl, ?_⟩) (by assumption) ?_
        rotate_left
        · (intro w hSw; (try dsimp only at hSw); go_simp <;> try with_reducible rfl)
        try simp only [Act.put, List.setIfInBounds_toArray, List.set_cons_zero, List.set_cons_succ]
        refine wpAnyH_take (i := 3) (oi := { dst := some 32, op := Go.Op.load 3 (Go.Operand.tmp 31), type := 3, pos := "l15_stock.go:310", after := #[{ on := 2, ground := Go.Ground.data }], guard := none }) (v := ?_) rfl (by kernel_rfl) (by kernel_rfl) (by kernel_rfl) (fun _ _ _ h => h) (Or.inl ⟨by rfl, ?_⟩) (by assumption) ?_
        rotate_left
        · (intro w hSw; (try dsimp only at hSw); go_simp <;> try with_reducible rfl)
        try simp only [Act.put, List.setIfInBounds_toArray, List.set_cons_zero, List.set_cons_succ]
        refine wpAnyH_ready (rs := [4]) (by kernel_rfl) (by simp) ?_
        refine AllReadyH.cons (o := { dst := some 33, op := Go.Op.call { callee := Go.Callee.value (Go.Operand.func 85), args := #[Go.Operand.tmp 32], argTypes := #[3] }, type := 4, pos := "l15_stock.go:310", after := #[{ on := 3, ground := Go.Ground.data }], guard := none }) rfl (fun K hK => ?_) (AllReadyH.nil)
        go_simp
        refine (isQty_eq _ _ _ HQ.out).mono ?_
        rintro e w9 ⟨rfl, ew⟩
        replace ew := ew.symm
        subst ew
        first | refine hK.out _ _ (by exact ⟨by have := HCP0.out.2.2.2.cell hlt; rw [HXX.out.1] at this; exact this, HCP0.out.1.cell 5⟩) (fun hHeld => ?_) | (go_wp2_with fail; refine hK.out _ _ (by exact ⟨by have := HCP0.out.2.2.2.cell hlt; rw [HXX.out.1] at this; exact this, HCP0.out.1.cell 5⟩) (fun hHeld => ?_))
        clear hK K
        try simp only [Act.put, List.setIfInBounds_toArray, List.set_cons_zero, List.set_cons_succ]
        refine wpAnyH_take (i := 5) (oi := { dst := some 34, op := Go.Op.unOp Go.UnOp.not 4 (Go.Operand.tmp 33), type := 4, pos := "l15_stock.go:310", after := #[{ on := 4, ground := Go.Ground.data }], guard := none }) (v := ?_) rfl (by kernel_rfl) (by kernel_rfl) (by kernel_rfl) (fun _ _ _ h => h) (Or.inl ⟨by rfl, ?_⟩) (by assumption) ?_
        rotate_left
        · (intro w hSw; (try dsimp only at hSw); go_simp <;> try with_reducible rfl)
        try simp only [Act.put, List.setIfInBounds_toArray, List.set_cons_zero, List.set_cons_succ]
        refine wpAnyH_take (i := 6) (oi := { dst := some 35, op := Go.Op.move (Go.Operand.tmp 34), type := 4, pos := "l15_stock.go:310", after := #[{ on := 5, ground := Go.Ground.data }, { on := 4, ground := Go.Ground.chain }], guard := none }) (v := ?_) rfl (by kernel_rfl) (by kernel_rfl) (by kernel_rfl) (fun _ _ _ h => h) (Or.inl ⟨by rfl, ?_⟩) (by assumption) ?_
        rotate_left
        · (intro w hSw; (try dsimp only at hSw); go_simp <;> try with_reducible rfl)
        try simp only [Act.put, List.setIfInBounds_toArray, List.set_cons_zero, List.set_cons_succ]
        refine wpAnyH_take (i := 7) (oi := { dst := some 36, op := Go.Op.move (Go.Operand.tmp 1), type := 40, pos := "l15_stock.go:310", after := #[{ on := 6, ground := Go.Ground.guard }], guard := some (6, false) }) (v := undef) rfl (by kernel_rfl) (by kernel_rfl) (by kernel_rfl) (fun _ _ _ h => h) (Or.inr ⟨by rfl, rfl⟩) (by assumption) ?_
        try simp only [Act.put, List.setIfInBounds_toArray, List.set_cons_zero, List.set_cons_succ]
        refine wpAnyH_take (i := 8) (oi := { dst := some 37, op := Go.Op.move (Go.Operand.tmp 6), type := 3, pos := "l15_stock.go:310", after := #[{ on := 6, ground := Go.Ground.guard }], guard := some (6, false) }) (v := undef) rfl (by kernel_rfl) (by kernel_rfl) (by kernel_rfl) (fun _ _ _ h => h) (Or.inr ⟨by rfl, rfl⟩) (by assumption) ?_
        try simp only [Act.put, List.setIfInBounds_toArray, List.set_cons_zero, List.set_cons_succ]
        refine wpAnyH_take (i := 9) (oi := { dst := some 38, op := Go.Op.indexAddr 40 (Go.Operand.tmp 36) (Go.Operand.tmp 37), type := 0, pos := "l15_stock.go:310", after := #[{ on := 7, ground := Go.Ground.data }, { on := 8, ground := Go.Ground.data }, { on := 6, ground := Go.Ground.guard }], guard := some (6, false) }) (v := undef) rfl (by kernel_rfl) (by kernel_rfl) (by kernel_rfl) (fun _ _ _ h => h) (Or.inr ⟨by rfl, rfl⟩) (by assumption) ?_
        try simp only [Act.put, List.setIfInBounds_toArray, List.set_cons_zero, List.set_cons_succ]
        refine wpAnyH_take (i := 10) (oi := { dst := some 39, op := Go.Op.load 3 (Go.Operand.tmp 38), type := 3, pos := "l15_stock.go:310", after := #[{ on := 9, ground := Go.Ground.data }, { on := 6, ground := Go.Ground.guard }], guard := some (6, false) }) (v := undef) rfl (by kernel_rfl) (by kernel_rfl) (by kernel_rfl) (fun _ _ _ h => h) (Or.inr ⟨by rfl, rfl⟩) (by assumption) ?_
        try simp only [Act.put, List.setIfInBounds_toArray, List.set_cons_zero, List.set_cons_succ]
        refine wpAnyH_take (i := 11) (oi := { dst := some 40, op := Go.Op.fieldAddr 28 (Go.Operand.tmp 7) 5, type := 0, pos := "l15_stock.go:310", after := #[{ on := 6, ground := Go.Ground.guard }], guard := some (6, false) }) (v := undef) rfl (by kernel_rfl) (by kernel_rfl) (by kernel_rfl) (fun _ _ _ h => h) (Or.inr ⟨by rfl, rfl⟩) (by assumption) ?_
        try simp only [Act.put, List.setIfInBounds_toArray, List.set_cons_zero, List.set_cons_succ]
        refine wpAnyH_take (i := 12) (oi := { dst := some 41, op := Go.Op.load 3 (Go.Operand.tmp 40), type := 3, pos := "l15_stock.go:310", after := #[{ on := 11, ground := Go.Ground.data }, { on := 6, ground := Go.Ground.guard }], guard := some (6, false) }) (v := undef) rfl (by kernel_rfl) (by kernel_rfl) (by kernel_rfl) (fun _ _ _ h => h) (Or.inr ⟨by rfl, rfl⟩) (by assumption) ?_
        try simp only [Act.put, List.setIfInBounds_toArray, List.set_cons_zero, List.set_cons_succ]
        refine wpAnyH_take (i := 13) (oi := { dst := some 42, op := Go.Op.binOp Go.BinOp.lss 3 (Go.Operand.tmp 39) (Go.Operand.tmp 41) 3, type := 4, pos := "l15_stock.go:310", after := #[{ on := 10, ground := Go.Ground.data }, { on := 12, ground := Go.Ground.data }, { on := 6, ground := Go.Ground.guard }], guard := some (6, false) }) (v := undef) rfl (by kernel_rfl) (by kernel_rfl) (by kernel_rfl) (fun _ _ _ h => h) (Or.inr ⟨by rfl, rfl⟩) (by assumption) ?_
        try simp only [Act.put, List.setIfInBounds_toArray, List.set_cons_zero, List.set_cons_succ]
        refine wpAnyH_take (i := 14) (oi := { dst := some 43, op := Go.Op.pick (Go.Operand.tmp 35) (Go.Operand.const (Go.Value.bool true)) (Go.Operand.tmp 42), type := 4, pos := "l15_stock.go:310", after := #[{ on := 6, ground := Go.Ground.data }, { on := 13, ground := Go.Ground.data }], guard := none }) (v := ?_) rfl (by kernel_rfl) (by kernel_rfl) (by kernel_rfl) (fun _ _ _ h => h) (Or.inl ⟨by rfl, ?_⟩) (by assumption) ?_
        rotate_left
        · (intro w hSw; (try dsimp only at hSw); go_simp <;> try with_reducible rfl)
        try simp only [Act.put, List.setIfInBounds_toArray, List.set_cons_zero, List.set_cons_succ]
        refine wpAnyH_done (by kernel_rfl) ?_ _
        refine NoPanic.normal ?_
        clear hHeld
        have HV : Hid (M = 0) := hid (by rw [← HM.out]; exact ctM_no HNO.out)
        go_wp2
        go_returns
        rw [HV.out]
        first | exact ⟨_, _, rfl, .inl rfl, (HCP0.out.2.2.1.drew).alloc (HCP0.out.2.2.1.drew).size _⟩ | exact ⟨_, _, rfl, .inl rfl, (HCP0.out.2.2.1.drew)⟩
      have HQ := hid hq1
      have hyb := inB_t hq1
      clear hq1
      by_cases hh : y < hd
      · have HNO : Hid (¬ CtP leni c leni z) := hid (fun H => by have := (H.2.2 k hlt).2; rw [HXX.out.1, HXX.out.2.2] at this; omega)
        refine wp_region_noPanic ?_
        refine wp_region_held_drew (S := fun w' => (w'.cell? ⟨kz, oz + k, none⟩ = some (.int .i64 y)) ∧ (w'.cell? ⟨cb, 5, none⟩ = some (.int .i64 hd))) (by kernel_rfl) (by exact ⟨by have := HCP0.out.2.2.2.cell hlt; rw [HXX.out.1] at this; exact this, HCP0.out.1.cell 5⟩) (fun hHeld => ?_)
        refine wpAnyH_take (i := 0) (oi := { dst := some 29, op := Go.Op.move (Go.Operand.tmp 1), type := 40, pos := "l15_stock.go:310", after := #[], guard := none }) (v := ?_) rfl (by kernel_rfl) (by kernel_rfl) (by kernel_rfl) (fun _ _ _ h => h) (Or.inl ⟨by rfl, ?_⟩) (by assumption) ?_
        rotate_left
        · (intro w hSw; (try dsimp only at hSw); go_simp <;> try with_reducible rfl)
        try simp only [Act.put, List.setIfInBounds_toArray, List.set_cons_zero, List.set_cons_succ]
        refine wpAnyH_take (i := 1) (oi := { dst := some 30, op := Go.Op.move (Go.Operand.tmp 6), type := 3, pos := "l15_stock.go:310", after := #[], guard := none }) (v := ?_) rfl (by kernel_rfl) (by kernel_rfl) (by kernel_rfl) (fun _ _ _ h => h) (Or.inl ⟨by rfl, ?_⟩) (by assumption) ?_
        rotate_left
        · (intro w hSw; (try dsimp only at hSw); go_simp <;> try with_reducible rfl)
        try simp only [Act.put, List.setIfInBounds_toArray, List.set_cons_zero, List.set_cons_succ]
        refine wpAnyH_take (i := 2) (oi := { dst := some 31, op := Go.Op.indexAddr 40 (Go.Operand.tmp 29) (Go.Operand.tmp 30), type := 0, pos := "l15_stock.go:310", after := #[{ on := 0, ground := Go.Ground.data }, { on := 1, ground := Go.Ground.data }], guard := none }) (v := ?_) rfl (by kernel_rfl) (by kernel_rfl) (by kernel_rfl) (fun _ _ _ h => h) (Or.inl ⟨by rfl, ?_⟩) (by assumption) ?_
        rotate_left
        · (intro w hSw; (try dsimp only at hSw); go_simp <;> try with_reducible rfl)
        try simp only [Act.put, List.setIfInBounds_toArray, List.set_cons_zero, List.set_cons_succ]
        refine wpAnyH_take (i := 3) (oi := { dst := some 32, op := Go.Op.load 3 (Go.Operand.tmp 31), type := 3, pos := "l15_stock.go:310", after := #[{ on := 2, ground := Go.Ground.data }], guard := none }) (v := ?_) rfl (by kernel_rfl) (by kernel_rfl) (by kernel_rfl) (fun _ _ _ h => h) (Or.inl ⟨by rfl, ?_⟩) (by assumption) ?_
        rotate_left
        · (intro w hSw; (try dsimp only at hSw); go_simp <;> try with_reducible rfl)
        try simp only [Act.put, List.setIfInBounds_toArray, List.set_cons_zero, List.set_cons_succ]
        refine wpAnyH_ready (rs := [4]) (by kernel_rfl) (by simp) ?_
        refine AllReadyH.cons (o := { dst := some 33, op := Go.Op.call { callee := Go.Callee.value (Go.Operand.func 85), args := #[Go.Operand.tmp 32], argTypes := #[3] }, type := 4, pos := "l15_stock.go:310", after := #[{ on := 3, ground := Go.Ground.data }], guard := none }) rfl (fun K hK => ?_) (AllReadyH.nil)
        go_simp
        refine (isQty_eq _ _ _ HQ.out).mono ?_
        rintro e w9 ⟨rfl, ew⟩
        replace ew := ew.symm
        subst ew
        first | refine hK.out _ _ (by exact ⟨by have := HCP0.out.2.2.2.cell hlt; rw [HXX.out.1] at this; exact this, HCP0.out.1.cell 5⟩) (fun hHeld => ?_) | (go_wp2_with fail; refine hK.out _ _ (by exact ⟨by have := HCP0.out.2.2.2.cell hlt; rw [HXX.out.1] at this; exact this, HCP0.out.1.cell 5⟩) (fun hHeld => ?_))
        clear hK K
        try simp only [Act.put, List.setIfInBounds_toArray, List.set_cons_zero, List.set_cons_succ]
        refine wpAnyH_take (i := 5) (oi := { dst := some 34, op := Go.Op.unOp Go.UnOp.not 4 (Go.Operand.tmp 33), type := 4, pos := "l15_stock.go:310", after := #[{ on := 4, ground := Go.Ground.data }], guard := none }) (v := ?_) rfl (by kernel_rfl) (by kernel_rfl) (by kernel_rfl) (fun _ _ _ h => h) (Or.inl ⟨by rfl, ?_⟩) (by assumption) ?_
        rotate_left
        · (intro w hSw; (try dsimp only at hSw); go_simp <;> try with_reducible rfl)
        try simp only [Act.put, List.setIfInBounds_toArray, List.set_cons_zero, List.set_cons_succ]
        refine wpAnyH_take (i := 6) (oi := { dst := some 35, op := Go.Op.move (Go.Operand.tmp 34), type := 4, pos := "l15_stock.go:310", after := #[{ on := 5, ground := Go.Ground.data }, { on := 4, ground := Go.Ground.chain }], guard := none }) (v := ?_) rfl (by kernel_rfl) (by kernel_rfl) (by kernel_rfl) (fun _ _ _ h => h) (Or.inl ⟨by rfl, ?_⟩) (by assumption) ?_
        rotate_left
        · (intro w hSw; (try dsimp only at hSw); go_simp <;> try with_reducible rfl)
        try simp only [Act.put, List.setIfInBounds_toArray, List.set_cons_zero, List.set_cons_succ]
        refine wpAnyH_take (i := 7) (oi := { dst := some 36, op := Go.Op.move (Go.Operand.tmp 1), type := 40, pos := "l15_stock.go:310", after := #[{ on := 6, ground := Go.Ground.guard }], guard := some (6, false) }) (v := ?_) rfl (by kernel_rfl) (by kernel_rfl) (by kernel_rfl) (fun _ _ _ h => h) (Or.inl ⟨by rfl, ?_⟩) (by assumption) ?_
        rotate_left
        · (intro w hSw; (try dsimp only at hSw); go_simp <;> try with_reducible rfl)
        try simp only [Act.put, List.setIfInBounds_toArray, List.set_cons_zero, List.set_cons_succ]
        refine wpAnyH_take (i := 8) (oi := { dst := some 37, op := Go.Op.move (Go.Operand.tmp 6), type := 3, pos := "l15_stock.go:310", after := #[{ on := 6, ground := Go.Ground.guard }], guard := some (6, false) }) (v := ?_) rfl (by kernel_rfl) (by kernel_rfl) (by kernel_rfl) (fun _ _ _ h => h) (Or.inl ⟨by rfl, ?_⟩) (by assumption) ?_
        rotate_left
        · (intro w hSw; (try dsimp only at hSw); go_simp <;> try with_reducible rfl)
        try simp only [Act.put, List.setIfInBounds_toArray, List.set_cons_zero, List.set_cons_succ]
        refine wpAnyH_take (i := 9) (oi := { dst := some 38, op := Go.Op.indexAddr 40 (Go.Operand.tmp 36) (Go.Operand.tmp 37), type := 0, pos := "l15_stock.go:310", after := #[{ on := 7, ground := Go.Ground.data }, { on := 8, ground := Go.Ground.data }, { on := 6, ground := Go.Ground.guard }], guard := some (6, false) }) (v := ?_) rfl (by kernel_rfl) (by kernel_rfl) (by kernel_rfl) (fun _ _ _ h => h) (Or.inl ⟨by rfl, ?_⟩) (by assumption) ?_
        rotate_left
        · (intro w hSw; (try dsimp only at hSw); go_simp <;> try with_reducible rfl)
        try simp only [Act.put, List.setIfInBounds_toArray, List.set_cons_zero, List.set_cons_succ]
        refine wpAnyH_take (i := 10) (oi := { dst := some 39, op := Go.Op.load 3 (Go.Operand.tmp 38), type := 3, pos := "l15_stock.go:310", after := #[{ on := 9, ground := Go.Ground.data }, { on := 6, ground := Go.Ground.guard }], guard := some (6, false) }) (v := ?_) rfl (by kernel_rfl) (by kernel_rfl) (by kernel_rfl) (fun _ _ _ h => h) (Or.inl ⟨by rfl, ?_⟩) (by assumption) ?_
        rotate_left
        · (intro w hSw; (try dsimp only at hSw); go_simp <;> try with_reducible rfl)
        try simp only [Act.put, List.setIfInBounds_toArray, List.set_cons_zero, List.set_cons_succ]
        refine wpAnyH_take (i := 11) (oi := { dst := some 40, op := Go.Op.fieldAddr 28 (Go.Operand.tmp 7) 5, type := 0, pos := "l15_stock.go:310", after := #[{ on := 6, ground := Go.Ground.guard }], guard := some (6, false) }) (v := ?_) rfl (by kernel_rfl) (by kernel_rfl) (by kernel_rfl) (fun _ _ _ h => h) (Or.inl ⟨by rfl, ?_⟩) (by assumption) ?_
        rotate_left
        · (intro w hSw; (try dsimp only at hSw); go_simp <;> try with_reducible rfl)
        try simp only [Act.put, List.setIfInBounds_toArray, List.set_cons_zero, List.set_cons_succ]
        refine wpAnyH_take (i := 12) (oi := { dst := some 41, op := Go.Op.load 3 (Go.Operand.tmp 40), type := 3, pos := "l15_stock.go:310", after := #[{ on := 11, ground := Go.Ground.data }, { on := 6, ground := Go.Ground.guard }], guard := some (6, false) }) (v := ?_) rfl (by kernel_rfl) (by kernel_rfl) (by kernel_rfl) (fun _ _ _ h => h) (Or.inl ⟨by rfl, ?_⟩) (by assumption) ?_
        rotate_left
        · (intro w hSw; (try dsimp only at hSw); go_simp <;> try with_reducible rfl)
        try simp only [Act.put, List.setIfInBounds_toArray, List.set_cons_zero, List.set_cons_succ]
        refine wpAnyH_take (i := 13) (oi := { dst := some 42, op := Go.Op.binOp Go.BinOp.lss 3 (Go.Operand.tmp 39) (Go.Operand.tmp 41) 3, type := 4, pos := "l15_stock.go:310", after := #[{ on := 10, ground := Go.Ground.data }, { on := 12, ground := Go.Ground.data }, { on := 6, ground := Go.Ground.guard }], guard := some (6, false) }) (v := ?_) rfl (by kernel_rfl) (by kernel_rfl) (by kernel_rfl) (fun _ _ _ h => h) (Or.inl ⟨by rfl, ?_⟩) (by assumption) ?_
        rotate_left
        · (intro w hSw; (try dsimp only at hSw); go_simp <;> try with_reducible rfl)
        try simp only [Act.put, List.setIfInBounds_toArray, List.set_cons_zero, List.set_cons_succ]
        refine wpAnyH_take (i := 14) (oi := { dst := some 43, op := Go.Op.pick (Go.Operand.tmp 35) (Go.Operand.const (Go.Value.bool true)) (Go.Operand.tmp 42), type := 4, pos := "l15_stock.go:310", after := #[{ on := 6, ground := Go.Ground.data }, { on := 13, ground := Go.Ground.data }], guard := none }) (v := ?_) rfl (by kernel_rfl) (by kernel_rfl) (by kernel_rfl) (fun _ _ _ h => h) (Or.inl ⟨by rfl, ?_⟩) (by assumption) ?_
        rotate_left
        · (intro w hSw; (try dsimp only at hSw); go_simp <;> try with_reducible rfl)
        try simp only [Act.put, List.setIfInBounds_toArray, List.set_cons_zero, List.set_cons_succ]
        refine wpAnyH_done (by kernel_rfl) ?_ _
        refine NoPanic.normal ?_
        clear hHeld
        have HV : Hid (M = 0) := hid (by rw [← HM.out]; exact ctM_no HNO.out)
        go_wp2
        go_returns
        rw [HV.out]
        first | exact ⟨_, _, rfl, .inl rfl, (HCP0.out.2.2.1.drew).alloc (HCP0.out.2.2.1.drew).size _⟩ | exact ⟨_, _, rfl, .inl rfl, (HCP0.out.2.2.1.drew)⟩
      refine wp_region_noPanic ?_
      refine wp_region_held_drew (S := fun w' => (w'.cell? ⟨kz, oz + k, none⟩ = some (.int .i64 y)) ∧ (w'.cell? ⟨cb, 5, none⟩ = some (.int .i64 hd))) (by kernel_rfl) (by exact ⟨by have := HCP0.out.2.2.2.cell hlt; rw [HXX.out.1] at this; exact this, HCP0.out.1.cell 5⟩) (fun hHeld => ?_)
      refine wpAnyH_take (i := 0) (oi := { dst := some 29, op := Go.Op.move (Go.Operand.tmp 1), type := 40, pos := "l15_stock.go:310", after := #[], guard := none }) (v := ?_) rfl (by kernel_rfl) (by kernel_rfl) (by kernel_rfl) (fun _ _ _ h => h) (Or.inl ⟨by rfl, ?_⟩) (by assumption) ?_
      rotate_left
      · (intro w hSw; (try dsimp only at hSw); go_simp <;> try with_reducible rfl)
      try simp only [Act.put, List.setIfInBounds_toArray, List.set_cons_zero, List.set_cons_succ]
      refine wpAnyH_take (i := 1) (oi := { dst := some 30, op := Go.Op.move (Go.Operand.tmp 6), type := 3, pos := "l15_stock.go:310", after := #[], guard := none }) (v := ?_) rfl (by kernel_rfl) (by kernel_rfl) (by kernel_rfl) (fun _ _ _ h => h) (Or.inl ⟨by rfl, ?_⟩) (by assumption) ?_
      rotate_left
      · (intro w hSw; (try dsimp only at hSw); go_simp <;> try with_reducible rfl)
      try simp only [Act.put, List.setIfInBounds_toArray, List.set_cons_zero, List.set_cons_succ]
      refine wpAnyH_take (i := 2) (oi := { dst := some 31, op := Go.Op.indexAddr 40 (Go.Operand.tmp 29) (Go.Operand.tmp 30), type := 0, pos := "l15_stock.go:310", after := #[{ on := 0, ground := Go.Ground.data }, { on := 1, ground := Go.Ground.data }], guard := none }) (v := ?_) rfl (by kernel_rfl) (by kernel_rfl) (by kernel_rfl) (fun _ _ _ h => h) (Or.inl ⟨by rfl, ?_⟩) (by assumption) ?_
      rotate_left
      · (intro w hSw; (try dsimp only at hSw); go_simp <;> try with_reducible rfl)
      try simp only [Act.put, List.setIfInBounds_toArray, List.set_cons_zero, List.set_cons_succ]
      refine wpAnyH_take (i := 3) (oi := { dst := some 32, op := Go.Op.load 3 (Go.Operand.tmp 31), type := 3, pos := "l15_stock.go:310", after := #[{ on := 2, ground := Go.Ground.data }], guard := none }) (v := ?_) rfl (by kernel_rfl) (by kernel_rfl) (by kernel_rfl) (fun _ _ _ h => h) (Or.inl ⟨by rfl, ?_⟩) (by assumption) ?_
      rotate_left
      · (intro w hSw; (try dsimp only at hSw); go_simp <;> try with_reducible rfl)
      try simp only [Act.put, List.setIfInBounds_toArray, List.set_cons_zero, List.set_cons_succ]
      refine wpAnyH_ready (rs := [4]) (by kernel_rfl) (by simp) ?_
      refine AllReadyH.cons (o := { dst := some 33, op := Go.Op.call { callee := Go.Callee.value (Go.Operand.func 85), args := #[Go.Operand.tmp 32], argTypes := #[3] }, type := 4, pos := "l15_stock.go:310", after := #[{ on := 3, ground := Go.Ground.data }], guard := none }) rfl (fun K hK => ?_) (AllReadyH.nil)
      go_simp
      refine (isQty_eq _ _ _ HQ.out).mono ?_
      rintro e w9 ⟨rfl, ew⟩
      replace ew := ew.symm
      subst ew
      first | refine hK.out _ _ (by exact ⟨by have := HCP0.out.2.2.2.cell hlt; rw [HXX.out.1] at this; exact this, HCP0.out.1.cell 5⟩) (fun hHeld => ?_) | (go_wp2_with fail; refine hK.out _ _ (by exact ⟨by have := HCP0.out.2.2.2.cell hlt; rw [HXX.out.1] at this; exact this, HCP0.out.1.cell 5⟩) (fun hHeld => ?_))
      clear hK K
      try simp only [Act.put, List.setIfInBounds_toArray, List.set_cons_zero, List.set_cons_succ]
      refine wpAnyH_take (i := 5) (oi := { dst := some 34, op := Go.Op.unOp Go.UnOp.not 4 (Go.Operand.tmp 33), type := 4, pos := "l15_stock.go:310", after := #[{ on := 4, ground := Go.Ground.data }], guard := none }) (v := ?_) rfl (by kernel_rfl) (by kernel_rfl) (by kernel_rfl) (fun _ _ _ h => h) (Or.inl ⟨by rfl, ?_⟩) (by assumption) ?_
      rotate_left
      · (intro w hSw; (try dsimp only at hSw); go_simp <;> try with_reducible rfl)
      try simp only [Act.put, List.setIfInBounds_toArray, List.set_cons_zero, List.set_cons_succ]
      refine wpAnyH_take (i := 6) (oi := { dst := some 35, op := Go.Op.move (Go.Operand.tmp 34), type := 4, pos := "l15_stock.go:310", after := #[{ on := 5, ground := Go.Ground.data }, { on := 4, ground := Go.Ground.chain }], guard := none }) (v := ?_) rfl (by kernel_rfl) (by kernel_rfl) (by kernel_rfl) (fun _ _ _ h => h) (Or.inl ⟨by rfl, ?_⟩) (by assumption) ?_
      rotate_left
      · (intro w hSw; (try dsimp only at hSw); go_simp <;> try with_reducible rfl)
      try simp only [Act.put, List.setIfInBounds_toArray, List.set_cons_zero, List.set_cons_succ]
      refine wpAnyH_take (i := 7) (oi := { dst := some 36, op := Go.Op.move (Go.Operand.tmp 1), type := 40, pos := "l15_stock.go:310", after := #[{ on := 6, ground := Go.Ground.guard }], guard := some (6, false) }) (v := ?_) rfl (by kernel_rfl) (by kernel_rfl) (by kernel_rfl) (fun _ _ _ h => h) (Or.inl ⟨by rfl, ?_⟩) (by assumption) ?_
      rotate_left
      · (intro w hSw; (try dsimp only at hSw); go_simp <;> try with_reducible rfl)
      try simp only [Act.put, List.setIfInBounds_toArray, List.set_cons_zero, List.set_cons_succ]
      refine wpAnyH_take (i := 8) (oi := { dst := some 37, op := Go.Op.move (Go.Operand.tmp 6), type := 3, pos := "l15_stock.go:310", after := #[{ on := 6, ground := Go.Ground.guard }], guard := some (6, false) }) (v := ?_) rfl (by kernel_rfl) (by kernel_rfl) (by kernel_rfl) (fun _ _ _ h => h) (Or.inl ⟨by rfl, ?_⟩) (by assumption) ?_
      rotate_left
      · (intro w hSw; (try dsimp only at hSw); go_simp <;> try with_reducible rfl)
      try simp only [Act.put, List.setIfInBounds_toArray, List.set_cons_zero, List.set_cons_succ]
      refine wpAnyH_take (i := 9) (oi := { dst := some 38, op := Go.Op.indexAddr 40 (Go.Operand.tmp 36) (Go.Operand.tmp 37), type := 0, pos := "l15_stock.go:310", after := #[{ on := 7, ground := Go.Ground.data }, { on := 8, ground := Go.Ground.data }, { on := 6, ground := Go.Ground.guard }], guard := some (6, false) }) (v := ?_) rfl (by kernel_rfl) (by kernel_rfl) (by kernel_rfl) (fun _ _ _ h => h) (Or.inl ⟨by rfl, ?_⟩) (by assumption) ?_
      rotate_left
      · (intro w hSw; (try dsimp only at hSw); go_simp <;> try with_reducible rfl)
      try simp only [Act.put, List.setIfInBounds_toArray, List.set_cons_zero, List.set_cons_succ]
      refine wpAnyH_take (i := 10) (oi := { dst := some 39, op := Go.Op.load 3 (Go.Operand.tmp 38), type := 3, pos := "l15_stock.go:310", after := #[{ on := 9, ground := Go.Ground.data }, { on := 6, ground := Go.Ground.guard }], guard := some (6, false) }) (v := ?_) rfl (by kernel_rfl) (by kernel_rfl) (by kernel_rfl) (fun _ _ _ h => h) (Or.inl ⟨by rfl, ?_⟩) (by assumption) ?_
      rotate_left
      · (intro w hSw; (try dsimp only at hSw); go_simp <;> try with_reducible rfl)
      try simp only [Act.put, List.setIfInBounds_toArray, List.set_cons_zero, List.set_cons_succ]
      refine wpAnyH_take (i := 11) (oi := { dst := some 40, op := Go.Op.fieldAddr 28 (Go.Operand.tmp 7) 5, type := 0, pos := "l15_stock.go:310", after := #[{ on := 6, ground := Go.Ground.guard }], guard := some (6, false) }) (v := ?_) rfl (by kernel_rfl) (by kernel_rfl) (by kernel_rfl) (fun _ _ _ h => h) (Or.inl ⟨by rfl, ?_⟩) (by assumption) ?_
      rotate_left
      · (intro w hSw; (try dsimp only at hSw); go_simp <;> try with_reducible rfl)
      try simp only [Act.put, List.setIfInBounds_toArray, List.set_cons_zero, List.set_cons_succ]
      refine wpAnyH_take (i := 12) (oi := { dst := some 41, op := Go.Op.load 3 (Go.Operand.tmp 40), type := 3, pos := "l15_stock.go:310", after := #[{ on := 11, ground := Go.Ground.data }, { on := 6, ground := Go.Ground.guard }], guard := some (6, false) }) (v := ?_) rfl (by kernel_rfl) (by kernel_rfl) (by kernel_rfl) (fun _ _ _ h => h) (Or.inl ⟨by rfl, ?_⟩) (by assumption) ?_
      rotate_left
      · (intro w hSw; (try dsimp only at hSw); go_simp <;> try with_reducible rfl)
      try simp only [Act.put, List.setIfInBounds_toArray, List.set_cons_zero, List.set_cons_succ]
      refine wpAnyH_take (i := 13) (oi := { dst := some 42, op := Go.Op.binOp Go.BinOp.lss 3 (Go.Operand.tmp 39) (Go.Operand.tmp 41) 3, type := 4, pos := "l15_stock.go:310", after := #[{ on := 10, ground := Go.Ground.data }, { on := 12, ground := Go.Ground.data }, { on := 6, ground := Go.Ground.guard }], guard := some (6, false) }) (v := ?_) rfl (by kernel_rfl) (by kernel_rfl) (by kernel_rfl) (fun _ _ _ h => h) (Or.inl ⟨by rfl, ?_⟩) (by assumption) ?_
      rotate_left
      · (intro w hSw; (try dsimp only at hSw); go_simp <;> try with_reducible rfl)
      try simp only [Act.put, List.setIfInBounds_toArray, List.set_cons_zero, List.set_cons_succ]
      refine wpAnyH_take (i := 14) (oi := { dst := some 43, op := Go.Op.pick (Go.Operand.tmp 35) (Go.Operand.const (Go.Value.bool true)) (Go.Operand.tmp 42), type := 4, pos := "l15_stock.go:310", after := #[{ on := 6, ground := Go.Ground.data }, { on := 13, ground := Go.Ground.data }], guard := none }) (v := ?_) rfl (by kernel_rfl) (by kernel_rfl) (by kernel_rfl) (fun _ _ _ h => h) (Or.inl ⟨by rfl, ?_⟩) (by assumption) ?_
      rotate_left
      · (intro w hSw; (try dsimp only at hSw); go_simp <;> try with_reducible rfl)
      try simp only [Act.put, List.setIfInBounds_toArray, List.set_cons_zero, List.set_cons_succ]
      refine wpAnyH_done (by kernel_rfl) ?_ _
      refine NoPanic.normal ?_
      clear hHeld
      have hwp : IntKind.i64.wrap (y - qt) = y - qt := IntWalk.i64_in _ ⟨by omega, by omega⟩
      go_wp2
      obtain ⟨v0, hv0⟩ : ∃ v, cs[k]? = some v := ⟨cs[k]'(by have := HC.out.2.1; omega), Array.getElem?_eq_getElem (by have := HC.out.2.1; omega)⟩
      have HC9 : Hid (CB WA.drew.drew cb #[.string (c k).item, .string (c k).place, .string (c k).lot, .int .i64 (c k).exp, .int .i64 qt, .int .i64 hd] 28 ∧ CB WA.drew.drew w1.heap.size cs 3 ∧ Below w.heap.size w WA.drew.drew ∧ IR WA.drew.drew (some ⟨kz, oz, none⟩) leni z) := hid ⟨HCP0.out.1, HCP0.out.2.1, HCP0.out.2.2.1.drew.drew, HCP0.out.2.2.2⟩
      refine wp_region_noPanic ?_
      refine wp_region_held_drew (S := fun w' => (w'.cell? ⟨kz, oz + k, none⟩ = some (.int .i64 y)) ∧ (w'.cell? ⟨cb, 4, none⟩ = some (.int .i64 qt))) (by kernel_rfl) (by exact ⟨by have := HC9.out.2.2.2.cell hlt; rw [HXX.out.1] at this; exact this, HC9.out.1.cell 4⟩) (fun hHeld => ?_)
      generalize WA.drew.drew = VD at HC9 hHeld ⊢
      refine wpAnyH_take (i := 0) (oi := { dst := some 45, op := Go.Op.move (Go.Operand.tmp 5), type := 40, pos := "l15_stock.go:313", after := #[], guard := none }) (v := ?_) rfl (by kernel_rfl) (by kernel_rfl) (by kernel_rfl) (fun _ _ _ h => h) (Or.inl ⟨by rfl, ?_⟩) (by assumption) ?_
      rotate_left
      · (intro w hSw; (try dsimp only at hSw); go_simp <;> try with_reducible rfl)
      try simp only [Act.put, List.setIfInBounds_toArray, List.set_cons_zero, List.set_cons_succ]
      refine wpAnyH_take (i := 1) (oi := { dst := some 46, op := Go.Op.move (Go.Operand.tmp 6), type := 3, pos := "l15_stock.go:313", after := #[], guard := none }) (v := ?_) rfl (by kernel_rfl) (by kernel_rfl) (by kernel_rfl) (fun _ _ _ h => h) (Or.inl ⟨by rfl, ?_⟩) (by assumption) ?_
      rotate_left
      · (intro w hSw; (try dsimp only at hSw); go_simp <;> try with_reducible rfl)
      try simp only [Act.put, List.setIfInBounds_toArray, List.set_cons_zero, List.set_cons_succ]
      refine wpAnyH_take (i := 2) (oi := { dst := some 47, op := Go.Op.move (Go.Operand.tmp 1), type := 40, pos := "l15_stock.go:313", after := #[], guard := none }) (v := ?_) rfl (by kernel_rfl) (by kernel_rfl) (by kernel_rfl) (fun _ _ _ h => h) (Or.inl ⟨by rfl, ?_⟩) (by assumption) ?_
      rotate_left
      · (intro w hSw; (try dsimp only at hSw); go_simp <;> try with_reducible rfl)
      try simp only [Act.put, List.setIfInBounds_toArray, List.set_cons_zero, List.set_cons_succ]
      refine wpAnyH_take (i := 3) (oi := { dst := some 48, op := Go.Op.move (Go.Operand.tmp 6), type := 3, pos := "l15_stock.go:313", after := #[], guard := none }) (v := ?_) rfl (by kernel_rfl) (by kernel_rfl) (by kernel_rfl) (fun _ _ _ h => h) (Or.inl ⟨by rfl, ?_⟩) (by assumption) ?_
      rotate_left
      · (intro w hSw; (try dsimp only at hSw); go_simp <;> try with_reducible rfl)
      try simp only [Act.put, List.setIfInBounds_toArray, List.set_cons_zero, List.set_cons_succ]
      refine wpAnyH_take (i := 4) (oi := { dst := some 49, op := Go.Op.indexAddr 40 (Go.Operand.tmp 47) (Go.Operand.tmp 48), type := 0, pos := "l15_stock.go:313", after := #[{ on := 2, ground := Go.Ground.data }, { on := 3, ground := Go.Ground.data }], guard := none }) (v := ?_) rfl (by kernel_rfl) (by kernel_rfl) (by kernel_rfl) (fun _ _ _ h => h) (Or.inl ⟨by rfl, ?_⟩) (by assumption) ?_
      rotate_left
      · (intro w hSw; (try dsimp only at hSw); go_simp <;> try with_reducible rfl)
      try simp only [Act.put, List.setIfInBounds_toArray, List.set_cons_zero, List.set_cons_succ]
      refine wpAnyH_take (i := 5) (oi := { dst := some 50, op := Go.Op.load 3 (Go.Operand.tmp 49), type := 3, pos := "l15_stock.go:313", after := #[{ on := 4, ground := Go.Ground.data }], guard := none }) (v := ?_) rfl (by kernel_rfl) (by kernel_rfl) (by kernel_rfl) (fun _ _ _ h => h) (Or.inl ⟨by rfl, ?_⟩) (by assumption) ?_
      rotate_left
      · (intro w hSw; (try dsimp only at hSw); go_simp <;> try with_reducible rfl)
      try simp only [Act.put, List.setIfInBounds_toArray, List.set_cons_zero, List.set_cons_succ]
      refine wpAnyH_take (i := 6) (oi := { dst := some 51, op := Go.Op.fieldAddr 28 (Go.Operand.tmp 7) 4, type := 0, pos := "l15_stock.go:313", after := #[], guard := none }) (v := ?_) rfl (by kernel_rfl) (by kernel_rfl) (by kernel_rfl) (fun _ _ _ h => h) (Or.inl ⟨by rfl, ?_⟩) (by assumption) ?_
      rotate_left
      · (intro w hSw; (try dsimp only at hSw); go_simp <;> try with_reducible rfl)
      try simp only [Act.put, List.setIfInBounds_toArray, List.set_cons_zero, List.set_cons_succ]
      refine wpAnyH_take (i := 7) (oi := { dst := some 52, op := Go.Op.load 3 (Go.Operand.tmp 51), type := 3, pos := "l15_stock.go:313", after := #[{ on := 6, ground := Go.Ground.data }], guard := none }) (v := ?_) rfl (by kernel_rfl) (by kernel_rfl) (by kernel_rfl) (fun _ _ _ h => h) (Or.inl ⟨by rfl, ?_⟩) (by assumption) ?_
      rotate_left
      · (intro w hSw; (try dsimp only at hSw); go_simp <;> try with_reducible rfl)
      try simp only [Act.put, List.setIfInBounds_toArray, List.set_cons_zero, List.set_cons_succ]
      refine wpAnyH_take (i := 8) (oi := { dst := some 53, op := Go.Op.binOp Go.BinOp.sub 3 (Go.Operand.tmp 50) (Go.Operand.tmp 52) 3, type := 3, pos := "l15_stock.go:313", after := #[{ on := 5, ground := Go.Ground.data }, { on := 7, ground := Go.Ground.data }], guard := none }) (v := ?_) rfl (by kernel_rfl) (by kernel_rfl) (by kernel_rfl) (fun _ _ _ h => h) (Or.inl ⟨by rfl, ?_⟩) (by assumption) ?_
      rotate_left
      · (intro w hSw; (try dsimp only at hSw); go_simp <;> try with_reducible rfl)
      try simp only [Act.put, List.setIfInBounds_toArray, List.set_cons_zero, List.set_cons_succ]
      refine wpAnyH_take (i := 9) (oi := { dst := some 54, op := Go.Op.indexAddr 40 (Go.Operand.tmp 45) (Go.Operand.tmp 46), type := 0, pos := "l15_stock.go:313", after := #[{ on := 0, ground := Go.Ground.data }, { on := 1, ground := Go.Ground.data }, { on := 0, ground := Go.Ground.phase }, { on := 1, ground := Go.Ground.phase }, { on := 2, ground := Go.Ground.phase }, { on := 3, ground := Go.Ground.phase }, { on := 4, ground := Go.Ground.phase }, { on := 5, ground := Go.Ground.phase }, { on := 6, ground := Go.Ground.phase }, { on := 7, ground := Go.Ground.phase }, { on := 8, ground := Go.Ground.phase }], guard := none }) (v := ?_) rfl (by kernel_rfl) (by kernel_rfl) (by kernel_rfl) (fun _ _ _ h => h) (Or.inl ⟨by rfl, ?_⟩) (by assumption) ?_
      rotate_left
      · (intro w hSw; (try dsimp only at hSw); go_simp <;> try with_reducible rfl)
      try simp only [Act.put, List.setIfInBounds_toArray, List.set_cons_zero, List.set_cons_succ]
      have HKZ : Hid (kz ≠ w1.heap.size) := hid (by have := HB1.out.size; omega)
      refine wpAnyH_ready (rs := [10]) (by kernel_rfl) (by simp) ?_
      refine AllReadyH.cons (o := { dst := none, op := Go.Op.store 3 (Go.Operand.tmp 54) (Go.Operand.tmp 53), type := 0, pos := "l15_stock.go:313", after := #[{ on := 9, ground := Go.Ground.data }, { on := 8, ground := Go.Ground.data }, { on := 0, ground := Go.Ground.phase }, { on := 1, ground := Go.Ground.phase }, { on := 2, ground := Go.Ground.phase }, { on := 3, ground := Go.Ground.phase }, { on := 4, ground := Go.Ground.phase }, { on := 5, ground := Go.Ground.phase }, { on := 6, ground := Go.Ground.phase }, { on := 7, ground := Go.Ground.phase }, { on := 8, ground := Go.Ground.phase }], guard := none }) rfl (fun K hK => ?_) (AllReadyH.nil)
      have d0 : VD.cell? ⟨w1.heap.size, k, none⟩ = some v0 := (HC9.out.2.1.cell k).trans hv0
      have f0 := HC9.out.2.1.fr k
      go_simp
      have HF : Hid (CB (VD.setCell ⟨w1.heap.size, k, none⟩ (.int .i64 (y - qt))) w1.heap.size (cs.setIfInBounds k (.int .i64 (y - qt))) 3 ∧ Below w.heap.size w (VD.setCell ⟨w1.heap.size, k, none⟩ (.int .i64 (y - qt))) ∧ IR (VD.setCell ⟨w1.heap.size, k, none⟩ (.int .i64 (y - qt))) (some ⟨kz, oz, none⟩) leni z ∧ CB (VD.setCell ⟨w1.heap.size, k, none⟩ (.int .i64 (y - qt))) cb #[.string (c k).item, .string (c k).place, .string (c k).lot, .int .i64 (c k).exp, .int .i64 qt, .int .i64 hd] 28) := hid ⟨HC9.out.2.1.set _ _, HC9.out.2.2.1.setCell HGN.out.1 _, HC9.out.2.2.2.other _ HKZ.out, HC9.out.1.other _ HGN.out.2⟩
      refine hK.out _ _ (by exact ⟨by have := HF.out.2.2.1.cell hlt; rw [HXX.out.1] at this; exact this, HF.out.2.2.2.cell 4⟩) (fun hHeld => ?_)
      clear hK K d0 f0
      try simp only [Act.put, List.setIfInBounds_toArray, List.set_cons_zero, List.set_cons_succ]
      refine wpAnyH_done (by kernel_rfl) ?_ _
      refine NoPanic.normal ?_
      clear hHeld
      generalize VD.setCell ⟨w1.heap.size, k, none⟩ (.int .i64 (y - qt)) = VF at HF ⊢
      go_wp2
      go_roundw
      case rel =>
        refine ⟨k + 1, _, by omega, by go_num, ⟨HF.out.1, by simpa using HC.out.2.1, fun j hj => ?_⟩, fun j hj => ?_, HF.out.2.1⟩
        · by_cases e : j = k
          · subst e; rw [get_set_eq (by have := HC.out.2.1; omega)]; unfold ctF; rw [HXX.out.1, HXX.out.2.1]
          · rw [get_set_ne (by omega)]; exact HC.out.2.2 j (by omega)
        · by_cases e : j = k
          · subst e; rw [HXX.out.1, HXX.out.2.2]; exact ⟨HQ.out, by omega⟩
          · exact HK.out j (by omega)
      case measure => simp [intOf]; omega
    · obtain rfl : k = leni := by omega
      have lkk : ¬ (k : Int) < (k : Int) := by omega
      have hMk : k = M := by rw [← HM.out]; exact (ctM_ok ⟨HSP.out, rfl, HK.out⟩).symm
      subst hMk
      have HFIN : Hid (OwnI wr w.heap.size (some ⟨w1.heap.size, 0, none⟩) k (ctF c z)) := hid (.inr ⟨_, cs, rfl, HB1.out.size, HC.out.1, by have := HC.out.2.1; omega, HC.out.2.2⟩)
      go_wp2
      go_returns
      first | exact ⟨_, _, rfl, HFIN.out, HB.out⟩ | exact ⟨_, ⟨_, rfl⟩, HFIN.out, HB.out⟩
set_option maxRecDepth 20000 in
set_option maxHeartbeats 8000000 in
theorem specCount_any (ad : Option Addr) (len cap : Nat) (c : Nat → CE6) (ai : Option Addr) (leni capi : Nat) (z : Nat → Int) (w : World) (h : (len : Int) ≤ 1048576) (hi : (leni : Int) ≤ 1048576) (hr : CEr w ad len c) (hz : CZ c) (hri : IR w ai leni z) :
    Calls Try.prog 50 #[.slice ad len cap, .slice ai leni capi] w fun e w' => ∃ ado co, e = .returned (.slice ado (ctM len c leni z) co) ∧ OwnI w' w.heap.size ado (ctM len c leni z) (ctF c z) ∧ Below w.heap.size w w' := by
  have HR := hid hr
  have HZ := hid hz
  have HI := hid hri
  have hmk := mkI len h
  obtain ⟨i0, hi0, hz0, hz1, hz2⟩ := info3
  clear hr hz hri
  cases hs : stB len c
  · have HN : Hid (ctM len c leni z = 0) := hid (ctM_no fun H => by rw [stB_t H.1] at hs; cases hs)
    have HS := hid hs
    clear hs
    go_enter Try.func50, Try.ntmps50
    go_wp2_with (go_at_call 35; refine (specStock_eq _ len cap c _ _ h (HR.out.alloc _) HZ.out HS.out).mono ?_; rintro e w1 ⟨rfl, b1⟩; have HB1 : Hid (Below w.heap.size w w1) := hid (bel_on ((Below.refl _ _).alloc (Nat.le_refl _) _) b1); have HCB : Hid (CB w1 w.heap.size #[] 3) := hid (CB.below (CB.new _ _) b1 (CB.new _ _).lt); clear b1)
    go_returns
    rw [HN.out]
    first | exact ⟨_, _, rfl, .inl rfl, HB1.out.alloc HB1.out.size _⟩ | exact ⟨_, _, rfl, .inl rfl, HB1.out⟩
  have HS := hid hs
  have HSP := hid (stB_p hs)
  clear hs
  by_cases hn : leni = len
  case neg =>
    have HN : Hid (ctM len c leni z = 0) := hid (ctM_no fun H => hn H.2.1)
    have hne : ((leni : Int) != (len : Int)) = true := by simp; omega
    clear hn
    go_enter Try.func50, Try.ntmps50
    go_wp2_with (go_at_call 35; refine (specStock_eq _ len cap c _ _ h (HR.out.alloc _) HZ.out HS.out).mono ?_; rintro e w1 ⟨rfl, b1⟩; have HB1 : Hid (Below w.heap.size w w1) := hid (bel_on ((Below.refl _ _).alloc (Nat.le_refl _) _) b1); have HCB : Hid (CB w1 w.heap.size #[] 3) := hid (CB.below (CB.new _ _) b1 (CB.new _ _).lt); clear b1)
    go_returns
    rw [HN.out]
    first | exact ⟨_, _, rfl, .inl rfl, HB1.out.alloc HB1.out.size _⟩ | exact ⟨_, _, rfl, .inl rfl, HB1.out⟩
  subst hn
  obtain ⟨M, hM⟩ : ∃ M, ctM leni c leni z = M := ⟨_, rfl⟩
  rw [hM]
  have HM := hid hM
  clear hM
  go_enter Try.func50, Try.ntmps50
  go_wp2_with (go_at_call 35; refine (specStock_eq _ leni cap c _ _ h (HR.out.alloc _) HZ.out HS.out).mono ?_; rintro e w1 ⟨rfl, b1⟩; have HB1 : Hid (Below w.heap.size w w1) := hid (bel_on ((Below.refl _ _).alloc (Nat.le_refl _) _) b1); have HCB : Hid (CB w1 w.heap.size #[] 3) := hid (CB.below (CB.new _ _) b1 (CB.new _ _).lt); clear b1)
  have HMI : Hid (w1.ownsRow w.heap.size 3 1 (.slice (some ⟨w.heap.size, 0, none⟩) 0 0) 0 []) := hid (madeI HCB.out (Nat.le_refl _))
  go_loopw [5, 6] (fun u i wr => ∃ (k : Nat) (adu : Option Addr) (cu : Nat), k ≤ leni ∧ i = .int .i64 (k : Int) ∧ u = .slice adu k cu ∧ Hid (wr.ownsRow w.heap.size 3 1 (.slice adu k cu) k (intR (ctF c z) k)) ∧ Hid (∀ j, j < k → inB (z j) 0 1000000 = true ∧ (c j).hld ≤ z j) ∧ Hid (Below w.heap.size w wr)) (fun u i _ => leni - (intOf i).toNat)
  case atStart => exact ⟨0, _, _, Nat.zero_le _, rfl, rfl, HMI.out, fun j hj => by omega, HB1.out⟩
  case round =>
    obtain ⟨k, adu, cu, hk, rfl, rfl, HC, HK, HB⟩ := hrel
    have hsz := HB.out.size
    by_cases hlt : k < leni
    · have hlt2 : (k : Int) < (leni : Int) := by omega
      obtain ⟨kb, off, rfl, hkb⟩ := HR.out.addr (by omega)
      have A1 := (HR.out.below HB.out).cell hlt
      obtain ⟨e0, e1, e2, e3, e4, e5⟩ := A1
      obtain ⟨kz, oz, rfl, hkz⟩ := HI.out.addr (by omega)
      have sv := (HI.out.below HB.out).cell hlt
      have hce := ceB_p (HSP.out.1.2 k hlt)
      obtain ⟨_, _, _, _, hq, hd2⟩ := hce
      obtain ⟨y, hy⟩ : ∃ y, z k = y := ⟨_, rfl⟩
      obtain ⟨qt, hqt⟩ : ∃ x, (c k).qty = x := ⟨_, rfl⟩
      obtain ⟨hd, hhd⟩ : ∃ x, (c k).hld = x := ⟨_, rfl⟩
      rw [hy] at sv
      rw [hqt] at e4 hq hd2
      rw [hhd] at e5 hd2
      have HXX : Hid (z k = y ∧ (c k).qty = qt ∧ (c k).hld = hd) := hid ⟨hy, hqt, hhd⟩
      clear hy hqt hhd
      clear e0 e1 e2 e3
      have HCP0 : Hid (wr.cell? ⟨kz, oz + k, none⟩ = some (.int .i64 y) ∧ wr.cell? ⟨kb, off + k * 6 + 4, none⟩ = some (.int .i64 qt) ∧ wr.cell? ⟨kb, off + k * 6 + 5, none⟩ = some (.int .i64 hd)) := hid ⟨sv, e4, e5⟩
      go_wp2
      clear sv e4 e5
      cases hq1 : inB y 0 1000000
      · have HQ := hid hq1
        have HNO : Hid (¬ CtP leni c leni z) := hid (fun H => by have := (H.2.2 k hlt).1; rw [HXX.out.1, hq1] at this; cases this)
        clear hq1
        refine wp_region_noPanic ?_
        refine wp_region_held_drew (S := fun w' => (w'.cell? ⟨kz, oz + k, none⟩ = some (.int .i64 y)) ∧ (w'.cell? ⟨kb, off + k * 6 + 5, none⟩ = some (.int .i64 hd))) (by kernel_rfl) (by exact ⟨HCP0.out.1, HCP0.out.2.2⟩) (fun hHeld => ?_)
        refine wpAnyH_take (i := 0) (oi := { dst := some 25, op := Go.Op.move (Go.Operand.tmp 1), type := 40, pos := "l15_stock.go:232", after := #[], guard := none }) (v := ?_) rfl (by kernel_rfl) (by kernel_rfl) (by kernel_rfl) (fun _ _ _ h => h) (Or.inl ⟨by rfl, ?_⟩) (by assumption) ?_
        rotate_left
        · (intro w hSw; (try dsimp only at hSw); go_simp <;> try with_reducible rfl)
        try simp only [Act.put, List.setIfInBounds_toArray, List.set_cons_zero, List.set_cons_succ]
        refine wpAnyH_take (i := 1) (oi := { dst := some 26, op := Go.Op.move (Go.Operand.tmp 6), type := 3, pos := "l15_stock.go:232", after := #[], guard := none }) (v := ?_) rfl (by kernel_rfl) (by kernel_rfl) (by kernel_rfl) (fun _ _ _ h => h) (Or.inl ⟨by rfl, ?_⟩) (by assumption) ?_
        rotate_left
        · (intro w hSw; (try dsimp only at hSw); go_simp <;> try with_reducible rfl)
        try simp only [Act.put, List.setIfInBounds_toArray, List.set_cons_zero, List.set_cons_succ]
        refine wpAnyH_take (i := 2) (oi := { dst := some 27, op := Go.Op.indexAddr 40 (Go.Operand.tmp 25) (Go.Operand.tmp 26), type := 0, pos := "l15_stock.go:232", after := #[{ on := 0, ground := Go.Ground.data }, { on := 1, ground := Go.Ground.data }], guard := none }) (v := ?_) rfl (by kernel_rfl) (by kernel_rfl) (by kernel_rfl) (fun _ _ _ h => h) (Or.inl ⟨by rfl, ?_⟩) (by assumption) ?_
        rotate_left
        · (intro w hSw; (try dsimp only at hSw); go_simp <;> try with_reducible rfl)
        try simp only [Act.put, List.setIfInBounds_toArray, List.set_cons_zero, List.set_cons_succ]
        refine wpAnyH_take (i := 3) (oi := { dst := some 28, op := Go.Op.load 3 (Go.Operand.tmp 27), type := 3, pos := "l15_stock.go:232", after := #[{ on := 2, ground := Go.Ground.data }], guard := none }) (v := ?_) rfl (by kernel_rfl) (by kernel_rfl) (by kernel_rfl) (fun _ _ _ h => h) (Or.inl ⟨by rfl, ?_⟩) (by assumption) ?_
        rotate_left
        · (intro w hSw; (try dsimp only at hSw); go_simp <;> try with_reducible rfl)
        try simp only [Act.put, List.setIfInBounds_toArray, List.set_cons_zero, List.set_cons_succ]
        refine wpAnyH_ready (rs := [4]) (by kernel_rfl) (by simp) ?_
        refine AllReadyH.cons (o := { dst := some 29, op := Go.Op.call { callee := Go.Callee.value (Go.Operand.func 67), args := #[Go.Operand.tmp 28], argTypes := #[3] }, type := 4, pos := "l15_stock.go:232", after := #[{ on := 3, ground := Go.Ground.data }], guard := none }) rfl (fun K hK => ?_) (AllReadyH.nil)
        go_simp
        refine (l12Qty_eq _ _ _ HQ.out).mono ?_
        rintro e w9 ⟨rfl, ew⟩
        replace ew := ew.symm
        subst ew
        first | refine hK.out _ _ (by exact ⟨HCP0.out.1, HCP0.out.2.2⟩) (fun hHeld => ?_) | (go_wp2_with fail; refine hK.out _ _ (by exact ⟨HCP0.out.1, HCP0.out.2.2⟩) (fun hHeld => ?_))
        clear hK K
        try simp only [Act.put, List.setIfInBounds_toArray, List.set_cons_zero, List.set_cons_succ]
        refine wpAnyH_take (i := 5) (oi := { dst := some 30, op := Go.Op.unOp Go.UnOp.not 4 (Go.Operand.tmp 29), type := 4, pos := "l15_stock.go:232", after := #[{ on := 4, ground := Go.Ground.data }], guard := none }) (v := ?_) rfl (by kernel_rfl) (by kernel_rfl) (by kernel_rfl) (fun _ _ _ h => h) (Or.inl ⟨by rfl, ?_⟩) (by assumption) ?_
        rotate_left
        · (intro w hSw; (try dsimp only at hSw); go_simp <;> try with_reducible rfl)
        try simp only [Act.put, List.setIfInBounds_toArray, List.set_cons_zero, List.set_cons_succ]
        refine wpAnyH_take (i := 6) (oi := { dst := some 31, op := Go.Op.move (Go.Operand.tmp 30), type := 4, pos := "l15_stock.go:232", after := #[{ on := 5, ground := Go.Ground.data }, { on := 4, ground := Go.Ground.chain }], guard := none }) (v := ?_) rfl (by kernel_rfl) (by kernel_rfl) (by kernel_rfl) (fun _ _ _ h => h) (Or.inl ⟨by rfl, ?_⟩) (by assumption) ?_
        rotate_left
        · (intro w hSw; (try dsimp only at hSw); go_simp <;> try with_reducible rfl)
        try simp only [Act.put, List.setIfInBounds_toArray, List.set_cons_zero, List.set_cons_succ]
        refine wpAnyH_take (i := 7) (oi := { dst := some 32, op := Go.Op.move (Go.Operand.tmp 1), type := 40, pos := "l15_stock.go:232", after := #[{ on := 6, ground := Go.Ground.guard }], guard := some (6, false) }) (v := undef) rfl (by kernel_rfl) (by kernel_rfl) (by kernel_rfl) (fun _ _ _ h => h) (Or.inr ⟨by rfl, rfl⟩) (by assumption) ?_
        try simp only [Act.put, List.setIfInBounds_toArray, List.set_cons_zero, List.set_cons_succ]
        refine wpAnyH_take (i := 8) (oi := { dst := some 33, op := Go.Op.move (Go.Operand.tmp 6), type := 3, pos := "l15_stock.go:232", after := #[{ on := 6, ground := Go.Ground.guard }], guard := some (6, false) }) (v := undef) rfl (by kernel_rfl) (by kernel_rfl) (by kernel_rfl) (fun _ _ _ h => h) (Or.inr ⟨by rfl, rfl⟩) (by assumption) ?_
        try simp only [Act.put, List.setIfInBounds_toArray, List.set_cons_zero, List.set_cons_succ]
        refine wpAnyH_take (i := 9) (oi := { dst := some 34, op := Go.Op.indexAddr 40 (Go.Operand.tmp 32) (Go.Operand.tmp 33), type := 0, pos := "l15_stock.go:232", after := #[{ on := 7, ground := Go.Ground.data }, { on := 8, ground := Go.Ground.data }, { on := 6, ground := Go.Ground.guard }], guard := some (6, false) }) (v := undef) rfl (by kernel_rfl) (by kernel_rfl) (by kernel_rfl) (fun _ _ _ h => h) (Or.inr ⟨by rfl, rfl⟩) (by assumption) ?_
        try simp only [Act.put, List.setIfInBounds_toArray, List.set_cons_zero, List.set_cons_succ]
        refine wpAnyH_take (i := 10) (oi := { dst := some 35, op := Go.Op.load 3 (Go.Operand.tmp 34), type := 3, pos := "l15_stock.go:232", after := #[{ on := 9, ground := Go.Ground.data }, { on := 6, ground := Go.Ground.guard }], guard := some (6, false) }) (v := undef) rfl (by kernel_rfl) (by kernel_rfl) (by kernel_rfl) (fun _ _ _ h => h) (Or.inr ⟨by rfl, rfl⟩) (by assumption) ?_
        try simp only [Act.put, List.setIfInBounds_toArray, List.set_cons_zero, List.set_cons_succ]
        refine wpAnyH_take (i := 11) (oi := { dst := some 36, op := Go.Op.move (Go.Operand.tmp 0), type := 24, pos := "l15_stock.go:232", after := #[{ on := 6, ground := Go.Ground.guard }], guard := some (6, false) }) (v := undef) rfl (by kernel_rfl) (by kernel_rfl) (by kernel_rfl) (fun _ _ _ h => h) (Or.inr ⟨by rfl, rfl⟩) (by assumption) ?_
        try simp only [Act.put, List.setIfInBounds_toArray, List.set_cons_zero, List.set_cons_succ]
        refine wpAnyH_take (i := 12) (oi := { dst := some 37, op := Go.Op.move (Go.Operand.tmp 6), type := 3, pos := "l15_stock.go:232", after := #[{ on := 6, ground := Go.Ground.guard }], guard := some (6, false) }) (v := undef) rfl (by kernel_rfl) (by kernel_rfl) (by kernel_rfl) (fun _ _ _ h => h) (Or.inr ⟨by rfl, rfl⟩) (by assumption) ?_
        try simp only [Act.put, List.setIfInBounds_toArray, List.set_cons_zero, List.set_cons_succ]
        refine wpAnyH_take (i := 13) (oi := { dst := some 38, op := Go.Op.indexAddr 24 (Go.Operand.tmp 36) (Go.Operand.tmp 37), type := 0, pos := "l15_stock.go:232", after := #[{ on := 11, ground := Go.Ground.data }, { on := 12, ground := Go.Ground.data }, { on := 6, ground := Go.Ground.guard }], guard := some (6, false) }) (v := undef) rfl (by kernel_rfl) (by kernel_rfl) (by kernel_rfl) (fun _ _ _ h => h) (Or.inr ⟨by rfl, rfl⟩) (by assumption) ?_
        try simp only [Act.put, List.setIfInBounds_toArray, List.set_cons_zero, List.set_cons_succ]
        refine wpAnyH_take (i := 14) (oi := { dst := some 39, op := Go.Op.fieldAddr 28 (Go.Operand.tmp 38) 5, type := 0, pos := "l15_stock.go:232", after := #[{ on := 13, ground := Go.Ground.data }, { on := 6, ground := Go.Ground.guard }], guard := some (6, false) }) (v := undef) rfl (by kernel_rfl) (by kernel_rfl) (by kernel_rfl) (fun _ _ _ h => h) (Or.inr ⟨by rfl, rfl⟩) (by assumption) ?_
        try simp only [Act.put, List.setIfInBounds_toArray, List.set_cons_zero, List.set_cons_succ]
        refine wpAnyH_take (i := 15) (oi := { dst := some 40, op := Go.Op.load 3 (Go.Operand.tmp 39), type := 3, pos := "l15_stock.go:232", after := #[{ on := 14, ground := Go.Ground.data }, { on := 6, ground := Go.Ground.guard }], guard := some (6, false) }) (v := undef) rfl (by kernel_rfl) (by kernel_rfl) (by kernel_rfl) (fun _ _ _ h => h) (Or.inr ⟨by rfl, rfl⟩) (by assumption) ?_
        try simp only [Act.put, List.setIfInBounds_toArray, List.set_cons_zero, List.set_cons_succ]
        refine wpAnyH_take (i := 16) (oi := { dst := some 41, op := Go.Op.binOp Go.BinOp.lss 3 (Go.Operand.tmp 35) (Go.Operand.tmp 40) 3, type := 4, pos := "l15_stock.go:232", after := #[{ on := 10, ground := Go.Ground.data }, { on := 15, ground := Go.Ground.data }, { on := 6, ground := Go.Ground.guard }], guard := some (6, false) }) (v := undef) rfl (by kernel_rfl) (by kernel_rfl) (by kernel_rfl) (fun _ _ _ h => h) (Or.inr ⟨by rfl, rfl⟩) (by assumption) ?_
        try simp only [Act.put, List.setIfInBounds_toArray, List.set_cons_zero, List.set_cons_succ]
        refine wpAnyH_take (i := 17) (oi := { dst := some 42, op := Go.Op.pick (Go.Operand.tmp 31) (Go.Operand.const (Go.Value.bool true)) (Go.Operand.tmp 41), type := 4, pos := "l15_stock.go:232", after := #[{ on := 6, ground := Go.Ground.data }, { on := 16, ground := Go.Ground.data }], guard := none }) (v := ?_) rfl (by kernel_rfl) (by kernel_rfl) (by kernel_rfl) (fun _ _ _ h => h) (Or.inl ⟨by rfl, ?_⟩) (by assumption) ?_
        rotate_left
        · (intro w hSw; (try dsimp only at hSw); go_simp <;> try with_reducible rfl)
        try simp only [Act.put, List.setIfInBounds_toArray, List.set_cons_zero, List.set_cons_succ]
        refine wpAnyH_done (by kernel_rfl) ?_ _
        refine NoPanic.normal ?_
        clear hHeld
        have HV : Hid (M = 0) := hid (by rw [← HM.out]; exact ctM_no HNO.out)
        go_wp2
        go_returns
        rw [HV.out]
        first | exact ⟨_, _, rfl, .inl rfl, (HB.out.drew).alloc (HB.out.drew).size _⟩ | exact ⟨_, _, rfl, .inl rfl, (HB.out.drew)⟩
      have HQ := hid hq1
      have hyb := inB_t hq1
      clear hq1
      by_cases hh : y < hd
      · have HNO : Hid (¬ CtP leni c leni z) := hid (fun H => by have := (H.2.2 k hlt).2; rw [HXX.out.1, HXX.out.2.2] at this; omega)
        refine wp_region_noPanic ?_
        refine wp_region_held_drew (S := fun w' => (w'.cell? ⟨kz, oz + k, none⟩ = some (.int .i64 y)) ∧ (w'.cell? ⟨kb, off + k * 6 + 5, none⟩ = some (.int .i64 hd))) (by kernel_rfl) (by exact ⟨HCP0.out.1, HCP0.out.2.2⟩) (fun hHeld => ?_)
        refine wpAnyH_take (i := 0) (oi := { dst := some 25, op := Go.Op.move (Go.Operand.tmp 1), type := 40, pos := "l15_stock.go:232", after := #[], guard := none }) (v := ?_) rfl (by kernel_rfl) (by kernel_rfl) (by kernel_rfl) (fun _ _ _ h => h) (Or.inl ⟨by rfl, ?_⟩) (by assumption) ?_
        rotate_left
        · (intro w hSw; (try dsimp only at hSw); go_simp <;> try with_reducible rfl)
        try simp only [Act.put, List.setIfInBounds_toArray, List.set_cons_zero, List.set_cons_succ]
        refine wpAnyH_take (i := 1) (oi := { dst := some 26, op := Go.Op.move (Go.Operand.tmp 6), type := 3, pos := "l15_stock.go:232", after := #[], guard := none }) (v := ?_) rfl (by kernel_rfl) (by kernel_rfl) (by kernel_rfl) (fun _ _ _ h => h) (Or.inl ⟨by rfl, ?_⟩) (by assumption) ?_
        rotate_left
        · (intro w hSw; (try dsimp only at hSw); go_simp <;> try with_reducible rfl)
        try simp only [Act.put, List.setIfInBounds_toArray, List.set_cons_zero, List.set_cons_succ]
        refine wpAnyH_take (i := 2) (oi := { dst := some 27, op := Go.Op.indexAddr 40 (Go.Operand.tmp 25) (Go.Operand.tmp 26), type := 0, pos := "l15_stock.go:232", after := #[{ on := 0, ground := Go.Ground.data }, { on := 1, ground := Go.Ground.data }], guard := none }) (v := ?_) rfl (by kernel_rfl) (by kernel_rfl) (by kernel_rfl) (fun _ _ _ h => h) (Or.inl ⟨by rfl, ?_⟩) (by assumption) ?_
        rotate_left
        · (intro w hSw; (try dsimp only at hSw); go_simp <;> try with_reducible rfl)
        try simp only [Act.put, List.setIfInBounds_toArray, List.set_cons_zero, List.set_cons_succ]
        refine wpAnyH_take (i := 3) (oi := { dst := some 28, op := Go.Op.load 3 (Go.Operand.tmp 27), type := 3, pos := "l15_stock.go:232", after := #[{ on := 2, ground := Go.Ground.data }], guard := none }) (v := ?_) rfl (by kernel_rfl) (by kernel_rfl) (by kernel_rfl) (fun _ _ _ h => h) (Or.inl ⟨by rfl, ?_⟩) (by assumption) ?_
        rotate_left
        · (intro w hSw; (try dsimp only at hSw); go_simp <;> try with_reducible rfl)
        try simp only [Act.put, List.setIfInBounds_toArray, List.set_cons_zero, List.set_cons_succ]
        refine wpAnyH_ready (rs := [4]) (by kernel_rfl) (by simp) ?_
        refine AllReadyH.cons (o := { dst := some 29, op := Go.Op.call { callee := Go.Callee.value (Go.Operand.func 67), args := #[Go.Operand.tmp 28], argTypes := #[3] }, type := 4, pos := "l15_stock.go:232", after := #[{ on := 3, ground := Go.Ground.data }], guard := none }) rfl (fun K hK => ?_) (AllReadyH.nil)
        go_simp
        refine (l12Qty_eq _ _ _ HQ.out).mono ?_
        rintro e w9 ⟨rfl, ew⟩
        replace ew := ew.symm
        subst ew
        first | refine hK.out _ _ (by exact ⟨HCP0.out.1, HCP0.out.2.2⟩) (fun hHeld => ?_) | (go_wp2_with fail; refine hK.out _ _ (by exact ⟨HCP0.out.1, HCP0.out.2.2⟩) (fun hHeld => ?_))
        clear hK K
        try simp only [Act.put, List.setIfInBounds_toArray, List.set_cons_zero, List.set_cons_succ]
        refine wpAnyH_take (i := 5) (oi := { dst := some 30, op := Go.Op.unOp Go.UnOp.not 4 (Go.Operand.tmp 29), type := 4, pos := "l15_stock.go:232", after := #[{ on := 4, ground := Go.Ground.data }], guard := none }) (v := ?_) rfl (by kernel_rfl) (by kernel_rfl) (by kernel_rfl) (fun _ _ _ h => h) (Or.inl ⟨by rfl, ?_⟩) (by assumption) ?_
        rotate_left
        · (intro w hSw; (try dsimp only at hSw); go_simp <;> try with_reducible rfl)
        try simp only [Act.put, List.setIfInBounds_toArray, List.set_cons_zero, List.set_cons_succ]
        refine wpAnyH_take (i := 6) (oi := { dst := some 31, op := Go.Op.move (Go.Operand.tmp 30), type := 4, pos := "l15_stock.go:232", after := #[{ on := 5, ground := Go.Ground.data }, { on := 4, ground := Go.Ground.chain }], guard := none }) (v := ?_) rfl (by kernel_rfl) (by kernel_rfl) (by kernel_rfl) (fun _ _ _ h => h) (Or.inl ⟨by rfl, ?_⟩) (by assumption) ?_
        rotate_left
        · (intro w hSw; (try dsimp only at hSw); go_simp <;> try with_reducible rfl)
        try simp only [Act.put, List.setIfInBounds_toArray, List.set_cons_zero, List.set_cons_succ]
        refine wpAnyH_take (i := 7) (oi := { dst := some 32, op := Go.Op.move (Go.Operand.tmp 1), type := 40, pos := "l15_stock.go:232", after := #[{ on := 6, ground := Go.Ground.guard }], guard := some (6, false) }) (v := ?_) rfl (by kernel_rfl) (by kernel_rfl) (by kernel_rfl) (fun _ _ _ h => h) (Or.inl ⟨by rfl, ?_⟩) (by assumption) ?_
        rotate_left
        · (intro w hSw; (try dsimp only at hSw); go_simp <;> try with_reducible rfl)
        try simp only [Act.put, List.setIfInBounds_toArray, List.set_cons_zero, List.set_cons_succ]
        refine wpAnyH_take (i := 8) (oi := { dst := some 33, op := Go.Op.move (Go.Operand.tmp 6), type := 3, pos := "l15_stock.go:232", after := #[{ on := 6, ground := Go.Ground.guard }], guard := some (6, false) }) (v := ?_) rfl (by kernel_rfl) (by kernel_rfl) (by kernel_rfl) (fun _ _ _ h => h) (Or.inl ⟨by rfl, ?_⟩) (by assumption) ?_
        rotate_left
        · (intro w hSw; (try dsimp only at hSw); go_simp <;> try with_reducible rfl)
        try simp only [Act.put, List.setIfInBounds_toArray, List.set_cons_zero, List.set_cons_succ]
        refine wpAnyH_take (i := 9) (oi := { dst := some 34, op := Go.Op.indexAddr 40 (Go.Operand.tmp 32) (Go.Operand.tmp 33), type := 0, pos := "l15_stock.go:232", after := #[{ on := 7, ground := Go.Ground.data }, { on := 8, ground := Go.Ground.data }, { on := 6, ground := Go.Ground.guard }], guard := some (6, false) }) (v := ?_) rfl (by kernel_rfl) (by kernel_rfl) (by kernel_rfl) (fun _ _ _ h => h) (Or.inl ⟨by rfl, ?_⟩) (by assumption) ?_
        rotate_left
        · (intro w hSw; (try dsimp only at hSw); go_simp <;> try with_reducible rfl)
        try simp only [Act.put, List.setIfInBounds_toArray, List.set_cons_zero, List.set_cons_succ]
        refine wpAnyH_take (i := 10) (oi := { dst := some 35, op := Go.Op.load 3 (Go.Operand.tmp 34), type := 3, pos := "l15_stock.go:232", after := #[{ on := 9, ground := Go.Ground.data }, { on := 6, ground := Go.Ground.guard }], guard := some (6, false) }) (v := ?_) rfl (by kernel_rfl) (by kernel_rfl) (by kernel_rfl) (fun _ _ _ h => h) (Or.inl ⟨by rfl, ?_⟩) (by assumption) ?_
        rotate_left
        · (intro w hSw; (try dsimp only at hSw); go_simp <;> try with_reducible rfl)
        try simp only [Act.put, List.setIfInBounds_toArray, List.set_cons_zero, List.set_cons_succ]
        refine wpAnyH_take (i := 11) (oi := { dst := some 36, op := Go.Op.move (Go.Operand.tmp 0), type := 24, pos := "l15_stock.go:232", after := #[{ on := 6, ground := Go.Ground.guard }], guard := some (6, false) }) (v := ?_) rfl (by kernel_rfl) (by kernel_rfl) (by kernel_rfl) (fun _ _ _ h => h) (Or.inl ⟨by rfl, ?_⟩) (by assumption) ?_
        rotate_left
        · (intro w hSw; (try dsimp only at hSw); go_simp <;> try with_reducible rfl)
        try simp only [Act.put, List.setIfInBounds_toArray, List.set_cons_zero, List.set_cons_succ]
        refine wpAnyH_take (i := 12) (oi := { dst := some 37, op := Go.Op.move (Go.Operand.tmp 6), type := 3, pos := "l15_stock.go:232", after := #[{ on := 6, ground := Go.Ground.guard }], guard := some (6, false) }) (v := ?_) rfl (by kernel_rfl) (by kernel_rfl) (by kernel_rfl) (fun _ _ _ h => h) (Or.inl ⟨by rfl, ?_⟩) (by assumption) ?_
        rotate_left
        · (intro w hSw; (try dsimp only at hSw); go_simp <;> try with_reducible rfl)
        try simp only [Act.put, List.setIfInBounds_toArray, List.set_cons_zero, List.set_cons_succ]
        refine wpAnyH_take (i := 13) (oi := { dst := some 38, op := Go.Op.indexAddr 24 (Go.Operand.tmp 36) (Go.Operand.tmp 37), type := 0, pos := "l15_stock.go:232", after := #[{ on := 11, ground := Go.Ground.data }, { on := 12, ground := Go.Ground.data }, { on := 6, ground := Go.Ground.guard }], guard := some (6, false) }) (v := ?_) rfl (by kernel_rfl) (by kernel_rfl) (by kernel_rfl) (fun _ _ _ h => h) (Or.inl ⟨by rfl, ?_⟩) (by assumption) ?_
        rotate_left
        · (intro w hSw; (try dsimp only at hSw); go_simp <;> try with_reducible rfl)
        try simp only [Act.put, List.setIfInBounds_toArray, List.set_cons_zero, List.set_cons_succ]
        refine wpAnyH_take (i := 14) (oi := { dst := some 39, op := Go.Op.fieldAddr 28 (Go.Operand.tmp 38) 5, type := 0, pos := "l15_stock.go:232", after := #[{ on := 13, ground := Go.Ground.data }, { on := 6, ground := Go.Ground.guard }], guard := some (6, false) }) (v := ?_) rfl (by kernel_rfl) (by kernel_rfl) (by kernel_rfl) (fun _ _ _ h => h) (Or.inl ⟨by rfl, ?_⟩) (by assumption) ?_
        rotate_left
        · (intro w hSw; (try dsimp only at hSw); go_simp <;> try with_reducible rfl)
        try simp only [Act.put, List.setIfInBounds_toArray, List.set_cons_zero, List.set_cons_succ]
        refine wpAnyH_take (i := 15) (oi := { dst := some 40, op := Go.Op.load 3 (Go.Operand.tmp 39), type := 3, pos := "l15_stock.go:232", after := #[{ on := 14, ground := Go.Ground.data }, { on := 6, ground := Go.Ground.guard }], guard := some (6, false) }) (v := ?_) rfl (by kernel_rfl) (by kernel_rfl) (by kernel_rfl) (fun _ _ _ h => h) (Or.inl ⟨by rfl, ?_⟩) (by assumption) ?_
        rotate_left
        · (intro w hSw; (try dsimp only at hSw); go_simp <;> try with_reducible rfl)
        try simp only [Act.put, List.setIfInBounds_toArray, List.set_cons_zero, List.set_cons_succ]
        refine wpAnyH_take (i := 16) (oi := { dst := some 41, op := Go.Op.binOp Go.BinOp.lss 3 (Go.Operand.tmp 35) (Go.Operand.tmp 40) 3, type := 4, pos := "l15_stock.go:232", after := #[{ on := 10, ground := Go.Ground.data }, { on := 15, ground := Go.Ground.data }, { on := 6, ground := Go.Ground.guard }], guard := some (6, false) }) (v := ?_) rfl (by kernel_rfl) (by kernel_rfl) (by kernel_rfl) (fun _ _ _ h => h) (Or.inl ⟨by rfl, ?_⟩) (by assumption) ?_
        rotate_left
        · (intro w hSw; (try dsimp only at hSw); go_simp <;> try with_reducible rfl)
        try simp only [Act.put, List.setIfInBounds_toArray, List.set_cons_zero, List.set_cons_succ]
        refine wpAnyH_take (i := 17) (oi := { dst := some 42, op := Go.Op.pick (Go.Operand.tmp 31) (Go.Operand.const (Go.Value.bool true)) (Go.Operand.tmp 41), type := 4, pos := "l15_stock.go:232", after := #[{ on := 6, ground := Go.Ground.data }, { on := 16, ground := Go.Ground.data }], guard := none }) (v := ?_) rfl (by kernel_rfl) (by kernel_rfl) (by kernel_rfl) (fun _ _ _ h => h) (Or.inl ⟨by rfl, ?_⟩) (by assumption) ?_
        rotate_left
        · (intro w hSw; (try dsimp only at hSw); go_simp <;> try with_reducible rfl)
        try simp only [Act.put, List.setIfInBounds_toArray, List.set_cons_zero, List.set_cons_succ]
        refine wpAnyH_done (by kernel_rfl) ?_ _
        refine NoPanic.normal ?_
        clear hHeld
        have HV : Hid (M = 0) := hid (by rw [← HM.out]; exact ctM_no HNO.out)
        go_wp2
        go_returns
        rw [HV.out]
        first | exact ⟨_, _, rfl, .inl rfl, (HB.out.drew).alloc (HB.out.drew).size _⟩ | exact ⟨_, _, rfl, .inl rfl, (HB.out.drew)⟩
      refine wp_region_noPanic ?_
      refine wp_region_held_drew (S := fun w' => (w'.cell? ⟨kz, oz + k, none⟩ = some (.int .i64 y)) ∧ (w'.cell? ⟨kb, off + k * 6 + 5, none⟩ = some (.int .i64 hd))) (by kernel_rfl) (by exact ⟨HCP0.out.1, HCP0.out.2.2⟩) (fun hHeld => ?_)
      refine wpAnyH_take (i := 0) (oi := { dst := some 25, op := Go.Op.move (Go.Operand.tmp 1), type := 40, pos := "l15_stock.go:232", after := #[], guard := none }) (v := ?_) rfl (by kernel_rfl) (by kernel_rfl) (by kernel_rfl) (fun _ _ _ h => h) (Or.inl ⟨by rfl, ?_⟩) (by assumption) ?_
      rotate_left
      · (intro w hSw; (try dsimp only at hSw); go_simp <;> try with_reducible rfl)
      try simp only [Act.put, List.setIfInBounds_toArray, List.set_cons_zero, List.set_cons_succ]
      refine wpAnyH_take (i := 1) (oi := { dst := some 26, op := Go.Op.move (Go.Operand.tmp 6), type := 3, pos := "l15_stock.go:232", after := #[], guard := none }) (v := ?_) rfl (by kernel_rfl) (by kernel_rfl) (by kernel_rfl) (fun _ _ _ h => h) (Or.inl ⟨by rfl, ?_⟩) (by assumption) ?_
      rotate_left
      · (intro w hSw; (try dsimp only at hSw); go_simp <;> try with_reducible rfl)
      try simp only [Act.put, List.setIfInBounds_toArray, List.set_cons_zero, List.set_cons_succ]
      refine wpAnyH_take (i := 2) (oi := { dst := some 27, op := Go.Op.indexAddr 40 (Go.Operand.tmp 25) (Go.Operand.tmp 26), type := 0, pos := "l15_stock.go:232", after := #[{ on := 0, ground := Go.Ground.data }, { on := 1, ground := Go.Ground.data }], guard := none }) (v := ?_) rfl (by kernel_rfl) (by kernel_rfl) (by kernel_rfl) (fun _ _ _ h => h) (Or.inl ⟨by rfl, ?_⟩) (by assumption) ?_
      rotate_left
      · (intro w hSw; (try dsimp only at hSw); go_simp <;> try with_reducible rfl)
      try simp only [Act.put, List.setIfInBounds_toArray, List.set_cons_zero, List.set_cons_succ]
      refine wpAnyH_take (i := 3) (oi := { dst := some 28, op := Go.Op.load 3 (Go.Operand.tmp 27), type := 3, pos := "l15_stock.go:232", after := #[{ on := 2, ground := Go.Ground.data }], guard := none }) (v := ?_) rfl (by kernel_rfl) (by kernel_rfl) (by kernel_rfl) (fun _ _ _ h => h) (Or.inl ⟨by rfl, ?_⟩) (by assumption) ?_
      rotate_left
      · (intro w hSw; (try dsimp only at hSw); go_simp <;> try with_reducible rfl)
      try simp only [Act.put, List.setIfInBounds_toArray, List.set_cons_zero, List.set_cons_succ]
      refine wpAnyH_ready (rs := [4]) (by kernel_rfl) (by simp) ?_
      refine AllReadyH.cons (o := { dst := some 29, op := Go.Op.call { callee := Go.Callee.value (Go.Operand.func 67), args := #[Go.Operand.tmp 28], argTypes := #[3] }, type := 4, pos := "l15_stock.go:232", after := #[{ on := 3, ground := Go.Ground.data }], guard := none }) rfl (fun K hK => ?_) (AllReadyH.nil)
      go_simp
      refine (l12Qty_eq _ _ _ HQ.out).mono ?_
      rintro e w9 ⟨rfl, ew⟩
      replace ew := ew.symm
      subst ew
      first | refine hK.out _ _ (by exact ⟨HCP0.out.1, HCP0.out.2.2⟩) (fun hHeld => ?_) | (go_wp2_with fail; refine hK.out _ _ (by exact ⟨HCP0.out.1, HCP0.out.2.2⟩) (fun hHeld => ?_))
      clear hK K
      try simp only [Act.put, List.setIfInBounds_toArray, List.set_cons_zero, List.set_cons_succ]
      refine wpAnyH_take (i := 5) (oi := { dst := some 30, op := Go.Op.unOp Go.UnOp.not 4 (Go.Operand.tmp 29), type := 4, pos := "l15_stock.go:232", after := #[{ on := 4, ground := Go.Ground.data }], guard := none }) (v := ?_) rfl (by kernel_rfl) (by kernel_rfl) (by kernel_rfl) (fun _ _ _ h => h) (Or.inl ⟨by rfl, ?_⟩) (by assumption) ?_
      rotate_left
      · (intro w hSw; (try dsimp only at hSw); go_simp <;> try with_reducible rfl)
      try simp only [Act.put, List.setIfInBounds_toArray, List.set_cons_zero, List.set_cons_succ]
      refine wpAnyH_take (i := 6) (oi := { dst := some 31, op := Go.Op.move (Go.Operand.tmp 30), type := 4, pos := "l15_stock.go:232", after := #[{ on := 5, ground := Go.Ground.data }, { on := 4, ground := Go.Ground.chain }], guard := none }) (v := ?_) rfl (by kernel_rfl) (by kernel_rfl) (by kernel_rfl) (fun _ _ _ h => h) (Or.inl ⟨by rfl, ?_⟩) (by assumption) ?_
      rotate_left
      · (intro w hSw; (try dsimp only at hSw); go_simp <;> try with_reducible rfl)
      try simp only [Act.put, List.setIfInBounds_toArray, List.set_cons_zero, List.set_cons_succ]
      refine wpAnyH_take (i := 7) (oi := { dst := some 32, op := Go.Op.move (Go.Operand.tmp 1), type := 40, pos := "l15_stock.go:232", after := #[{ on := 6, ground := Go.Ground.guard }], guard := some (6, false) }) (v := ?_) rfl (by kernel_rfl) (by kernel_rfl) (by kernel_rfl) (fun _ _ _ h => h) (Or.inl ⟨by rfl, ?_⟩) (by assumption) ?_
      rotate_left
      · (intro w hSw; (try dsimp only at hSw); go_simp <;> try with_reducible rfl)
      try simp only [Act.put, List.setIfInBounds_toArray, List.set_cons_zero, List.set_cons_succ]
      refine wpAnyH_take (i := 8) (oi := { dst := some 33, op := Go.Op.move (Go.Operand.tmp 6), type := 3, pos := "l15_stock.go:232", after := #[{ on := 6, ground := Go.Ground.guard }], guard := some (6, false) }) (v := ?_) rfl (by kernel_rfl) (by kernel_rfl) (by kernel_rfl) (fun _ _ _ h => h) (Or.inl ⟨by rfl, ?_⟩) (by assumption) ?_
      rotate_left
      · (intro w hSw; (try dsimp only at hSw); go_simp <;> try with_reducible rfl)
      try simp only [Act.put, List.setIfInBounds_toArray, List.set_cons_zero, List.set_cons_succ]
      refine wpAnyH_take (i := 9) (oi := { dst := some 34, op := Go.Op.indexAddr 40 (Go.Operand.tmp 32) (Go.Operand.tmp 33), type := 0, pos := "l15_stock.go:232", after := #[{ on := 7, ground := Go.Ground.data }, { on := 8, ground := Go.Ground.data }, { on := 6, ground := Go.Ground.guard }], guard := some (6, false) }) (v := ?_) rfl (by kernel_rfl) (by kernel_rfl) (by kernel_rfl) (fun _ _ _ h => h) (Or.inl ⟨by rfl, ?_⟩) (by assumption) ?_
      rotate_left
      · (intro w hSw; (try dsimp only at hSw); go_simp <;> try with_reducible rfl)
      try simp only [Act.put, List.setIfInBounds_toArray, List.set_cons_zero, List.set_cons_succ]
      refine wpAnyH_take (i := 10) (oi := { dst := some 35, op := Go.Op.load 3 (Go.Operand.tmp 34), type := 3, pos := "l15_stock.go:232", after := #[{ on := 9, ground := Go.Ground.data }, { on := 6, ground := Go.Ground.guard }], guard := some (6, false) }) (v := ?_) rfl (by kernel_rfl) (by kernel_rfl) (by kernel_rfl) (fun _ _ _ h => h) (Or.inl ⟨by rfl, ?_⟩) (by assumption) ?_
      rotate_left
      · (intro w hSw; (try dsimp only at hSw); go_simp <;> try with_reducible rfl)
      try simp only [Act.put, List.setIfInBounds_toArray, List.set_cons_zero, List.set_cons_succ]
      refine wpAnyH_take (i := 11) (oi := { dst := some 36, op := Go.Op.move (Go.Operand.tmp 0), type := 24, pos := "l15_stock.go:232", after := #[{ on := 6, ground := Go.Ground.guard }], guard := some (6, false) }) (v := ?_) rfl (by kernel_rfl) (by kernel_rfl) (by kernel_rfl) (fun _ _ _ h => h) (Or.inl ⟨by rfl, ?_⟩) (by assumption) ?_
      rotate_left
      · (intro w hSw; (try dsimp only at hSw); go_simp <;> try with_reducible rfl)
      try simp only [Act.put, List.setIfInBounds_toArray, List.set_cons_zero, List.set_cons_succ]
      refine wpAnyH_take (i := 12) (oi := { dst := some 37, op := Go.Op.move (Go.Operand.tmp 6), type := 3, pos := "l15_stock.go:232", after := #[{ on := 6, ground := Go.Ground.guard }], guard := some (6, false) }) (v := ?_) rfl (by kernel_rfl) (by kernel_rfl) (by kernel_rfl) (fun _ _ _ h => h) (Or.inl ⟨by rfl, ?_⟩) (by assumption) ?_
      rotate_left
      · (intro w hSw; (try dsimp only at hSw); go_simp <;> try with_reducible rfl)
      try simp only [Act.put, List.setIfInBounds_toArray, List.set_cons_zero, List.set_cons_succ]
      refine wpAnyH_take (i := 13) (oi := { dst := some 38, op := Go.Op.indexAddr 24 (Go.Operand.tmp 36) (Go.Operand.tmp 37), type := 0, pos := "l15_stock.go:232", after := #[{ on := 11, ground := Go.Ground.data }, { on := 12, ground := Go.Ground.data }, { on := 6, ground := Go.Ground.guard }], guard := some (6, false) }) (v := ?_) rfl (by kernel_rfl) (by kernel_rfl) (by kernel_rfl) (fun _ _ _ h => h) (Or.inl ⟨by rfl, ?_⟩) (by assumption) ?_
      rotate_left
      · (intro w hSw; (try dsimp only at hSw); go_simp <;> try with_reducible rfl)
      try simp only [Act.put, List.setIfInBounds_toArray, List.set_cons_zero, List.set_cons_succ]
      refine wpAnyH_take (i := 14) (oi := { dst := some 39, op := Go.Op.fieldAddr 28 (Go.Operand.tmp 38) 5, type := 0, pos := "l15_stock.go:232", after := #[{ on := 13, ground := Go.Ground.data }, { on := 6, ground := Go.Ground.guard }], guard := some (6, false) }) (v := ?_) rfl (by kernel_rfl) (by kernel_rfl) (by kernel_rfl) (fun _ _ _ h => h) (Or.inl ⟨by rfl, ?_⟩) (by assumption) ?_
      rotate_left
      · (intro w hSw; (try dsimp only at hSw); go_simp <;> try with_reducible rfl)
      try simp only [Act.put, List.setIfInBounds_toArray, List.set_cons_zero, List.set_cons_succ]
      refine wpAnyH_take (i := 15) (oi := { dst := some 40, op := Go.Op.load 3 (Go.Operand.tmp 39), type := 3, pos := "l15_stock.go:232", after := #[{ on := 14, ground := Go.Ground.data }, { on := 6, ground := Go.Ground.guard }], guard := some (6, false) }) (v := ?_) rfl (by kernel_rfl) (by kernel_rfl) (by kernel_rfl) (fun _ _ _ h => h) (Or.inl ⟨by rfl, ?_⟩) (by assumption) ?_
      rotate_left
      · (intro w hSw; (try dsimp only at hSw); go_simp <;> try with_reducible rfl)
      try simp only [Act.put, List.setIfInBounds_toArray, List.set_cons_zero, List.set_cons_succ]
      refine wpAnyH_take (i := 16) (oi := { dst := some 41, op := Go.Op.binOp Go.BinOp.lss 3 (Go.Operand.tmp 35) (Go.Operand.tmp 40) 3, type := 4, pos := "l15_stock.go:232", after := #[{ on := 10, ground := Go.Ground.data }, { on := 15, ground := Go.Ground.data }, { on := 6, ground := Go.Ground.guard }], guard := some (6, false) }) (v := ?_) rfl (by kernel_rfl) (by kernel_rfl) (by kernel_rfl) (fun _ _ _ h => h) (Or.inl ⟨by rfl, ?_⟩) (by assumption) ?_
      rotate_left
      · (intro w hSw; (try dsimp only at hSw); go_simp <;> try with_reducible rfl)
      try simp only [Act.put, List.setIfInBounds_toArray, List.set_cons_zero, List.set_cons_succ]
      refine wpAnyH_take (i := 17) (oi := { dst := some 42, op := Go.Op.pick (Go.Operand.tmp 31) (Go.Operand.const (Go.Value.bool true)) (Go.Operand.tmp 41), type := 4, pos := "l15_stock.go:232", after := #[{ on := 6, ground := Go.Ground.data }, { on := 16, ground := Go.Ground.data }], guard := none }) (v := ?_) rfl (by kernel_rfl) (by kernel_rfl) (by kernel_rfl) (fun _ _ _ h => h) (Or.inl ⟨by rfl, ?_⟩) (by assumption) ?_
      rotate_left
      · (intro w hSw; (try dsimp only at hSw); go_simp <;> try with_reducible rfl)
      try simp only [Act.put, List.setIfInBounds_toArray, List.set_cons_zero, List.set_cons_succ]
      refine wpAnyH_done (by kernel_rfl) ?_ _
      refine NoPanic.normal ?_
      clear hHeld
      have hwp : IntKind.i64.wrap (y - qt) = y - qt := IntWalk.i64_in _ ⟨by omega, by omega⟩
      go_wp2
      have HC9 : Hid ((wr.drew.drew.cell? ⟨kz, oz + k, none⟩ = some (.int .i64 y) ∧ wr.drew.drew.cell? ⟨kb, off + k * 6 + 4, none⟩ = some (.int .i64 qt)) ∧ wr.drew.drew.ownsRow w.heap.size 3 1 (.slice adu k cu) k (intR (ctF c z) k) ∧ Below w.heap.size w wr.drew.drew ∧ (kz < wr.drew.drew.heap.size ∧ kb < wr.drew.drew.heap.size) ∧ (kz < w.heap.size ∧ kb < w.heap.size)) := hid ⟨⟨HCP0.out.1, HCP0.out.2.1⟩, HC.out, HB.out.drew.drew, ⟨by have := HB.out.size; simp; omega, by have := HB.out.size; simp; omega⟩, hkz, hkb⟩
      refine wp_region_noPanic ?_
      refine wp_region_held_drew (S := fun w' => (w'.cell? ⟨kz, oz + k, none⟩ = some (.int .i64 y)) ∧ (w'.cell? ⟨kb, off + k * 6 + 4, none⟩ = some (.int .i64 qt))) (by kernel_rfl) (by exact HC9.out.1) (fun hHeld => ?_)
      generalize wr.drew.drew = VD at HC9 hHeld ⊢
      refine wpAnyH_take (i := 0) (oi := { dst := some 44, op := Go.Op.move (Go.Operand.tmp 5), type := 40, pos := "l15_stock.go:235", after := #[], guard := none }) (v := ?_) rfl (by kernel_rfl) (by kernel_rfl) (by kernel_rfl) (fun _ _ _ h => h) (Or.inl ⟨by rfl, ?_⟩) (by assumption) ?_
      rotate_left
      · (intro w hSw; (try dsimp only at hSw); go_simp <;> try with_reducible rfl)
      try simp only [Act.put, List.setIfInBounds_toArray, List.set_cons_zero, List.set_cons_succ]
      refine wpAnyH_take (i := 1) (oi := { dst := some 45, op := Go.Op.move (Go.Operand.tmp 1), type := 40, pos := "l15_stock.go:235", after := #[], guard := none }) (v := ?_) rfl (by kernel_rfl) (by kernel_rfl) (by kernel_rfl) (fun _ _ _ h => h) (Or.inl ⟨by rfl, ?_⟩) (by assumption) ?_
      rotate_left
      · (intro w hSw; (try dsimp only at hSw); go_simp <;> try with_reducible rfl)
      try simp only [Act.put, List.setIfInBounds_toArray, List.set_cons_zero, List.set_cons_succ]
      refine wpAnyH_take (i := 2) (oi := { dst := some 46, op := Go.Op.move (Go.Operand.tmp 6), type := 3, pos := "l15_stock.go:235", after := #[], guard := none }) (v := ?_) rfl (by kernel_rfl) (by kernel_rfl) (by kernel_rfl) (fun _ _ _ h => h) (Or.inl ⟨by rfl, ?_⟩) (by assumption) ?_
      rotate_left
      · (intro w hSw; (try dsimp only at hSw); go_simp <;> try with_reducible rfl)
      try simp only [Act.put, List.setIfInBounds_toArray, List.set_cons_zero, List.set_cons_succ]
      refine wpAnyH_take (i := 3) (oi := { dst := some 47, op := Go.Op.indexAddr 40 (Go.Operand.tmp 45) (Go.Operand.tmp 46), type := 0, pos := "l15_stock.go:235", after := #[{ on := 1, ground := Go.Ground.data }, { on := 2, ground := Go.Ground.data }], guard := none }) (v := ?_) rfl (by kernel_rfl) (by kernel_rfl) (by kernel_rfl) (fun _ _ _ h => h) (Or.inl ⟨by rfl, ?_⟩) (by assumption) ?_
      rotate_left
      · (intro w hSw; (try dsimp only at hSw); go_simp <;> try with_reducible rfl)
      try simp only [Act.put, List.setIfInBounds_toArray, List.set_cons_zero, List.set_cons_succ]
      refine wpAnyH_take (i := 4) (oi := { dst := some 48, op := Go.Op.load 3 (Go.Operand.tmp 47), type := 3, pos := "l15_stock.go:235", after := #[{ on := 3, ground := Go.Ground.data }], guard := none }) (v := ?_) rfl (by kernel_rfl) (by kernel_rfl) (by kernel_rfl) (fun _ _ _ h => h) (Or.inl ⟨by rfl, ?_⟩) (by assumption) ?_
      rotate_left
      · (intro w hSw; (try dsimp only at hSw); go_simp <;> try with_reducible rfl)
      try simp only [Act.put, List.setIfInBounds_toArray, List.set_cons_zero, List.set_cons_succ]
      refine wpAnyH_take (i := 5) (oi := { dst := some 49, op := Go.Op.move (Go.Operand.tmp 0), type := 24, pos := "l15_stock.go:235", after := #[], guard := none }) (v := ?_) rfl (by kernel_rfl) (by kernel_rfl) (by kernel_rfl) (fun _ _ _ h => h) (Or.inl ⟨by rfl, ?_⟩) (by assumption) ?_
      rotate_left
      · (intro w hSw; (try dsimp only at hSw); go_simp <;> try with_reducible rfl)
      try simp only [Act.put, List.setIfInBounds_toArray, List.set_cons_zero, List.set_cons_succ]
      refine wpAnyH_take (i := 6) (oi := { dst := some 50, op := Go.Op.move (Go.Operand.tmp 6), type := 3, pos := "l15_stock.go:235", after := #[], guard := none }) (v := ?_) rfl (by kernel_rfl) (by kernel_rfl) (by kernel_rfl) (fun _ _ _ h => h) (Or.inl ⟨by rfl, ?_⟩) (by assumption) ?_
      rotate_left
      · (intro w hSw; (try dsimp only at hSw); go_simp <;> try with_reducible rfl)
      try simp only [Act.put, List.setIfInBounds_toArray, List.set_cons_zero, List.set_cons_succ]
      refine wpAnyH_take (i := 7) (oi := { dst := some 51, op := Go.Op.indexAddr 24 (Go.Operand.tmp 49) (Go.Operand.tmp 50), type := 0, pos := "l15_stock.go:235", after := #[{ on := 5, ground := Go.Ground.data }, { on := 6, ground := Go.Ground.data }], guard := none }) (v := ?_) rfl (by kernel_rfl) (by kernel_rfl) (by kernel_rfl) (fun _ _ _ h => h) (Or.inl ⟨by rfl, ?_⟩) (by assumption) ?_
      rotate_left
      · (intro w hSw; (try dsimp only at hSw); go_simp <;> try with_reducible rfl)
      try simp only [Act.put, List.setIfInBounds_toArray, List.set_cons_zero, List.set_cons_succ]
      refine wpAnyH_take (i := 8) (oi := { dst := some 52, op := Go.Op.fieldAddr 28 (Go.Operand.tmp 51) 4, type := 0, pos := "l15_stock.go:235", after := #[{ on := 7, ground := Go.Ground.data }], guard := none }) (v := ?_) rfl (by kernel_rfl) (by kernel_rfl) (by kernel_rfl) (fun _ _ _ h => h) (Or.inl ⟨by rfl, ?_⟩) (by assumption) ?_
      rotate_left
      · (intro w hSw; (try dsimp only at hSw); go_simp <;> try with_reducible rfl)
      try simp only [Act.put, List.setIfInBounds_toArray, List.set_cons_zero, List.set_cons_succ]
      refine wpAnyH_take (i := 9) (oi := { dst := some 53, op := Go.Op.load 3 (Go.Operand.tmp 52), type := 3, pos := "l15_stock.go:235", after := #[{ on := 8, ground := Go.Ground.data }], guard := none }) (v := ?_) rfl (by kernel_rfl) (by kernel_rfl) (by kernel_rfl) (fun _ _ _ h => h) (Or.inl ⟨by rfl, ?_⟩) (by assumption) ?_
      rotate_left
      · (intro w hSw; (try dsimp only at hSw); go_simp <;> try with_reducible rfl)
      try simp only [Act.put, List.setIfInBounds_toArray, List.set_cons_zero, List.set_cons_succ]
      refine wpAnyH_take (i := 10) (oi := { dst := some 54, op := Go.Op.binOp Go.BinOp.sub 3 (Go.Operand.tmp 48) (Go.Operand.tmp 53) 3, type := 3, pos := "l15_stock.go:235", after := #[{ on := 4, ground := Go.Ground.data }, { on := 9, ground := Go.Ground.data }], guard := none }) (v := ?_) rfl (by kernel_rfl) (by kernel_rfl) (by kernel_rfl) (fun _ _ _ h => h) (Or.inl ⟨by rfl, ?_⟩) (by assumption) ?_
      rotate_left
      · (intro w hSw; (try dsimp only at hSw); go_simp <;> try with_reducible rfl)
      try simp only [Act.put, List.setIfInBounds_toArray, List.set_cons_zero, List.set_cons_succ]
      refine wpAnyH_ready (rs := [11]) (by kernel_rfl) (by simp) ?_
      refine AllReadyH.cons (o := { dst := some 55, op := Go.Op.buildSlice 40 1 #[(0, Go.Operand.tmp 54)], type := 40, pos := "l15_stock.go:235", after := #[{ on := 10, ground := Go.Ground.data }], guard := none }) rfl (fun K hK => ?_) (AllReadyH.nil)
      go_simp
      have HCN : Hid (((VD.alloc (.cells #[.int .i64 (y - qt)] 3 (0, 0))).cell? ⟨kz, oz + k, none⟩ = some (.int .i64 y) ∧ (VD.alloc (.cells #[.int .i64 (y - qt)] 3 (0, 0))).cell? ⟨kb, off + k * 6 + 4, none⟩ = some (.int .i64 qt)) ∧ (VD.alloc (.cells #[.int .i64 (y - qt)] 3 (0, 0))).ownsRow w.heap.size 3 1 (.slice adu k cu) k (intR (ctF c z) k) ∧ Below w.heap.size w (VD.alloc (.cells #[.int .i64 (y - qt)] 3 (0, 0))) ∧ CB (VD.alloc (.cells #[.int .i64 (y - qt)] 3 (0, 0))) VD.heap.size #[.int .i64 (y - qt)] 3) := hid ⟨⟨keep_cell ((Below.refl _ _).alloc (Nat.le_refl _) _) HC9.out.1.1, keep_cell ((Below.refl _ _).alloc (Nat.le_refl _) _) HC9.out.1.2⟩, row_below HC9.out.2.1 ((Below.refl _ _).alloc (Nat.le_refl _) _), HC9.out.2.2.1.alloc HC9.out.2.2.1.size _, CB.new _ _⟩
      first | refine hK.out _ _ (by exact HCN.out.1) (fun hHeld => ?_) | (go_wp2_with fail; refine hK.out _ _ (by exact HCN.out.1) (fun hHeld => ?_))
      clear hK K
      try simp only [Act.put, List.setIfInBounds_toArray, List.set_cons_zero, List.set_cons_succ]
      refine wpAnyH_ready (rs := [12]) (by kernel_rfl) (by simp) ?_
      refine AllReadyH.cons (o := { dst := some 56, op := Go.Op.call { callee := Go.Callee.builtin Go.Builtin.append, args := #[Go.Operand.tmp 44, Go.Operand.tmp 55], argTypes := #[40, 40] }, type := 40, pos := "l15_stock.go:235", after := #[{ on := 0, ground := Go.Ground.data }, { on := 11, ground := Go.Ground.data }], guard := none }) rfl (fun K hK => ?_) (AllReadyH.nil)
      rw [if_pos (by rfl)]
      refine oper_append (Operand.tmp 44) (Operand.tmp 55) 40 rfl w.heap.size 3 i0 (.int .i64 0) 1 8 Try.underlying40 hi0 hz0 hz1 hz2 rfl (by decide) (.slice adu k cu) k (intR (ctF c z) k) rfl HCN.out.2.1 ⟨_, 0, none⟩ 1 1 [.int .i64 (y - qt)] rfl rfl (csrc HCN.out.2.2.2) (fun u hu => by simp at hu; subst hu; rfl) (by unfold maxLen; omega) (by omega) HCN.out.2.2.1.size ?_
      intro v9 w9 hown hgr _
      have HOW : Hid (w9.ownsRow w.heap.size 3 1 v9 (k + 1) (intR (ctF c z) (k + 1))) := hid (by simp only [intR]; unfold ctF; rw [HXX.out.1, HXX.out.2.1]; exact hown)
      obtain ⟨ad9, cu9, rfl, _, _⟩ := ownI_of HOW.out
      have HBW : Hid (Below w.heap.size w w9) := hid (egrown HCN.out.2.2.1 (Nat.le_refl _) hgr (fun r hr => (HCN.out.2.1.lt r hr).1))
      have HS9 : Hid (w9.cell? ⟨kz, oz + k, none⟩ = some (.int .i64 y) ∧ w9.cell? ⟨kb, off + k * 6 + 4, none⟩ = some (.int .i64 qt)) := hid ⟨(World.cell?_of_block (w := (VD.alloc (.cells #[.int .i64 (y - qt)] 3 (0, 0)))) (hgr.block kz (by have := HC9.out.2.2.2.1.1; simp; omega) (fun e => by have := (HCN.out.2.1.lt _ e.symm).1; have := HC9.out.2.2.2.2.1; omega))).trans HCN.out.1.1, (World.cell?_of_block (w := (VD.alloc (.cells #[.int .i64 (y - qt)] 3 (0, 0)))) (hgr.block kb (by have := HC9.out.2.2.2.1.2; simp; omega) (fun e => by have := (HCN.out.2.1.lt _ e.symm).1; have := HC9.out.2.2.2.2.2; omega))).trans HCN.out.1.2⟩
      clear hown hgr
      refine hK.out _ _ (by exact HS9.out) (fun hHeld => ?_)
      clear hK K
      try simp only [Act.put, List.setIfInBounds_toArray, List.set_cons_zero, List.set_cons_succ]
      refine wpAnyH_take (i := 13) (oi := { dst := some 5, op := Go.Op.assign (Go.Operand.tmp 56), type := 40, pos := "l15_stock.go:235", after := #[{ on := 12, ground := Go.Ground.data }, { on := 12, ground := Go.Ground.chain }, { on := 0, ground := Go.Ground.phase }, { on := 1, ground := Go.Ground.phase }, { on := 2, ground := Go.Ground.phase }, { on := 3, ground := Go.Ground.phase }, { on := 4, ground := Go.Ground.phase }, { on := 5, ground := Go.Ground.phase }, { on := 6, ground := Go.Ground.phase }, { on := 7, ground := Go.Ground.phase }, { on := 8, ground := Go.Ground.phase }, { on := 9, ground := Go.Ground.phase }, { on := 10, ground := Go.Ground.phase }, { on := 11, ground := Go.Ground.phase }, { on := 12, ground := Go.Ground.phase }], guard := none }) (v := ?_) rfl (by kernel_rfl) (by kernel_rfl) (by kernel_rfl) (fun _ _ _ h => h) (Or.inl ⟨by rfl, ?_⟩) (by assumption) ?_
      rotate_left
      · (intro w hSw; (try dsimp only at hSw); go_simp <;> try with_reducible rfl)
      try simp only [Act.put, List.setIfInBounds_toArray, List.set_cons_zero, List.set_cons_succ]
      refine wpAnyH_done (by kernel_rfl) ?_ _
      refine NoPanic.normal ?_
      clear hHeld
      go_wp2
      go_roundw
      case rel =>
        refine ⟨k + 1, ad9, cu9, by omega, by go_num, rfl, HOW.out, fun j hj => ?_, HBW.out⟩
        by_cases e : j = k
        · subst e; rw [HXX.out.1, HXX.out.2.2]; exact ⟨HQ.out, by omega⟩
        · exact HK.out j (by omega)
      case measure => simp [intOf]; omega
    · obtain rfl : k = leni := by omega
      have lkk : ¬ (k : Int) < (k : Int) := by omega
      have hMk : k = M := by rw [← HM.out]; exact (ctM_ok ⟨HSP.out, rfl, HK.out⟩).symm
      subst hMk
      obtain ⟨ad9, cu9, e9, _, ho9⟩ := ownI_of HC.out
      have HFIN : Hid (OwnI wr w.heap.size adu k (ctF c z)) := hid (by cases e9; exact ho9)
      clear e9 ho9
      go_wp2
      go_returns
      first | exact ⟨_, _, rfl, HFIN.out, HB.out⟩ | exact ⟨_, ⟨_, rfl⟩, HFIN.out, HB.out⟩
end Go.Proofs.Ytpmnnfjabppahaa
