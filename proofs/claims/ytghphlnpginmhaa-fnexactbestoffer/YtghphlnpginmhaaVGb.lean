/- The tables of rates in the program: a map by the place, each place with its rates in their order. -/
import Derived.Test.YtghphlnpginmhaaVGa
import Derived.Test.YtghphlnpginmhaaVRa
namespace Go.Proofs.Ytghphlnpginmhaa.Rt
open Go.ChangeShapes Go.WideShapes Go.ChangeAt Go.RowKit
set_option linter.unusedVariables false
set_option linter.unusedSimpArgs false
theorem oper_lookup {P : Program} {w : World} {o : Oper} {a : Act} {K : Act → World → Prop} {Q : Exit → Act → World → Prop} (m x : Operand) (t : TypeId) (hop : o.op = Op.lookup t m x false)
    (k e : TypeId) (KK : Go.Maps.Keyed P k) (hk : P.underlying k = some (.int .i64)) (ht : P.underlying t = some (.map k e)) (z : Value) (hz : (zeroValue e).run P w = .ok z w) (b n : Nat) (F : Int → Value)
    (hm : a.eval m = .map (some b)) (hown : MP P k z w b n F) (key : Int) (hx : a.eval x = .int .i64 key) (hw : (Lit.int .i64 key).wf = true) (hK : K (a.put o.dst (F key)) w) : Oper.wp P o a w K Q := by
  have hrun := hown.lookup KK hk ht hz key hw
  unfold Oper.wp
  simp [execOp, hop, hm, hx, hrun, Result.andThen]
  exact hK
theorem grow_cell {w w' : World} {row : Option Nat} {b o : Nat} {v : Value} (hg : w.grownBy w' row) (hne : some b ≠ row) (hc : w.cell? ⟨b, o, none⟩ = some v) : w'.cell? ⟨b, o, none⟩ = some v := by
  have hlt : b < w.heap.size := World.block_lt_of_cell? w ⟨b, o, none⟩ hc
  rw [World.cell?_of_block (w := w) (hg.block b hlt hne)]; exact hc
theorem bel_row {A w w5 w6 : World} {row : Option Nat} {B : Nat} (h : Below A.heap.size A w) (h5 : w.grownBy w5 row) (h6 : w5.grownBy w6 (some B)) (hl : (∀ g, row = some g → A.heap.size ≤ g) ∧ A.heap.size ≤ B) : Below A.heap.size A w6 :=
  (h.grown h5 h.size hl.1).grown h6 (Nat.le_trans h.size h5.size) (fun j hj => by cases hj; exact hl.2)
theorem tab_next {P : Program} {w : World} {B k : Nat} {F : Int → Value} {r : Nat → R4} {x : R4} (hx : r k = x) (h : GT P w B (k + 1) F (fun y => if y = x.from_ then tabL x.from_ (rl k r) ++ [x] else tabL y (rl k r))) : GT P w B (k + 1) F (fun p => tabL p (rl (k + 1) r)) := by
  have e : (fun y => if y = x.from_ then tabL x.from_ (rl k r) ++ [x] else tabL y (rl k r)) = (fun p => tabL p (rl (k + 1) r)) := by
    funext y
    rw [rl_succ, hx]
    by_cases g : y = x.from_
    · subst g; rw [if_pos rfl, tab_hit rfl]
    · rw [if_neg g, tab_miss (fun e => g e.symm)]
  rw [e] at h; exact h
theorem implRatesOk_eq (ad : Option Addr) (len cap : Nat) (r : Nat → R4) (m : Int) {v : Bool} (w : World) (h : (len : Int) ≤ 1048576) (hr : RR w ad len r) (hv : ratesB m len r = v) :
    Calls Try.prog 123 #[.slice ad len cap, .int .i64 m] w fun e w' => e = .returned (.bool v) ∧ Below w.heap.size w w' := hv ▸ implRatesOk_any ad len cap r m w h hr
theorem tables_none (ad : Option Addr) (len cap : Nat) (r : Nat → R4) (m : Int) (w : World) (h : (len : Int) ≤ 1048576) (hr : RR w ad len r) (hv : ratesB m len r = false) :
    Calls Try.prog 64 #[.slice ad len cap, .int .i64 m] w fun e w' => e = .returned (.agg #[.int .i64 0, .map none]) ∧ Below w.heap.size w w' := by
  have hB0 : Below w.heap.size w (w.alloc (.cells #[.int .i64 0, .map none] 109 (0, 0))) := (Below.refl _ _).alloc (Nat.le_refl _) _
  have hC := CB.new (w := w) #[.int .i64 0, .map none] 109
  go_enter Try.func64, Try.ntmps64
  go_wp2_with (go_at_call 123; refine (implRatesOk_eq _ _ _ r _ _ h (hr.alloc _) hv).mono ?_; rintro e w1 ⟨rfl, b1⟩; have X1 := hC.below b1 (by simp); have x0 := X1.cell 0; have x1 := X1.cell 1; have f0 := X1.fr 0; have f1 := X1.fr 1; simp at x0 x1; have HX : Hid (CB w1 w.heap.size #[.int .i64 0, .map none] 109) := X1; have HB : Hid (Below w.heap.size w w1) := bel_on hB0 b1; clear X1 b1 hr hC hB0)
  have C4 := (HX.out.set 0 (.int .i64 0)).set 1 (.map none)
  have B4 : Below w.heap.size w ((w1.setCell ⟨w.heap.size, 0, none⟩ (.int .i64 0)).setCell ⟨w.heap.size, 1, none⟩ (.map none)) := (HB.out.setCell (by simp) _).setCell (by simp) _
  revert C4 B4
  generalize ((w1.setCell ⟨w.heap.size, 0, none⟩ (.int .i64 0)).setCell ⟨w.heap.size, 1, none⟩ (.map none)) = W
  intro C4 B4
  have e0 := C4.cell 0
  have e1 := C4.cell 1
  simp at e0 e1
  clear x0 x1 f0 f1
  refine bodyPost_ret (by simp [results, Try.results64, go_sem, e0, e1]; try rfl) rfl ?_
  exact ⟨rfl, B4⟩
set_option maxRecDepth 100000 in
theorem info144 : ∃ i, Try.prog.info? 144 = some i ∧ i.zero = some (.agg #[.int .i64 0, .int .i64 0, .int .i64 0, .int .i64 0]) ∧ i.size = 4 ∧ i.bytes = 32 := by
  obtain ⟨i0, hi⟩ : ∃ i, Try.prog.info? 144 = some i := ⟨_, rfl⟩
  have hz0 : i0.zero = some (.agg #[.int .i64 0, .int .i64 0, .int .i64 0, .int .i64 0]) := by
    have : (Try.prog.info? 144).bind (·.zero) = some (.agg #[.int .i64 0, .int .i64 0, .int .i64 0, .int .i64 0]) := by kernel_rfl
    rw [hi] at this; exact this
  have hz1 : i0.size = 4 := by
    have : (Try.prog.info? 144).map (·.size) = some 4 := by kernel_rfl
    rw [hi] at this; simpa using this
  have hz2 : i0.bytes = 32 := by
    have : (Try.prog.info? 144).map (·.bytes) = some 32 := by kernel_rfl
    rw [hi] at this; simpa using this
  exact ⟨i0, hi, hz0, hz1, hz2⟩
set_option maxRecDepth 20000 in
set_option maxHeartbeats 4000000 in
theorem tables_ok (ad : Option Addr) (len cap : Nat) (r : Nat → R4) (m : Int) (w : World) (h : (len : Int) ≤ 1048576) (hr : RR w ad len r) (hv : ratesB m len r = true) :
    Calls Try.prog 64 #[.slice ad len cap, .int .i64 m] w fun e w' => ∃ (B : Nat) (F : Int → Value), e = .returned (.agg #[.int .i64 m, .map (some B)]) ∧ w.heap.size ≤ B ∧ GT Try.prog w' B len F (fun p => tabL p (rl len r)) ∧ Below w.heap.size w w' := by
  have HR : Hid (RR w ad len r) := hr
  have hC := CB.new (w := w) #[.int .i64 0, .map none] 109
  have hP := ratesB_iff.1 hv
  have hl4 : len ≤ 400 := hP.2.1
  have HP : Hid (ratesP m len r) := hP
  obtain ⟨i0, hi, hz0, hz1, hz2⟩ := info144
  have hmm := @run_makeMap Try.prog
  clear hr hP
  go_enter Try.func64, Try.ntmps64
  go_wp2_with (go_at_call 123; refine (implRatesOk_eq _ _ _ r _ _ h (HR.out.alloc _) hv).mono ?_; rintro e w1 ⟨rfl, b1⟩; have HB1 : Hid (Below (w.alloc (.cells #[.int .i64 0, .map none] 109 (0, 0))).heap.size (w.alloc (.cells #[.int .i64 0, .map none] 109 (0, 0))) w1) := b1; clear b1)
  have hsz0 : (w.alloc (.cells #[.int .i64 0, .map none] 109 (0, 0))).heap.size = w.heap.size + 1 := by simp
  have hsz1 : w.heap.size + 1 ≤ w1.heap.size := by have := HB1.out.size; rw [hsz0] at this; exact this
  go_loopw [16] (fun i wr => ∃ (k : Nat) (F : Int → Value), k ≤ len ∧ i = .int .i64 (k : Int) ∧ GT Try.prog wr w1.heap.size k F (fun p => tabL p (rl k r)) ∧ Below (w.alloc (.cells #[.int .i64 0, .map none] 109 (0, 0))).heap.size (w.alloc (.cells #[.int .i64 0, .map none] 109 (0, 0))) wr) (fun i _ => len - (intOf i).toNat)
  case atStart => exact ⟨0, fun _ => nilS, Nat.zero_le _, rfl, GT.made _ _, HB1.out.alloc HB1.out.size _⟩
  case round =>
    obtain ⟨k, F, hk, rfl, hG, hB⟩ := hrel
    by_cases hlt : k < len
    · obtain ⟨kb, off, rfl, _⟩ := HR.out.addr (by omega)
      have RC := (HR.out.alloc (.cells #[.int .i64 0, .map none] 109 (0, 0))).below hB
      obtain ⟨xd, xf, xn, xe, hx⟩ : ∃ a b c d, r k = ⟨a, b, c, d⟩ := ⟨_, _, _, _, rfl⟩
      obtain ⟨c1, c2, c3, c4⟩ := RC.cell hlt
      rw [hx] at c1 c2 c3 c4
      simp only at c1 c2 c3 c4
      have HX : Hid (r k = ⟨xd, xf, xn, xe⟩) := hx
      have hxf : (Lit.int .i64 xf).wf = true := by
        have g := (HP.out.2.2 k hlt).1
        have hm := inB_iff.1 HP.out.1
        rw [hx] at g; unfold rB at g; simp at g
        have g2 := g.1.1.2
        exact WalkArith.wf_i64 (by omega)
      have G1 : GT Try.prog (wr.alloc (.cells #[.int .i64 xd, .int .i64 xf, .int .i64 xn, .int .i64 xe] 144 (0, 0))).drew w1.heap.size k F (fun p => tabL p (rl k r)) := (hG.alloc _).drew
      have G2 : GT Try.prog ((wr.alloc (.cells #[.int .i64 xd, .int .i64 xf, .int .i64 xn, .int .i64 xe] 144 (0, 0))).alloc (.cells #[.int .i64 xd, .int .i64 xf, .int .i64 xn, .int .i64 xe] 144 (0, 0))).drew w1.heap.size k F (fun p => tabL p (rl k r)) := ((hG.alloc _).alloc _).drew
      have hBz : Below (w.alloc (.cells #[.int .i64 0, .map none] 109 (0, 0))).heap.size (w.alloc (.cells #[.int .i64 0, .map none] 109 (0, 0))) ((wr.alloc (.cells #[.int .i64 xd, .int .i64 xf, .int .i64 xn, .int .i64 xe] 144 (0, 0))).alloc (.cells #[.int .i64 xd, .int .i64 xf, .int .i64 xn, .int .i64 xe] 144 (0, 0))).drew := ((hB.alloc hB.size _).alloc (by simp; have := hB.size; simp at this; omega) _).drew
      have hsz : (wr.alloc (.cells #[.int .i64 xd, .int .i64 xf, .int .i64 xn, .int .i64 xe] 144 (0, 0))).heap.size = wr.heap.size + 1 := by simp
      have hN4 : ∀ j u, (R4.cells ⟨xd, xf, xn, xe⟩)[j]? = some u → ((wr.alloc (.cells #[.int .i64 xd, .int .i64 xf, .int .i64 xn, .int .i64 xe] 144 (0, 0))).alloc (.cells #[.int .i64 xd, .int .i64 xf, .int .i64 xn, .int .i64 xe] 144 (0, 0))).drew.cell? ((⟨wr.heap.size + 1, 0, none⟩ : Addr).add j) = some u := fun j u hj => by
        have := four_new (wr.alloc (.cells #[.int .i64 xd, .int .i64 xf, .int .i64 xn, .int .i64 xe] 144 (0, 0))) ⟨xd, xf, xn, xe⟩ 144 j u hj
        rw [hsz] at this
        exact this
      have hk4 : k ≤ 400 := by omega
      have hmx : (tabL xf (rl k r)).length + 1 ≤ maxLen := by have := tab_length xf (rl k r); rw [rl_length] at this; unfold maxLen; omega
      have hmx2 : (tabL xf (rl k r)).length ≤ 400 := by have := tab_length xf (rl k r); rw [rl_length] at this; omega
      have hBlt : w1.heap.size < wr.heap.size := hG.1.lt
      have hbs : w1.heap.size + 1 ≤ ((wr.alloc (.cells #[.int .i64 xd, .int .i64 xf, .int .i64 xn, .int .i64 xe] 144 (0, 0))).alloc (.cells #[.int .i64 xd, .int .i64 xf, .int .i64 xn, .int .i64 xe] 144 (0, 0))).drew.heap.size := by show _ ≤ ((wr.alloc (.cells #[.int .i64 xd, .int .i64 xf, .int .i64 xn, .int .i64 xe] 144 (0, 0))).alloc (.cells #[.int .i64 xd, .int .i64 xf, .int .i64 xn, .int .i64 xe] 144 (0, 0))).heap.size; simp; omega
      have hown := fun g e => (hG.2.1 xf).lt g e
      have hneB : some w1.heap.size ≠ (F xf).ownBlock := fun e => by have := (hown _ e.symm).1; omega
      have hne1 : some wr.heap.size ≠ (F xf).ownBlock := fun e => by have := (hown _ e.symm).2; omega
      have hneB1 : some wr.heap.size ≠ some w1.heap.size := fun e => by simp only [Option.some.injEq] at e; omega
      have hlow : (∀ g, (F xf).ownBlock = some g → (w.alloc (.cells #[.int .i64 0, .map none] 109 (0, 0))).heap.size ≤ g) ∧ (w.alloc (.cells #[.int .i64 0, .map none] 109 (0, 0))).heap.size ≤ w1.heap.size := ⟨fun g e => by have := (hown g e).1; rw [hsz0]; omega, by rw [hsz0]; omega⟩
      have hC1 := CB.new (w := wr) #[.int .i64 xd, .int .i64 xf, .int .i64 xn, .int .i64 xe] 144
      have z0 : (wr.alloc (.cells #[.int .i64 xd, .int .i64 xf, .int .i64 xn, .int .i64 xe] 144 (0, 0))).drew.cell? ⟨wr.heap.size, 0, none⟩ = some (.int .i64 xd) := (hC1.cell 0).trans rfl
      have z1 : (wr.alloc (.cells #[.int .i64 xd, .int .i64 xf, .int .i64 xn, .int .i64 xe] 144 (0, 0))).drew.cell? ⟨wr.heap.size, 1, none⟩ = some (.int .i64 xf) := (hC1.cell 1).trans rfl
      have z2 : (wr.alloc (.cells #[.int .i64 xd, .int .i64 xf, .int .i64 xn, .int .i64 xe] 144 (0, 0))).drew.cell? ⟨wr.heap.size, 2, none⟩ = some (.int .i64 xn) := (hC1.cell 2).trans rfl
      have z3 : (wr.alloc (.cells #[.int .i64 xd, .int .i64 xf, .int .i64 xn, .int .i64 xe] 144 (0, 0))).drew.cell? ⟨wr.heap.size, 3, none⟩ = some (.int .i64 xe) := (hC1.cell 3).trans rfl
      have k0 : ((wr.alloc (.cells #[.int .i64 xd, .int .i64 xf, .int .i64 xn, .int .i64 xe] 144 (0, 0))).alloc (.cells #[.int .i64 xd, .int .i64 xf, .int .i64 xn, .int .i64 xe] 144 (0, 0))).drew.cell? ⟨wr.heap.size, 0, none⟩ = some (.int .i64 xd) := ((hC1.alloc (.cells #[.int .i64 xd, .int .i64 xf, .int .i64 xn, .int .i64 xe] 144 (0, 0))).cell 0).trans rfl
      have k1 : ((wr.alloc (.cells #[.int .i64 xd, .int .i64 xf, .int .i64 xn, .int .i64 xe] 144 (0, 0))).alloc (.cells #[.int .i64 xd, .int .i64 xf, .int .i64 xn, .int .i64 xe] 144 (0, 0))).drew.cell? ⟨wr.heap.size, 1, none⟩ = some (.int .i64 xf) := ((hC1.alloc (.cells #[.int .i64 xd, .int .i64 xf, .int .i64 xn, .int .i64 xe] 144 (0, 0))).cell 1).trans rfl
      have k2 : ((wr.alloc (.cells #[.int .i64 xd, .int .i64 xf, .int .i64 xn, .int .i64 xe] 144 (0, 0))).alloc (.cells #[.int .i64 xd, .int .i64 xf, .int .i64 xn, .int .i64 xe] 144 (0, 0))).drew.cell? ⟨wr.heap.size, 2, none⟩ = some (.int .i64 xn) := ((hC1.alloc (.cells #[.int .i64 xd, .int .i64 xf, .int .i64 xn, .int .i64 xe] 144 (0, 0))).cell 2).trans rfl
      have k3 : ((wr.alloc (.cells #[.int .i64 xd, .int .i64 xf, .int .i64 xn, .int .i64 xe] 144 (0, 0))).alloc (.cells #[.int .i64 xd, .int .i64 xf, .int .i64 xn, .int .i64 xe] 144 (0, 0))).drew.cell? ⟨wr.heap.size, 3, none⟩ = some (.int .i64 xe) := ((hC1.alloc (.cells #[.int .i64 xd, .int .i64 xf, .int .i64 xn, .int .i64 xe] 144 (0, 0))).cell 3).trans rfl
      clear hx hC1 RC hB hG
      go_wp2
      refine wp_region_noPanic ?_
      refine wp_region_held_drew (S := fun w' => w'.cell? ⟨wr.heap.size, 0, none⟩ = some (.int .i64 xd) ∧ w'.cell? ⟨wr.heap.size, 1, none⟩ = some (.int .i64 xf) ∧ w'.cell? ⟨wr.heap.size, 2, none⟩ = some (.int .i64 xn) ∧ w'.cell? ⟨wr.heap.size, 3, none⟩ = some (.int .i64 xe)) (by kernel_rfl) ?_ (fun hHeld => ?_)
      · exact ⟨z0, z1, z2, z3⟩
      refine wpAnyH_take (i := 0) (oi := { dst := some 20, op := Go.Op.move (Go.Operand.tmp 5), type := 107, pos := "l03_rates.go:86", after := #[], guard := none }) (v := ?_) rfl (by kernel_rfl) (by kernel_rfl) (by kernel_rfl) (fun _ _ _ h => h) (Or.inl ⟨by rfl, ?_⟩) (by assumption) ?_
      rotate_left
      · (intro w hSw; (try dsimp only at hSw); go_simp <;> try with_reducible rfl)
      try simp only [Act.put, List.setIfInBounds_toArray, List.set_cons_zero, List.set_cons_succ]
      refine wpAnyH_take (i := 1) (oi := { dst := some 21, op := Go.Op.fieldAddr 144 (Go.Operand.tmp 7) 1, type := 0, pos := "l03_rates.go:86", after := #[], guard := none }) (v := ?_) rfl (by kernel_rfl) (by kernel_rfl) (by kernel_rfl) (fun _ _ _ h => h) (Or.inl ⟨by rfl, ?_⟩) (by assumption) ?_
      rotate_left
      · (intro w hSw; (try dsimp only at hSw); go_simp <;> try with_reducible rfl)
      try simp only [Act.put, List.setIfInBounds_toArray, List.set_cons_zero, List.set_cons_succ]
      refine wpAnyH_take (i := 2) (oi := { dst := some 22, op := Go.Op.load 3 (Go.Operand.tmp 21), type := 3, pos := "l03_rates.go:86", after := #[{ on := 1, ground := Go.Ground.data }], guard := none }) (v := ?_) rfl (by kernel_rfl) (by kernel_rfl) (by kernel_rfl) (fun _ _ _ h => h) (Or.inl ⟨by rfl, ?_⟩) (by assumption) ?_
      rotate_left
      · (intro w hSw; (try dsimp only at hSw); go_simp <;> try with_reducible rfl)
      try simp only [Act.put, List.setIfInBounds_toArray, List.set_cons_zero, List.set_cons_succ]
      refine wpAnyH_take (i := 3) (oi := { dst := some 23, op := Go.Op.move (Go.Operand.tmp 5), type := 107, pos := "l03_rates.go:86", after := #[], guard := none }) (v := ?_) rfl (by kernel_rfl) (by kernel_rfl) (by kernel_rfl) (fun _ _ _ h => h) (Or.inl ⟨by rfl, ?_⟩) (by assumption) ?_
      rotate_left
      · (intro w hSw; (try dsimp only at hSw); go_simp <;> try with_reducible rfl)
      try simp only [Act.put, List.setIfInBounds_toArray, List.set_cons_zero, List.set_cons_succ]
      refine wpAnyH_take (i := 4) (oi := { dst := some 24, op := Go.Op.fieldAddr 144 (Go.Operand.tmp 7) 1, type := 0, pos := "l03_rates.go:86", after := #[], guard := none }) (v := ?_) rfl (by kernel_rfl) (by kernel_rfl) (by kernel_rfl) (fun _ _ _ h => h) (Or.inl ⟨by rfl, ?_⟩) (by assumption) ?_
      rotate_left
      · (intro w hSw; (try dsimp only at hSw); go_simp <;> try with_reducible rfl)
      try simp only [Act.put, List.setIfInBounds_toArray, List.set_cons_zero, List.set_cons_succ]
      refine wpAnyH_take (i := 5) (oi := { dst := some 25, op := Go.Op.load 3 (Go.Operand.tmp 24), type := 3, pos := "l03_rates.go:86", after := #[{ on := 4, ground := Go.Ground.data }], guard := none }) (v := ?_) rfl (by kernel_rfl) (by kernel_rfl) (by kernel_rfl) (fun _ _ _ h => h) (Or.inl ⟨by rfl, ?_⟩) (by assumption) ?_
      rotate_left
      · (intro w hSw; (try dsimp only at hSw); go_simp <;> try with_reducible rfl)
      try simp only [Act.put, List.setIfInBounds_toArray, List.set_cons_zero, List.set_cons_succ]
      refine wpAnyH_take (i := 7) (oi := { dst := some 27, op := Go.Op.load 144 (Go.Operand.tmp 7), type := 144, pos := "l03_rates.go:86", after := #[], guard := none }) (v := ?_) rfl (by kernel_rfl) (by kernel_rfl) (by kernel_rfl) (fun _ _ _ h => h) (Or.inl ⟨by rfl, ?_⟩) (by assumption) ?_
      rotate_left
      · (intro w hSw; (try dsimp only at hSw); go_simp <;> try with_reducible rfl)
      try simp only [Act.put, List.setIfInBounds_toArray, List.set_cons_zero, List.set_cons_succ]
      refine wpAnyH_ready (rs := [6, 8]) (by kernel_rfl) (by simp) ?_
      refine AllReadyH.cons (o := { dst := some 26, op := Go.Op.lookup 107 (Go.Operand.tmp 23) (Go.Operand.tmp 25) false, type := 25, pos := "l03_rates.go:86", after := #[{ on := 3, ground := Go.Ground.data }, { on := 5, ground := Go.Ground.data }], guard := none }) rfl (fun K hK => ?_) (AllReadyH.cons (o := { dst := some 28, op := Go.Op.buildSlice 25 1 #[(0, Go.Operand.tmp 27)], type := 25, pos := "l03_rates.go:86", after := #[{ on := 7, ground := Go.Ground.data }], guard := none }) rfl (fun K hK => ?_) AllReadyH.nil)
      · rw [if_pos (by rfl)]
        refine oper_lookup (Operand.tmp 23) (Operand.tmp 25) 107 rfl 3 25 key3 Try.underlying3 Try.underlying107 nilS (zero25 _) w1.heap.size k F rfl G1.1 xf rfl hxf ?_
        refine hK.out _ _ (by exact hHeld) (fun hHeld => ?_)
        clear hK K
        try simp only [Act.put, List.setIfInBounds_toArray, List.set_cons_zero, List.set_cons_succ]
        refine wpAnyH_ready (rs := [8]) (by kernel_rfl) (by simp) ?_
        refine AllReadyH.cons (o := { dst := some 28, op := Go.Op.buildSlice 25 1 #[(0, Go.Operand.tmp 27)], type := 25, pos := "l03_rates.go:86", after := #[{ on := 7, ground := Go.Ground.data }], guard := none }) rfl (fun K hK => ?_) AllReadyH.nil
        go_simp
        refine hK.out _ _ ?_ (fun hHeld => ?_)
        · exact ⟨k0, k1, k2, k3⟩
        clear hK K
        try simp only [Act.put, List.setIfInBounds_toArray, List.set_cons_zero, List.set_cons_succ]
        refine wpAnyH_ready (rs := [9]) (by kernel_rfl) (by simp) ?_
        refine AllReadyH.cons (o := { dst := some 29, op := Go.Op.call { callee := Go.Callee.builtin Go.Builtin.append, args := #[Go.Operand.tmp 26, Go.Operand.tmp 28], argTypes := #[25, 25] }, type := 25, pos := "l03_rates.go:86", after := #[{ on := 6, ground := Go.Ground.data }, { on := 8, ground := Go.Ground.data }], guard := none }) rfl (fun K hK => ?_) AllReadyH.nil
        rw [if_pos (by rfl)]
        refine oper_append (Operand.tmp 26) (Operand.tmp 28) 25 rfl (w1.heap.size + 1) 144 i0 (.agg #[.int .i64 0, .int .i64 0, .int .i64 0, .int .i64 0]) 4 32 Try.underlying25 hi hz0 hz1 hz2 rfl (by decide) (F xf) (tabL xf (rl k r)).length (flatR (tabL xf (rl k r))) rfl (G2.2.1 xf) ⟨wr.heap.size + 1, 0, none⟩ 1 1 (R4.cells ⟨xd, xf, xn, xe⟩) rfl rfl hN4 (four_one ⟨xd, xf, xn, xe⟩) hmx (by omega) hbs ?_
        intro v' w5 hown5 hgrow5 hloc5
        have M5 : MP Try.prog 3 nilS w5 w1.heap.size k F := MP.kept G2.1 hgrow5 hneB
        have q0 : w5.cell? ⟨wr.heap.size, 0, none⟩ = some (.int .i64 xd) := grow_cell hgrow5 hne1 k0
        have q1 : w5.cell? ⟨wr.heap.size, 1, none⟩ = some (.int .i64 xf) := grow_cell hgrow5 hne1 k1
        have q2 : w5.cell? ⟨wr.heap.size, 2, none⟩ = some (.int .i64 xn) := grow_cell hgrow5 hne1 k2
        have q3 : w5.cell? ⟨wr.heap.size, 3, none⟩ = some (.int .i64 xe) := grow_cell hgrow5 hne1 k3
        refine hK.out _ _ ⟨q0, q1, q2, q3⟩ (fun hHeld => ?_)
        clear hK K
        try simp only [Act.put, List.setIfInBounds_toArray, List.set_cons_zero, List.set_cons_succ]
        refine wpAnyH_ready (rs := [10]) (by kernel_rfl) (by simp) ?_
        refine AllReadyH.cons (o := { dst := none, op := Go.Op.mapUpdate 107 (Go.Operand.tmp 20) (Go.Operand.tmp 22) (Go.Operand.tmp 29), type := 0, pos := "l03_rates.go:86", after := #[{ on := 0, ground := Go.Ground.data }, { on := 2, ground := Go.Ground.data }, { on := 9, ground := Go.Ground.data }, { on := 9, ground := Go.Ground.chain }, { on := 0, ground := Go.Ground.phase }, { on := 1, ground := Go.Ground.phase }, { on := 2, ground := Go.Ground.phase }, { on := 3, ground := Go.Ground.phase }, { on := 4, ground := Go.Ground.phase }, { on := 5, ground := Go.Ground.phase }, { on := 6, ground := Go.Ground.phase }, { on := 7, ground := Go.Ground.phase }, { on := 8, ground := Go.Ground.phase }, { on := 9, ground := Go.Ground.phase }], guard := none }) rfl (fun K hK => ?_) AllReadyH.nil
        rw [if_pos (by rfl)]
        refine oper_update (Operand.tmp 20) (Operand.tmp 22) (Operand.tmp 29) 107 rfl 3 25 key3 Try.underlying3 Try.underlying107 nilS w1.heap.size k F rfl M5 (by unfold maxLen; omega) xf v' rfl rfl hxf ?_
        intro w6 M6 hgrow6
        have G6 := GT.put G2 hgrow5 (by rw [flatR_snoc]; exact hown5) hloc5 M6 hgrow6
        refine hK.out _ _ ⟨grow_cell hgrow6 hneB1 q0, grow_cell hgrow6 hneB1 q1, grow_cell hgrow6 hneB1 q2, grow_cell hgrow6 hneB1 q3⟩ (fun hHeld => ?_)
        clear hK K
        try simp only [Act.put, List.setIfInBounds_toArray, List.set_cons_zero, List.set_cons_succ]
        refine wpAnyH_done (by kernel_rfl) ?_ _
        refine NoPanic.normal ?_
        have B6 := bel_row hBz hgrow5 hgrow6 hlow
        go_wp2
        go_roundw
        case rel => exact ⟨k + 1, _, by omega, by go_num, tab_next HX.out G6, B6⟩
        case measure => simp [intOf]; omega
      · go_simp
        refine hK.out _ _ ?_ (fun hHeld => ?_)
        · exact ⟨k0, k1, k2, k3⟩
        clear hK K
        try simp only [Act.put, List.setIfInBounds_toArray, List.set_cons_zero, List.set_cons_succ]
        refine wpAnyH_ready (rs := [6]) (by kernel_rfl) (by simp) ?_
        refine AllReadyH.cons (o := { dst := some 26, op := Go.Op.lookup 107 (Go.Operand.tmp 23) (Go.Operand.tmp 25) false, type := 25, pos := "l03_rates.go:86", after := #[{ on := 3, ground := Go.Ground.data }, { on := 5, ground := Go.Ground.data }], guard := none }) rfl (fun K hK => ?_) AllReadyH.nil
        rw [if_pos (by rfl)]
        refine oper_lookup (Operand.tmp 23) (Operand.tmp 25) 107 rfl 3 25 key3 Try.underlying3 Try.underlying107 nilS (zero25 _) w1.heap.size k F rfl G2.1 xf rfl hxf ?_
        refine hK.out _ _ (by exact hHeld) (fun hHeld => ?_)
        clear hK K
        try simp only [Act.put, List.setIfInBounds_toArray, List.set_cons_zero, List.set_cons_succ]
        refine wpAnyH_ready (rs := [9]) (by kernel_rfl) (by simp) ?_
        refine AllReadyH.cons (o := { dst := some 29, op := Go.Op.call { callee := Go.Callee.builtin Go.Builtin.append, args := #[Go.Operand.tmp 26, Go.Operand.tmp 28], argTypes := #[25, 25] }, type := 25, pos := "l03_rates.go:86", after := #[{ on := 6, ground := Go.Ground.data }, { on := 8, ground := Go.Ground.data }], guard := none }) rfl (fun K hK => ?_) AllReadyH.nil
        rw [if_pos (by rfl)]
        refine oper_append (Operand.tmp 26) (Operand.tmp 28) 25 rfl (w1.heap.size + 1) 144 i0 (.agg #[.int .i64 0, .int .i64 0, .int .i64 0, .int .i64 0]) 4 32 Try.underlying25 hi hz0 hz1 hz2 rfl (by decide) (F xf) (tabL xf (rl k r)).length (flatR (tabL xf (rl k r))) rfl (G2.2.1 xf) ⟨wr.heap.size + 1, 0, none⟩ 1 1 (R4.cells ⟨xd, xf, xn, xe⟩) rfl rfl hN4 (four_one ⟨xd, xf, xn, xe⟩) hmx (by omega) hbs ?_
        intro v' w5 hown5 hgrow5 hloc5
        have M5 : MP Try.prog 3 nilS w5 w1.heap.size k F := MP.kept G2.1 hgrow5 hneB
        have q0 : w5.cell? ⟨wr.heap.size, 0, none⟩ = some (.int .i64 xd) := grow_cell hgrow5 hne1 k0
        have q1 : w5.cell? ⟨wr.heap.size, 1, none⟩ = some (.int .i64 xf) := grow_cell hgrow5 hne1 k1
        have q2 : w5.cell? ⟨wr.heap.size, 2, none⟩ = some (.int .i64 xn) := grow_cell hgrow5 hne1 k2
        have q3 : w5.cell? ⟨wr.heap.size, 3, none⟩ = some (.int .i64 xe) := grow_cell hgrow5 hne1 k3
        refine hK.out _ _ ⟨q0, q1, q2, q3⟩ (fun hHeld => ?_)
        clear hK K
        try simp only [Act.put, List.setIfInBounds_toArray, List.set_cons_zero, List.set_cons_succ]
        refine wpAnyH_ready (rs := [10]) (by kernel_rfl) (by simp) ?_
        refine AllReadyH.cons (o := { dst := none, op := Go.Op.mapUpdate 107 (Go.Operand.tmp 20) (Go.Operand.tmp 22) (Go.Operand.tmp 29), type := 0, pos := "l03_rates.go:86", after := #[{ on := 0, ground := Go.Ground.data }, { on := 2, ground := Go.Ground.data }, { on := 9, ground := Go.Ground.data }, { on := 9, ground := Go.Ground.chain }, { on := 0, ground := Go.Ground.phase }, { on := 1, ground := Go.Ground.phase }, { on := 2, ground := Go.Ground.phase }, { on := 3, ground := Go.Ground.phase }, { on := 4, ground := Go.Ground.phase }, { on := 5, ground := Go.Ground.phase }, { on := 6, ground := Go.Ground.phase }, { on := 7, ground := Go.Ground.phase }, { on := 8, ground := Go.Ground.phase }, { on := 9, ground := Go.Ground.phase }], guard := none }) rfl (fun K hK => ?_) AllReadyH.nil
        rw [if_pos (by rfl)]
        refine oper_update (Operand.tmp 20) (Operand.tmp 22) (Operand.tmp 29) 107 rfl 3 25 key3 Try.underlying3 Try.underlying107 nilS w1.heap.size k F rfl M5 (by unfold maxLen; omega) xf v' rfl rfl hxf ?_
        intro w6 M6 hgrow6
        have G6 := GT.put G2 hgrow5 (by rw [flatR_snoc]; exact hown5) hloc5 M6 hgrow6
        refine hK.out _ _ ⟨grow_cell hgrow6 hneB1 q0, grow_cell hgrow6 hneB1 q1, grow_cell hgrow6 hneB1 q2, grow_cell hgrow6 hneB1 q3⟩ (fun hHeld => ?_)
        clear hK K
        try simp only [Act.put, List.setIfInBounds_toArray, List.set_cons_zero, List.set_cons_succ]
        refine wpAnyH_done (by kernel_rfl) ?_ _
        refine NoPanic.normal ?_
        have B6 := bel_row hBz hgrow5 hgrow6 hlow
        go_wp2
        go_roundw
        case rel => exact ⟨k + 1, _, by omega, by go_num, tab_next HX.out G6, B6⟩
        case measure => simp [intOf]; omega
    · obtain rfl : k = len := by omega
      have X1 : CB wr w.heap.size #[.int .i64 0, .map none] 109 := hC.below hB (by simp)
      have x0 := X1.cell 0
      have x1 := X1.cell 1
      have f0 := X1.fr 0
      have f1 := X1.fr 1
      simp at x0 x1
      have HC : Hid (CB wr w.heap.size #[.int .i64 0, .map none] 109) := X1
      have HB : Hid (Below w.heap.size w wr) := bel_on ((Below.refl _ _).alloc (Nat.le_refl _) _) hB
      have HG : Hid (GT Try.prog wr w1.heap.size k F (fun p => tabL p (rl k r))) := hG
      clear X1 hB hG hC
      go_wp2
      have C4 := (HC.out.set 0 (.int .i64 m)).set 1 (.map (some w1.heap.size))
      have B4 : Below w.heap.size w ((wr.setCell ⟨w.heap.size, 0, none⟩ (.int .i64 m)).setCell ⟨w.heap.size, 1, none⟩ (.map (some w1.heap.size))) := (HB.out.setCell (by simp) _).setCell (by simp) _
      have G4 : GT Try.prog ((wr.setCell ⟨w.heap.size, 0, none⟩ (.int .i64 m)).setCell ⟨w.heap.size, 1, none⟩ (.map (some w1.heap.size))) w1.heap.size k F (fun p => tabL p (rl k r)) := (HG.out.setCell (by omega) _ _).setCell (by omega) _ _
      revert C4 B4 G4
      generalize ((wr.setCell ⟨w.heap.size, 0, none⟩ (.int .i64 m)).setCell ⟨w.heap.size, 1, none⟩ (.map (some w1.heap.size))) = W
      intro C4 B4 G4
      have e0 := C4.cell 0
      have e1 := C4.cell 1
      simp at e0 e1
      clear x0 x1 f0 f1
      refine bodyPost_ret (by simp [results, Try.results64, go_sem, e0, e1]; try rfl) rfl ?_
      exact ⟨w1.heap.size, F, rfl, by omega, G4, B4⟩
end Go.Proofs.Ytghphlnpginmhaa.Rt
