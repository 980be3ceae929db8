/- Frames: the laws' functions over them, the model's FrameOk, the program's frame that is laid out, and its FrameOk. -/
import Derived.Test.YtapailihjlfkgaaDoorLt
import Derived.Test.YtapailihjlfkgaaDoorSl
import Derived.Test.YtapailihjlfkgaaDoorCq
import Derived.Test.YtapailihjlfkgaaDoorTi
namespace Go.Proofs.YtapailihjlfkgaaDoor
open Go.ChangeShapes Go.WideShapes Go.ChangeAt Go.RowKit
set_option linter.unusedVariables false
set_option linter.unusedSimpArgs false

noncomputable def frB (len : Nat) (c : Nat → C3) (d u : Int) : Bool := chartB len c && (inB d 1 20 && inB u 1 20)

theorem szFrame_any (fa : Option Addr) (len cap : Nat) (c : Nat → C3) (d u : Int) (w : World) (hl : (len : Int) ≤ 9223372036854775807) (hc : ∀ j, ((c j).code.size : Int) ≤ 9223372036854775807) (hr : CR w fa len c) :
    Calls Tryd.prog 46 #[.agg #[.slice fa len cap, .int .i64 d, .int .i64 u], .int .i64 1048576] w fun e w' => ∃ v : Int, e = .returned (.int .i64 v) ∧ (v = -1 ∨ (0 ≤ v ∧ v ≤ 1048576 ∧ (len : Int) ≤ 1048576)) ∧ Below w.heap.size w w' := by
  have HR : Hid (CR w fa len c) := hr
  have HC : Hid (∀ j, ((c j).code.size : Int) ≤ 9223372036854775807) := hc
  clear hr hc
  go_enter Tryd.func46, Tryd.ntmps46
  go_wp2_with (go_at_call 83; refine (szCurS_any _ _ _ c _ hl HC.out (HR.out.alloc _)).mono ?_; rintro e w1 ⟨v, rfl, hv, b1⟩; have HB : Hid (Below w.heap.size w w1) := bel_on ((Below.refl _ _).alloc (Nat.le_refl _) _) b1; clear b1; rcases hv with rfl | ⟨hv, hv2, hv3⟩)
  · go_returns
    exact ⟨-1, rfl, .inl rfl, HB.out⟩
  · go_returns
    exact ⟨v, rfl, .inr ⟨hv, hv2, hv3⟩, HB.out⟩

theorem CR.other' {w : World} {k off len : Nat} {c : Nat → C3} (H : CR w (some ⟨k, off, none⟩) len c) {c' o : Nat} (u : Value) (h : k ≠ c') : CR (w.setCell ⟨c', o, none⟩ u) (some ⟨k, off, none⟩) len c := by
  rcases H with h' | ⟨k', off', e, hk, hc⟩
  · exact .inl h'
  · simp only [Option.some.injEq, Addr.mk.injEq] at e
    obtain ⟨rfl, rfl, _⟩ := e
    exact .inr ⟨k, off, rfl, by simpa using hk, fun j hj => (hc j hj).block (Below.heap_setCell _ _ _ _ (by simpa using h))⟩

set_option maxRecDepth 20000 in
set_option maxHeartbeats 1000000 in
theorem toFrame_any (fa : Option Addr) (len cap : Nat) (c : Nat → C3) (d u : Int) (w : World) (h : (len : Int) ≤ 1048576) (hr : CR w fa len c) :
    Calls Tryd.prog 49 #[.agg #[.slice fa len cap, .int .i64 d, .int .i64 u]] w fun e w' => ∃ b, e = .returned (.agg #[.slice (some ⟨b, 0, none⟩) len len, .int .i64 d, .int .i64 u]) ∧ w.heap.size ≤ b ∧ CR w' (some ⟨b, 0, none⟩) len c ∧ Below w.heap.size w w' := by
  have HR : Hid (CR w fa len c) := hr
  clear hr
  go_enter Tryd.func49, Tryd.ntmps49
  go_wp2_with (go_at_call 85; refine (toCurS_any _ _ _ c _ h (HR.out.below (by go_grown))).mono ?_; rintro e w1 ⟨rfl, o1, b1⟩; have X0 : CB w1 w.heap.size #[.slice fa len cap, .int .i64 d, .int .i64 u] 55 := (((CB.new _ _).alloc _).alloc _).below b1 (by simp; omega); obtain ⟨C1, C2, b2⟩ := three_blocks b1; have j1 := X0.cell 1; have j2 := X0.cell 2; have k0 := C2.cell 0; have k1 := C2.cell 1; have k2 := C2.cell 2; have m0 := C1.cell 0; have m1 := C1.cell 1; have m2 := C1.cell 2; simp at j1 j2 k0 k1 k2 m0 m1 m2; have f0 := C2.fr 0; have f1 := C2.fr 1; have f2 := C2.fr 2; have g0 := C1.fr 0; have g1 := C1.fr 1; have g2 := C1.fr 2; have HB : Hid (Below w.heap.size w w1) := b2; have HC1 : Hid (CB w1 (w.heap.size + 1) #[.slice none 0 0, .int .i64 0, .int .i64 0] 26) := C1; have o2 : CR w1 (some ⟨w.heap.size + 1 + 1 + 1, 0, none⟩) len c := (by simpa using o1); have HO : Hid (CR w1 (some ⟨w.heap.size + 1 + 1 + 1, 0, none⟩) len c) := o2; clear o1 b1 o2 b2 C1 C2 X0)
  have hX := (((HC1.out.other (c := w.heap.size + 1 + 1) (o := 0) (.slice (some ⟨w.heap.size + 1 + 1 + 1, 0, none⟩) len len) (by omega)).other (c := w.heap.size + 1 + 1) (o := 1) (.int .i64 d) (by omega)).other (c := w.heap.size + 1 + 1) (o := 2) (.int .i64 u) (by omega))
  have hX := ((hX.set 0 (.slice (some ⟨w.heap.size + 1 + 1 + 1, 0, none⟩) len len)).set 1 (.int .i64 d)).set 2 (.int .i64 u)
  have hY : CR _ (some ⟨w.heap.size + 1 + 1 + 1, 0, none⟩) len c := ((((((HO.out.other' (c' := w.heap.size + 1 + 1) (o := 0) (.slice (some ⟨w.heap.size + 1 + 1 + 1, 0, none⟩) len len) (by omega)).other' (c' := w.heap.size + 1 + 1) (o := 1) (.int .i64 d) (by omega)).other' (c' := w.heap.size + 1 + 1) (o := 2) (.int .i64 u) (by omega)).other' (c' := w.heap.size + 1) (o := 0) (.slice (some ⟨w.heap.size + 1 + 1 + 1, 0, none⟩) len len) (by omega)).other' (c' := w.heap.size + 1) (o := 1) (.int .i64 d) (by omega)).other' (c' := w.heap.size + 1) (o := 2) (.int .i64 u) (by omega))
  have hZ := (((((HB.out.setCell (p := ⟨w.heap.size + 1 + 1, 0, none⟩) (by simp; omega) (.slice (some ⟨w.heap.size + 1 + 1 + 1, 0, none⟩) len len)).setCell (p := ⟨w.heap.size + 1 + 1, 1, none⟩) (by simp; omega) (.int .i64 d)).setCell (p := ⟨w.heap.size + 1 + 1, 2, none⟩) (by simp; omega) (.int .i64 u)).setCell (p := ⟨w.heap.size + 1, 0, none⟩) (by simp) (.slice (some ⟨w.heap.size + 1 + 1 + 1, 0, none⟩) len len)).setCell (p := ⟨w.heap.size + 1, 1, none⟩) (by simp) (.int .i64 d)).setCell (p := ⟨w.heap.size + 1, 2, none⟩) (by simp) (.int .i64 u)
  have e0 := hX.cell 0
  have e1 := hX.cell 1
  have e2 := hX.cell 2
  simp at e0 e1 e2
  clear hX j1 j2 k0 k1 k2 m0 m1 m2 f0 f1 f2 g0 g1 g2 HC1 HO HB
  generalize (World.setCell _ _ _) = W5 at e0 e1 e2 hY hZ ⊢
  refine bodyPost_ret (by simp [results, Tryd.results49, go_sem, e0, e1, e2]; try rfl) rfl ?_
  exact ⟨_, rfl, by omega, hY, hZ⟩

theorem eqFrame_same (fa fb : Option Addr) (len cap cap2 : Nat) (c : Nat → C3) (d u : Int) (w : World) (h : (len : Int) ≤ 1048576) (h1 : CR w fa len c) (h2 : CR w fb len c) :
    Calls Tryd.prog 52 #[.agg #[.slice fa len cap, .int .i64 d, .int .i64 u], .agg #[.slice fb len cap2, .int .i64 d, .int .i64 u]] w fun e w' => e = .returned (.bool true) ∧ Below w.heap.size w w' := by
  have H1 : Hid (CR w fa len c) := h1
  have H2 : Hid (CR w fb len c) := h2
  clear h1 h2
  go_enter Tryd.func52, Tryd.ntmps52
  go_wp2_with (go_at_call 88; refine (eqCurS_same _ _ _ _ _ c _ h (H1.out.below (by go_grown)) (H2.out.below (by go_grown))).mono ?_; rintro e w1 ⟨rfl, b1⟩; have X0 : CB w1 w.heap.size #[.slice fa len cap, .int .i64 d, .int .i64 u] 26 := ((CB.new _ _).alloc _).below b1 (by simp; omega); have X1 : CB w1 (w.heap.size + 1) #[.slice fb len cap2, .int .i64 d, .int .i64 u] 26 := (CB.newAt (by simp) _ _).below b1 (by simp); have j1 := X0.cell 1; have j2 := X0.cell 2; have k1 := X1.cell 1; have k2 := X1.cell 2; simp at j1 j2 k1 k2; have b2 : Below w.heap.size w w1 := bel_on (by go_grown) b1; have HB : Hid (Below w.heap.size w w1) := b2; clear b1 b2 X0 X1)
  go_returns
  exact ⟨rfl, HB.out⟩

set_option maxRecDepth 20000 in
set_option maxHeartbeats 1000000 in
theorem specFrame_any (fa : Option Addr) (len cap : Nat) (c : Nat → C3) (d u : Int) (w : World) (hl : (len : Int) ≤ 1048576) (hc : ∀ j, (c j).code.size ≤ maxLen) (hr : CR w fa len c) :
    Calls Tryd.prog 65 #[.agg #[.slice fa len cap, .int .i64 d, .int .i64 u]] w fun e w' => e = .returned (.bool (frB len c d u)) ∧ Below w.heap.size w w' := by
  have HR : Hid (CR w fa len c) := hr
  have HC : Hid (∀ j, (c j).code.size ≤ maxLen) := hc
  clear hr hc
  unfold frB
  cases hv : chartB len c with
  | false =>
    go_enter Tryd.func65, Tryd.ntmps65
    go_wp2_with (go_at_call 63; refine (specChartOk_eq _ _ _ c _ hl HC.out (HR.out.alloc _) hv).mono ?_; rintro e w1 ⟨rfl, b1⟩; have HB : Hid (Below w.heap.size w w1) := bel_on ((Below.refl _ _).alloc (Nat.le_refl _) _) b1; clear b1)
    go_returns
    exact ⟨rfl, HB.out⟩
  | true =>
    cases h1 : inB d 1 20 with
    | false =>
      go_enter Tryd.func65, Tryd.ntmps65
      go_wp2_with (first
        | (go_at_call 63; refine (specChartOk_eq _ _ _ c _ hl HC.out (HR.out.alloc _) hv).mono ?_; rintro e w1 ⟨rfl, b1⟩; have X0 : CB w1 w.heap.size #[.slice fa len cap, .int .i64 d, .int .i64 u] 26 := (CB.new _ _).below b1 (by simp); have j1 := X0.cell 1; have j2 := X0.cell 2; simp at j1 j2; have HB : Hid (Below w.heap.size w w1) := bel_on ((Below.refl _ _).alloc (Nat.le_refl _) _) b1; clear b1 X0)
        | (go_at_call 43; refine (l1In_any _ _ _ _).mono ?_; rintro e w3 ⟨rfl, ew⟩; replace ew := ew.symm; subst ew; rw [h1]))
      go_returns
      exact ⟨rfl, HB.out⟩
    | true =>
      have tok1 : True := trivial
      go_enter Tryd.func65, Tryd.ntmps65
      go_wp2_with (first
        | (go_at_call 63; refine (specChartOk_eq _ _ _ c _ hl HC.out (HR.out.alloc _) hv).mono ?_; rintro e w1 ⟨rfl, b1⟩; have X0 : CB w1 w.heap.size #[.slice fa len cap, .int .i64 d, .int .i64 u] 26 := (CB.new _ _).below b1 (by simp); have j1 := X0.cell 1; have j2 := X0.cell 2; simp at j1 j2; have HB : Hid (Below w.heap.size w w1) := bel_on ((Below.refl _ _).alloc (Nat.le_refl _) _) b1; clear b1 X0)
        | (go_at_call 43; clear tok1; refine (l1In_any _ _ _ _).mono ?_; rintro e w3 ⟨rfl, ew⟩; replace ew := ew.symm; subst ew; rw [h1])
        | (go_at_call 43; refine (l1In_any _ _ _ _).mono ?_; rintro e w3 ⟨rfl, ew⟩; replace ew := ew.symm; subst ew))
      go_returns
      exact ⟨rfl, HB.out⟩

/-- A tree of this chart lies at T. -/
def Tree (w : World) (T len : Nat) (c : Nat → C3) : Prop := ∃ base mp N S ns, TR Tryd.prog w base T mp (tn len c) c N S ns
theorem Tree.below {w w' : World} {T len : Nat} {c : Nat → C3} (h : Tree w T len c) (k : Below w.heap.size w w') : Tree w' T len c := by
  obtain ⟨base, mp, N, S, ns, h⟩ := h; exact ⟨base, mp, N, S, ns, h.below k⟩
theorem Tree.alloc {w : World} {T len : Nat} {c : Nat → C3} (h : Tree w T len c) (o : Obj) : Tree (w.alloc o) T len c := h.below ((Below.refl _ _).alloc (Nat.le_refl _) o)
theorem Tree.right {w : World} {T len : Nat} {c : Nat → C3} (h : Tree w T len c) : Calls Tryd.prog 101 #[.pointer (some ⟨T, 0, none⟩)] w fun e w' => e = .returned (.bool (chartB len c)) ∧ w' = w := by
  obtain ⟨base, mp, N, S, ns, h⟩ := h
  exact isRight_any w h (tn_le len c).2 tn_pos
theorem Tree.leaf {w : World} {T len : Nat} {c : Nat → C3} (h : Tree w T len c) (x : Int) : Calls Tryd.prog 108 #[.pointer (some ⟨T, 0, none⟩), .int .i64 x] w fun e w' => e = .returned (.bool (leafB len c x)) ∧ w' = w := by
  obtain ⟨base, mp, N, S, ns, h⟩ := h
  by_cases hx : 0 ≤ x ∧ x < (tn len c : Int)
  · obtain ⟨i, rfl⟩ : ∃ i : Nat, x = (i : Int) := ⟨x.toNat, by omega⟩
    refine isLeaf_in i w h (tn_le len c).2 (by omega) ?_
    cases e : chL (par c) (tn len c) (i + 1) with
    | nil =>
      rw [leafB_yes hx.1 hx.2 (fun j hj q => ?_)]
      · rfl
      · have := chL_get (P := par c) (s := i + 1) hj (by omega)
        rw [e] at this
        simp at this
    | cons j t =>
      have hm := chL_mem (P := par c) (n := tn len c) (s := i + 1) (j := 0) (x := j) (by rw [e]; rfl)
      rw [leafB_no hm.1 (by have := hm.2; omega)]
      simp; omega
  · rw [leafB_out hx]
    exact isLeaf_out x w h (tn_le len c).2 hx

theorem isCurCount_any (x : Int) (w : World) : Calls Tryd.prog 102 #[.int .i64 x] w fun e w' => e = .returned (.bool (inB x 1 20)) ∧ w' = w := by
  go_enter Tryd.func102, Tryd.ntmps102
  go_wp2
  all_goals go_returns
  all_goals exact ⟨ret_bool (by unfold inB; rw [Bool.eq_iff_iff]; simp; try omega), rfl⟩

set_option maxRecDepth 20000 in
set_option maxHeartbeats 1000000 in
theorem laidRight_any (fa : Option Addr) (len cap : Nat) (c : Nat → C3) (d u : Int) (T : Nat) (w : World) (h : Tree w T len c) :
    Calls Tryd.prog 70 #[.agg #[.slice fa len cap, .int .i64 d, .int .i64 u, .pointer (some ⟨T, 0, none⟩)]] w fun e w' => e = .returned (.bool (frB len c d u)) ∧ Below w.heap.size w w' := by
  have HT : Hid (Tree w T len c) := h
  clear h
  unfold frB
  cases hv : chartB len c with
  | false =>
    go_enter Tryd.func70, Tryd.ntmps70
    go_wp2_with (go_at_call 101; refine (HT.out.alloc _).right.mono ?_; rintro e w3 ⟨rfl, ew⟩; replace ew := ew.symm; subst ew; rw [hv])
    go_returns
    exact ⟨rfl, (Below.refl _ _).alloc (Nat.le_refl _) _⟩
  | true =>
    by_cases g1 : 1 ≤ d
    · by_cases g2 : d ≤ 20
      · have h1 : inB d 1 20 = true := inB_t g1 g2
        rw [h1]
        go_enter Tryd.func70, Tryd.ntmps70
        go_wp2_with (first
          | (go_at_call 101; refine (HT.out.alloc _).right.mono ?_; rintro e w3 ⟨rfl, ew⟩; replace ew := ew.symm; subst ew; rw [hv])
          | (go_at_call 102; refine (isCurCount_any _ _).mono ?_; rintro e w3 ⟨rfl, ew⟩; replace ew := ew.symm; subst ew))
        go_returns
        exact ⟨rfl, (Below.refl _ _).alloc (Nat.le_refl _) _⟩
      · have h1 : inB d 1 20 = false := inB_f (fun q => g2 q.2)
        have h3 : decide (d ≤ 20) = false := decide_eq_false g2
        rw [h1]
        go_enter Tryd.func70, Tryd.ntmps70
        go_wp2_with (go_at_call 101; refine (HT.out.alloc _).right.mono ?_; rintro e w3 ⟨rfl, ew⟩; replace ew := ew.symm; subst ew; rw [hv])
        go_returns
        exact ⟨rfl, (Below.refl _ _).alloc (Nat.le_refl _) _⟩
    · have h1 : inB d 1 20 = false := inB_f (fun q => g1 q.1)
      have h3 : decide (1 ≤ d) = false := decide_eq_false g1
      rw [h1]
      go_enter Tryd.func70, Tryd.ntmps70
      go_wp2_with (go_at_call 101; refine (HT.out.alloc _).right.mono ?_; rintro e w3 ⟨rfl, ew⟩; replace ew := ew.symm; subst ew; rw [hv])
      go_returns
      exact ⟨rfl, (Below.refl _ _).alloc (Nat.le_refl _) _⟩

theorem CR.drew' {w : World} {ad : Option Addr} {len : Nat} {c : Nat → C3} (H : CR w ad len c) : CR w.drew ad len c := H
theorem EL.drew' {w : World} (H : EL w) : EL w.drew := H
theorem EL.alloc' {w : World} (H : EL w) (o : Obj) : EL (w.alloc o) := H.below ((Below.refl _ _).alloc (Nat.le_refl _) o) H.nine
theorem TR.keepFrom {P : Program} {w w' : World} {base T mp n : Nat} {c : Nat → C3} {N : Nat → Nat} {S : Nat → Value} {ns : Value} (h : TR P w base T mp n c N S ns) (hb : ∀ b, base ≤ b → w'.heap[b]? = w.heap[b]?) : TR P w' base T mp n c N S ns where
  top := by have := h.top; unfold CB at this ⊢; rw [hb T h.low.1]; exact this
  node s hs := by have := h.node s hs; unfold CB at this ⊢; rw [hb _ (h.low.2.2 s hs)]; exact this
  inj := h.inj
  low := h.low
  nodes := row_block h.nodes (fun g hg => hb g (h.nodes.lt g hg).1)
  parts s hs := row_block (h.parts s hs) (fun g hg => hb g ((h.parts s hs).lt g hg).1)
  apart := h.apart
  far := h.far
  map := h.map.block (hb mp h.low.2.1)
theorem two_drew {w w1 : World} {X : Obj} {cs : Array Value} {t : TypeId} (b : Below (((w.alloc X).alloc (.cells cs t (0, 0))).drew).heap.size (((w.alloc X).alloc (.cells cs t (0, 0))).drew) w1) : CB w1 (w.heap.size + 1) cs t ∧ Below w.heap.size w w1 ∧ w1.heap[w.heap.size]? = some X := by
  have b' : Below ((w.alloc X).alloc (.cells cs t (0, 0))).heap.size ((w.alloc X).alloc (.cells cs t (0, 0))) w1 := ⟨b.os, b.tape, b.output, b.size, b.block⟩
  refine ⟨(CB.newAt (by simp) cs t).below b' (by simp), bel_on (by go_grown) b', ?_⟩
  rw [b'.block w.heap.size (by simp; omega), heap_alloc_old _ _ (by simp)]
  exact heap_alloc_new w X

set_option maxRecDepth 20000 in
set_option maxHeartbeats 2000000 in
theorem lay_any (fa : Option Addr) (len cap : Nat) (c : Nat → C3) (d u : Int) (w : World) (hl : (len : Int) ≤ 1048576) (hc : ∀ j, (c j).code.size ≤ maxLen) (hr : CR w fa len c) (hE : EL w) :
    Calls Tryd.prog 31 #[.agg #[.slice fa len cap, .int .i64 d, .int .i64 u]] w fun e w' => ∃ T, e = .returned (.agg #[.slice fa len cap, .int .i64 d, .int .i64 u, .pointer (some ⟨T, 0, none⟩)]) ∧ Tree w' T len c ∧ Below w.heap.size w w' := by
  have HR : Hid (CR ((w.alloc (.cells #[.slice fa len cap, .int .i64 d, .int .i64 u] 26 (0, 0))).alloc (.cells #[.slice none 0 0, .int .i64 0, .int .i64 0, .pointer none] 82 (0, 0))).drew fa len c) := ((hr.alloc _).alloc _).drew'
  have HC : Hid (∀ j, (c j).code.size ≤ maxLen) := hc
  have HE : Hid (EL ((w.alloc (.cells #[.slice fa len cap, .int .i64 d, .int .i64 u] 26 (0, 0))).alloc (.cells #[.slice none 0 0, .int .i64 0, .int .i64 0, .pointer none] 82 (0, 0))).drew) := ((hE.alloc' _).alloc' _).drew'
  clear hr hc hE
  go_enter Tryd.func31, Tryd.ntmps31
  go_wp2
  go_region_with (go_at_call 69; go_loud (refine (treeOf_any _ _ _ c _ hl HC.out HR.out HE.out).mono ?_; rintro e w1 ⟨T, mp, N, S, ns, rfl, hT, b1⟩; obtain ⟨C1, b2, xb⟩ := two_drew b1; have X0 : CB w1 w.heap.size #[.slice fa len cap, .int .i64 d, .int .i64 u] 26 := xb; have x0 := X0.cell 0; have x1 := X0.cell 1; have x2 := X0.cell 2; have m0 := C1.cell 0; have m1 := C1.cell 1; have m2 := C1.cell 2; have m3 := C1.cell 3; simp at m0 m1 m2 m3 x0 x1 x2; have g0 := C1.fr 0; have g1 := C1.fr 1; have g2 := C1.fr 2; have g3 := C1.fr 3; have HC1 : Hid (CB w1 (w.heap.size + 1) #[.slice none 0 0, .int .i64 0, .int .i64 0, .pointer none] 82) := C1; have HT : Hid (TR Tryd.prog w1 (w.heap.size + 1 + 1) T mp (tn len c) c N S ns) := (by have e : (((w.alloc (.cells #[.slice fa len cap, .int .i64 d, .int .i64 u] 26 (0, 0))).alloc (.cells #[.slice none 0 0, .int .i64 0, .int .i64 0, .pointer none] 82 (0, 0))).drew).heap.size = w.heap.size + 1 + 1 := (by simp); rw [e] at hT; exact hT); have HB : Hid (Below w.heap.size w w1) := b2; clear b1 b2 C1 hT X0 xb))
  all_goals
    have hX := (((HC1.out.set 0 (.slice fa len cap)).set 1 (.int .i64 d)).set 2 (.int .i64 u)).set 3 (.pointer (some ⟨T, 0, none⟩))
    have hY : Tree ((((w1.setCell ⟨w.heap.size + 1, 0, none⟩ (.slice fa len cap)).setCell ⟨w.heap.size + 1, 1, none⟩ (.int .i64 d)).setCell ⟨w.heap.size + 1, 2, none⟩ (.int .i64 u)).setCell ⟨w.heap.size + 1, 3, none⟩ (.pointer (some ⟨T, 0, none⟩))) T len c := ⟨_, _, _, _, _, HT.out.keepFrom (fun b hb => by
      rw [Below.heap_setCell _ _ _ _ (by simp; omega), Below.heap_setCell _ _ _ _ (by simp; omega), Below.heap_setCell _ _ _ _ (by simp; omega), Below.heap_setCell _ _ _ _ (by simp; omega)])⟩
    have hZ := (((HB.out.setCell (p := ⟨w.heap.size + 1, 0, none⟩) (by simp) (.slice fa len cap)).setCell (p := ⟨w.heap.size + 1, 1, none⟩) (by simp) (.int .i64 d)).setCell (p := ⟨w.heap.size + 1, 2, none⟩) (by simp) (.int .i64 u)).setCell (p := ⟨w.heap.size + 1, 3, none⟩) (by simp) (.pointer (some ⟨T, 0, none⟩))
    have e0 := hX.cell 0
    have e1 := hX.cell 1
    have e2 := hX.cell 2
    have e3 := hX.cell 3
    simp at e0 e1 e2 e3
    clear hX m0 m1 m2 m3 x0 x1 x2 g0 g1 g2 g3 HC1 HT HB
    try go_wp2
    generalize (World.setCell _ _ _) = W5 at e0 e1 e2 e3 hY hZ ⊢
    refine bodyPost_ret (by simp [results, Tryd.results31, go_sem, e0, e1, e2, e3]; try rfl) rfl ?_
    exact ⟨T, rfl, hY, hZ⟩

end Go.Proofs.YtapailihjlfkgaaDoor
