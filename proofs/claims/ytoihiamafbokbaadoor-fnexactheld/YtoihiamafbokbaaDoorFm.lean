/- Frames that are laid out, and what is asked of them. -/
import Derived.Test.YtoihiamafbokbaaDoorSl
import Derived.Test.YtoihiamafbokbaaDoorCq
import Derived.Test.YtoihiamafbokbaaDoorTi
namespace Go.Proofs.YtoihiamafbokbaaDoor
open Go.ChangeShapes Go.WideShapes Go.ChangeAt Go.RowKit
set_option linter.unusedVariables false
set_option linter.unusedSimpArgs false

noncomputable def frB (len : Nat) (c : Nat → C3) (d u : Int) : Bool := chartB len c && (inB d 1 20 && inB u 1 20)

theorem CR.other' {w : World} {k off len : Nat} {c : Nat → C3} (H : CR w (some ⟨k, off, none⟩) len c) {c' o : Nat} (u : Value) (h : k ≠ c') : CR (w.setCell ⟨c', o, none⟩ u) (some ⟨k, off, none⟩) len c := by
  rcases H with h' | ⟨k', off', e, hk, hc⟩
  · exact .inl h'
  · simp only [Option.some.injEq, Addr.mk.injEq] at e
    obtain ⟨rfl, rfl, _⟩ := e
    exact .inr ⟨k, off, rfl, by simpa using hk, fun j hj => (hc j hj).block (Below.heap_setCell _ _ _ _ (by simpa using h))⟩

/-- A tree of this chart lies at T. -/
def Tree (w : World) (T len : Nat) (c : Nat → C3) : Prop := ∃ base mp N S ns, TR Tryd.prog w base T mp (tn len c) c N S ns
/-- A tree of this chart lies at T, all of it behind B. -/
def TreeF (w : World) (B T len : Nat) (c : Nat → C3) : Prop := ∃ base mp N S ns, B ≤ base ∧ TR Tryd.prog w base T mp (tn len c) c N S ns
theorem TreeF.tree {w : World} {B T len : Nat} {c : Nat → C3} (h : TreeF w B T len c) : Tree w T len c := by
  obtain ⟨base, mp, N, S, ns, _, h⟩ := h; exact ⟨base, mp, N, S, ns, h⟩
theorem Tree.below {w w' : World} {T len : Nat} {c : Nat → C3} (h : Tree w T len c) (k : Below w.heap.size w w') : Tree w' T len c := by
  obtain ⟨base, mp, N, S, ns, h⟩ := h; exact ⟨base, mp, N, S, ns, h.below k⟩
theorem Tree.alloc {w : World} {T len : Nat} {c : Nat → C3} (h : Tree w T len c) (o : Obj) : Tree (w.alloc o) T len c := h.below ((Below.refl _ _).alloc (Nat.le_refl _) o)
theorem Tree.right {w : World} {T len : Nat} {c : Nat → C3} (h : Tree w T len c) : Calls Tryd.prog 63 #[.pointer (some ⟨T, 0, none⟩)] w fun e w' => e = .returned (.bool (chartB len c)) ∧ w' = w := by
  obtain ⟨base, mp, N, S, ns, h⟩ := h
  exact isRight_any w h (tn_le len c).2 tn_pos
theorem Tree.leaf {w : World} {T len : Nat} {c : Nat → C3} (h : Tree w T len c) (x : Int) : Calls Tryd.prog 68 #[.pointer (some ⟨T, 0, none⟩), .int .i64 x] w fun e w' => e = .returned (.bool (leafB len c x)) ∧ w' = w := by
  obtain ⟨base, mp, N, S, ns, h⟩ := h
  by_cases hx : 0 ≤ x ∧ x < (tn len c : Int)
  · obtain ⟨i, rfl⟩ : ∃ i : Nat, x = (i : Int) := ⟨x.toNat, by omega⟩
    refine isLeaf_in i w h (tn_le len c).2 (by omega) ?_
    cases e : chL (par c) (tn len c) (i + 1) with
    | nil =>
      rw [leafB_yes hx.1 hx.2 (fun j hj q => ?_)]
      · rfl
      · have := chL_get (P := par c) (s := i + 1) hj (by omega)
        rw [e] at this
        simp at this
    | cons j t =>
      have hm := chL_mem (P := par c) (n := tn len c) (s := i + 1) (j := 0) (x := j) (by rw [e]; rfl)
      rw [leafB_no hm.1 (by have := hm.2; omega)]
      simp; omega
  · rw [leafB_out hx]
    exact isLeaf_out x w h (tn_le len c).2 hx

theorem isCurCount_any (x : Int) (w : World) : Calls Tryd.prog 64 #[.int .i64 x] w fun e w' => e = .returned (.bool (inB x 1 20)) ∧ w' = w := by
  go_enter Tryd.func64, Tryd.ntmps64
  go_wp2
  all_goals go_returns
  all_goals exact ⟨ret_bool (by unfold inB; rw [Bool.eq_iff_iff]; simp; try omega), rfl⟩

set_option maxRecDepth 20000 in
set_option maxHeartbeats 1000000 in
theorem laidRight_any (fa : Option Addr) (len cap : Nat) (c : Nat → C3) (d u : Int) (T : Nat) (w : World) (h : Tree w T len c) :
    Calls Tryd.prog 50 #[.agg #[.slice fa len cap, .int .i64 d, .int .i64 u, .pointer (some ⟨T, 0, none⟩)]] w fun e w' => e = .returned (.bool (frB len c d u)) ∧ Below w.heap.size w w' := by
  have HT : Hid (Tree w T len c) := h
  clear h
  unfold frB
  cases hv : chartB len c with
  | false =>
    go_enter Tryd.func50, Tryd.ntmps50
    go_wp2_with (go_at_call 63; refine (HT.out.alloc _).right.mono ?_; rintro e w3 ⟨rfl, ew⟩; replace ew := ew.symm; subst ew; rw [hv])
    go_returns
    exact ⟨rfl, (Below.refl _ _).alloc (Nat.le_refl _) _⟩
  | true =>
    by_cases g1 : 1 ≤ d
    · by_cases g2 : d ≤ 20
      · have h1 : inB d 1 20 = true := inB_t g1 g2
        rw [h1]
        go_enter Tryd.func50, Tryd.ntmps50
        go_wp2_with (first
          | (go_at_call 63; refine (HT.out.alloc _).right.mono ?_; rintro e w3 ⟨rfl, ew⟩; replace ew := ew.symm; subst ew; rw [hv])
          | (go_at_call 64; refine (isCurCount_any _ _).mono ?_; rintro e w3 ⟨rfl, ew⟩; replace ew := ew.symm; subst ew))
        go_returns
        exact ⟨rfl, (Below.refl _ _).alloc (Nat.le_refl _) _⟩
      · have h1 : inB d 1 20 = false := inB_f (fun q => g2 q.2)
        have h3 : decide (d ≤ 20) = false := decide_eq_false g2
        rw [h1]
        go_enter Tryd.func50, Tryd.ntmps50
        go_wp2_with (go_at_call 63; refine (HT.out.alloc _).right.mono ?_; rintro e w3 ⟨rfl, ew⟩; replace ew := ew.symm; subst ew; rw [hv])
        go_returns
        exact ⟨rfl, (Below.refl _ _).alloc (Nat.le_refl _) _⟩
    · have h1 : inB d 1 20 = false := inB_f (fun q => g1 q.1)
      have h3 : decide (1 ≤ d) = false := decide_eq_false g1
      rw [h1]
      go_enter Tryd.func50, Tryd.ntmps50
      go_wp2_with (go_at_call 63; refine (HT.out.alloc _).right.mono ?_; rintro e w3 ⟨rfl, ew⟩; replace ew := ew.symm; subst ew; rw [hv])
      go_returns
      exact ⟨rfl, (Below.refl _ _).alloc (Nat.le_refl _) _⟩

theorem CR.drew' {w : World} {ad : Option Addr} {len : Nat} {c : Nat → C3} (H : CR w ad len c) : CR w.drew ad len c := H
theorem EL.drew' {w : World} (H : EL w) : EL w.drew := H
theorem EL.alloc' {w : World} (H : EL w) (o : Obj) : EL (w.alloc o) := H.below ((Below.refl _ _).alloc (Nat.le_refl _) o) H.nine
theorem TR.keepFrom {P : Program} {w w' : World} {base T mp n : Nat} {c : Nat → C3} {N : Nat → Nat} {S : Nat → Value} {ns : Value} (h : TR P w base T mp n c N S ns) (hb : ∀ b, base ≤ b → w'.heap[b]? = w.heap[b]?) : TR P w' base T mp n c N S ns where
  top := by have := h.top; unfold CB at this ⊢; rw [hb T h.low.1]; exact this
  node s hs := by have := h.node s hs; unfold CB at this ⊢; rw [hb _ (h.low.2.2 s hs)]; exact this
  inj := h.inj
  low := h.low
  nodes := row_block h.nodes (fun g hg => hb g (h.nodes.lt g hg).1)
  parts s hs := row_block (h.parts s hs) (fun g hg => hb g ((h.parts s hs).lt g hg).1)
  apart := h.apart
  far := h.far
  map := h.map.block (hb mp h.low.2.1)
theorem two_drew {w w1 : World} {X : Obj} {cs : Array Value} {t : TypeId} (b : Below (((w.alloc X).alloc (.cells cs t (0, 0))).drew).heap.size (((w.alloc X).alloc (.cells cs t (0, 0))).drew) w1) : CB w1 (w.heap.size + 1) cs t ∧ Below w.heap.size w w1 ∧ w1.heap[w.heap.size]? = some X := by
  have b' : Below ((w.alloc X).alloc (.cells cs t (0, 0))).heap.size ((w.alloc X).alloc (.cells cs t (0, 0))) w1 := ⟨b.os, b.tape, b.output, b.size, b.block⟩
  refine ⟨(CB.newAt (by simp) cs t).below b' (by simp), bel_on (by go_grown) b', ?_⟩
  rw [b'.block w.heap.size (by simp; omega), heap_alloc_old _ _ (by simp)]
  exact heap_alloc_new w X

theorem TreeF.below {w w' : World} {B T len : Nat} {c : Nat → C3} (h : TreeF w B T len c) (k : Below w.heap.size w w') : TreeF w' B T len c := by
  obtain ⟨base, mp, N, S, ns, hB, h⟩ := h; exact ⟨base, mp, N, S, ns, hB, h.below k⟩
theorem TreeF.alloc {w : World} {B T len : Nat} {c : Nat → C3} (h : TreeF w B T len c) (o : Obj) : TreeF (w.alloc o) B T len c := h.below ((Below.refl _ _).alloc (Nat.le_refl _) o)
theorem TreeF.lower {w : World} {B B' T len : Nat} {c : Nat → C3} (h : TreeF w B T len c) (k : B' ≤ B) : TreeF w B' T len c := by
  obtain ⟨base, mp, N, S, ns, hB, h⟩ := h; exact ⟨base, mp, N, S, ns, Nat.le_trans k hB, h⟩
theorem TreeF.other {w : World} {B T len : Nat} {c : Nat → C3} (h : TreeF w B T len c) {b : Nat} (o : Nat) (v : Value) (hb : b < B) : TreeF (w.setCell ⟨b, o, none⟩ v) B T len c := by
  obtain ⟨base, mp, N, S, ns, hB, h⟩ := h
  exact ⟨base, mp, N, S, ns, hB, h.keepFrom (fun x hx => Below.heap_setCell _ _ _ _ (by show x ≠ b; omega))⟩
set_option maxRecDepth 20000 in
set_option maxHeartbeats 2000000 in
theorem lay_any (fa : Option Addr) (len cap : Nat) (c : Nat → C3) (d u : Int) (w : World) (hl : (len : Int) ≤ 1048576) (hc : ∀ j, (c j).code.size ≤ maxLen) (hr : CR w fa len c) (hE : EL w) :
    Calls Tryd.prog 39 #[.agg #[.slice fa len cap, .int .i64 d, .int .i64 u]] w fun e w' => ∃ T, e = .returned (.agg #[.slice fa len cap, .int .i64 d, .int .i64 u, .pointer (some ⟨T, 0, none⟩)]) ∧ TreeF w' w.heap.size T len c ∧ Below w.heap.size w w' := by
  have HR : Hid (CR ((w.alloc (.cells #[.slice fa len cap, .int .i64 d, .int .i64 u] 51 (0, 0))).alloc (.cells #[.slice none 0 0, .int .i64 0, .int .i64 0, .pointer none] 54 (0, 0))).drew fa len c) := ((hr.alloc _).alloc _).drew'
  have HC : Hid (∀ j, (c j).code.size ≤ maxLen) := hc
  have HE : Hid (EL ((w.alloc (.cells #[.slice fa len cap, .int .i64 d, .int .i64 u] 51 (0, 0))).alloc (.cells #[.slice none 0 0, .int .i64 0, .int .i64 0, .pointer none] 54 (0, 0))).drew) := ((hE.alloc' _).alloc' _).drew'
  clear hr hc hE
  go_enter Tryd.func39, Tryd.ntmps39
  go_wp2
  go_region_with (go_at_call 49; go_loud (refine (treeOf_any _ _ _ c _ hl HC.out HR.out HE.out).mono ?_; rintro e w1 ⟨T, mp, N, S, ns, rfl, hT, b1⟩; obtain ⟨C1, b2, xb⟩ := two_drew b1; have X0 : CB w1 w.heap.size #[.slice fa len cap, .int .i64 d, .int .i64 u] 51 := xb; have x0 := X0.cell 0; have x1 := X0.cell 1; have x2 := X0.cell 2; have m0 := C1.cell 0; have m1 := C1.cell 1; have m2 := C1.cell 2; have m3 := C1.cell 3; simp at m0 m1 m2 m3 x0 x1 x2; have g0 := C1.fr 0; have g1 := C1.fr 1; have g2 := C1.fr 2; have g3 := C1.fr 3; have HC1 : Hid (CB w1 (w.heap.size + 1) #[.slice none 0 0, .int .i64 0, .int .i64 0, .pointer none] 54) := C1; have HT : Hid (TR Tryd.prog w1 (w.heap.size + 1 + 1) T mp (tn len c) c N S ns) := (by have e : (((w.alloc (.cells #[.slice fa len cap, .int .i64 d, .int .i64 u] 51 (0, 0))).alloc (.cells #[.slice none 0 0, .int .i64 0, .int .i64 0, .pointer none] 54 (0, 0))).drew).heap.size = w.heap.size + 1 + 1 := (by simp); rw [e] at hT; exact hT); have HB : Hid (Below w.heap.size w w1) := b2; clear b1 b2 C1 hT X0 xb))
  all_goals
    have hX := (((HC1.out.set 0 (.slice fa len cap)).set 1 (.int .i64 d)).set 2 (.int .i64 u)).set 3 (.pointer (some ⟨T, 0, none⟩))
    have hY : TreeF ((((w1.setCell ⟨w.heap.size + 1, 0, none⟩ (.slice fa len cap)).setCell ⟨w.heap.size + 1, 1, none⟩ (.int .i64 d)).setCell ⟨w.heap.size + 1, 2, none⟩ (.int .i64 u)).setCell ⟨w.heap.size + 1, 3, none⟩ (.pointer (some ⟨T, 0, none⟩))) w.heap.size T len c := ⟨_, _, _, _, _, (by first | omega | (simp; omega)), HT.out.keepFrom (fun b hb => by
      rw [Below.heap_setCell _ _ _ _ (by simp; omega), Below.heap_setCell _ _ _ _ (by simp; omega), Below.heap_setCell _ _ _ _ (by simp; omega), Below.heap_setCell _ _ _ _ (by simp; omega)])⟩
    have hZ := (((HB.out.setCell (p := ⟨w.heap.size + 1, 0, none⟩) (by simp) (.slice fa len cap)).setCell (p := ⟨w.heap.size + 1, 1, none⟩) (by simp) (.int .i64 d)).setCell (p := ⟨w.heap.size + 1, 2, none⟩) (by simp) (.int .i64 u)).setCell (p := ⟨w.heap.size + 1, 3, none⟩) (by simp) (.pointer (some ⟨T, 0, none⟩))
    have e0 := hX.cell 0
    have e1 := hX.cell 1
    have e2 := hX.cell 2
    have e3 := hX.cell 3
    simp at e0 e1 e2 e3
    clear hX m0 m1 m2 m3 x0 x1 x2 g0 g1 g2 g3 HC1 HT HB
    try go_wp2
    generalize (World.setCell _ _ _) = W5 at e0 e1 e2 e3 hY hZ ⊢
    refine bodyPost_ret (by simp [results, Tryd.results39, go_sem, e0, e1, e2, e3]; try rfl) rfl ?_
    exact ⟨T, rfl, hY, hZ⟩

end Go.Proofs.YtoihiamafbokbaaDoor

