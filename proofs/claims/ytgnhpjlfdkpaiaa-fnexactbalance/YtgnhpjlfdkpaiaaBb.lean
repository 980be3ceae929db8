/- The program's Balance: it answers balV. -/
import Derived.Test.YtgnhpjlfdkpaiaaBi
import Derived.RangeFuncWrites
import Derived.Sort.QuietTacIn
namespace Go.Proofs.Ytgnhpjlfdkpaiaa
open Go.RowKit Go.Shelf
attribute [local go_sem] Oper.semAt_some
set_option linter.unusedVariables false
set_option linter.unusedSimpArgs false

theorem ret_two' {a b c d : Int} (h : (c, d) = (a, b)) : Ending.returned (.tuple #[.int .i64 a, .int .i64 b]) = .returned (.tuple #[.int .i64 c, .int .i64 d]) := by cases h; rfl

set_option maxRecDepth 100000 in
set_option maxHeartbeats 4000000 in
theorem implBal_in (n : Nat) (hn : 3 ≤ n) (ad : Option Addr) (len cap : Nat) (es : Nat → E4) (hd ac dm cu f t : Int) (w : World) (hr : ER w ad len es) (hs : smB len es = true) :
    CallsIn Fence.wide n Try.prog 17 #[.agg #[.slice ad len cap, .int .i64 hd], .int .i64 ac, .int .i64 dm, .int .i64 cu, .int .i64 f, .int .i64 t] w fun e w' => e = .returned (.tuple #[.int .i64 (balV ac dm cu f t len es).1, .int .i64 (balV ac dm cu f t len es).2]) ∧ Below w.heap.size w w' := by
  have h1 : 1 ≤ n := by omega
  have HR : Hid (ER w ad len es) := hr
  have HBA : Hid (Below w.heap.size w ((((((w.alloc (.cells #[.slice ad len cap, .int .i64 hd] 44 (0, 0))).alloc (.cells #[.int .i64 ac] 3 (0, 0))).alloc (.cells #[.int .i64 dm] 3 (0, 0))).alloc (.cells #[.int .i64 cu] 3 (0, 0))).alloc (.cells #[.int .i64 0] 3 (0, 0))).alloc (.cells #[.int .i64 0] 3 (0, 0)))) := ((((((Below.refl _ w).alloc (Nat.le_refl _) _).alloc (by simp) _).alloc (by simp; omega) _).alloc (by simp; omega) _).alloc (by simp; omega) _).alloc (by simp; omega) _
  clear hr
  refine callsIn_of_wp_marks Try.func17 rfl trivial ?_ rfl
  simp only [Try.ntmps17, List.size_toArray, List.length_cons, List.length_nil, Nat.reduceAdd, Nat.reduceSub, Array.replicate_succ, Array.replicate_zero, List.push_toArray, List.append_toArray, List.nil_append, List.cons_append]
  gi_wp2_with (first
    | (refine ⟨trivial, ?_⟩; gi_at_call 35; refine (callsIn_wide.2 (isSummable_any _ _ _ es _ _ (HR.out.below HBA.out))).mono ?_; rintro e w1 ⟨rfl, b1⟩; rw [hs]; have T0 : CB w1 (w.heap.size) #[.slice ad len cap, .int .i64 hd] 44 := ((((((CB.newAt (by simp) _ _).alloc _).alloc _).alloc _).alloc _).alloc _).below b1 (by first | (simp; done) | (simp; omega)); have T1 : CB w1 (w.heap.size + 1) #[.int .i64 ac] 3 := (((((CB.newAt (by simp) _ _).alloc _).alloc _).alloc _).alloc _).below b1 (by first | (simp; done) | (simp; omega)); have T2 : CB w1 (w.heap.size + 1 + 1) #[.int .i64 dm] 3 := ((((CB.newAt (by simp) _ _).alloc _).alloc _).alloc _).below b1 (by first | (simp; done) | (simp; omega)); have T3 : CB w1 (w.heap.size + 1 + 1 + 1) #[.int .i64 cu] 3 := (((CB.newAt (by simp) _ _).alloc _).alloc _).below b1 (by first | (simp; done) | (simp; omega)); have T4 : CB w1 (w.heap.size + 1 + 1 + 1 + 1) #[.int .i64 0] 3 := ((CB.newAt (by simp) _ _).alloc _).below b1 (by first | (simp; done) | (simp; omega)); have T5 : CB w1 (w.heap.size + 1 + 1 + 1 + 1 + 1) #[.int .i64 0] 3 := (CB.newAt (by simp) _ _).below b1 (by first | (simp; done) | (simp; omega)); have t0 := T0.cell 0; have t1 := T0.cell 1; simp at t0 t1; have hsz : w.heap.size + 6 ≤ w1.heap.size := (by have := b1.size; simp at this; omega); have B1 : Below w.heap.size w w1 := bel_on HBA.out b1; have HT0 : Hid (CB w1 (w.heap.size) #[.slice ad len cap, .int .i64 hd] 44) := T0; have HT1 : Hid (CB w1 (w.heap.size + 1) #[.int .i64 ac] 3) := T1; have HT2 : Hid (CB w1 (w.heap.size + 1 + 1) #[.int .i64 dm] 3) := T2; have HT3 : Hid (CB w1 (w.heap.size + 1 + 1 + 1) #[.int .i64 cu] 3) := T3; have HT4 : Hid (CB w1 (w.heap.size + 1 + 1 + 1 + 1) #[.int .i64 0] 3) := T4; have HT5 : Hid (CB w1 (w.heap.size + 1 + 1 + 1 + 1 + 1) #[.int .i64 0] 3) := T5; have HB1 : Hid (Below w.heap.size w w1) := B1; clear b1 B1 T0 T1 T2 T3 T4 T5)
    | (refine ⟨trivial, ?_⟩; gi_at_call 36; refine (callsIn_wide.2 (linesOf_any _ _ _ _ _ _ _)).mono ?_; rintro e w' ⟨rfl, rfl⟩))
  have hso := smB_out hs
  have HSO : Hid (∀ i, i < len → enS (es i)) := hso.2
  have hlen : (len : Int) ≤ 1000 := by omega
  have HYL : Hid ((ylS f t es len).length ≤ 60000) := by have := (ylS_ok (f := f) (t := t) hso.2).1; show _ ≤ _; omega
  clear hso
  have HB2 : Hid (Below w1.heap.size w1 (((w1.alloc (.cells #[.slice ad len cap, .int .i64 hd] 44 (0, 0))).alloc (.cells #[.int .i64 f] 3 (0, 0))).alloc (.cells #[.int .i64 t] 3 (0, 0)))) := ((((Below.refl _ w1).alloc (Nat.le_refl _) _).alloc (by simp) _).alloc (by simp; omega) _)
  have F1 : CB (((w1.alloc (.cells #[.slice ad len cap, .int .i64 hd] 44 (0, 0))).alloc (.cells #[.int .i64 f] 3 (0, 0))).alloc (.cells #[.int .i64 t] 3 (0, 0))) w1.heap.size #[.slice ad len cap, .int .i64 hd] 44 := ((CB.new _ _).alloc _).alloc _
  have F2 : CB (((w1.alloc (.cells #[.slice ad len cap, .int .i64 hd] 44 (0, 0))).alloc (.cells #[.int .i64 f] 3 (0, 0))).alloc (.cells #[.int .i64 t] 3 (0, 0))) (w1.heap.size + 1) #[.int .i64 f] 3 := (CB.newAt (by simp) _ _).alloc _
  have F3 : CB (((w1.alloc (.cells #[.slice ad len cap, .int .i64 hd] 44 (0, 0))).alloc (.cells #[.int .i64 f] 3 (0, 0))).alloc (.cells #[.int .i64 t] 3 (0, 0))) (w1.heap.size + 1 + 1) #[.int .i64 t] 3 := CB.newAt (by simp) _ _
  have hsz2 : (((w1.alloc (.cells #[.slice ad len cap, .int .i64 hd] 44 (0, 0))).alloc (.cells #[.int .i64 f] 3 (0, 0))).alloc (.cells #[.int .i64 t] 3 (0, 0))).heap.size = w1.heap.size + 3 := by simp
  obtain ⟨W0, hW0⟩ : ∃ W0, (((w1.alloc (.cells #[.slice ad len cap, .int .i64 hd] 44 (0, 0))).alloc (.cells #[.int .i64 f] 3 (0, 0))).alloc (.cells #[.int .i64 t] 3 (0, 0))) = W0 := ⟨_, rfl⟩
  rw [hW0] at HB2 F1 F2 F3 hsz2 ⊢
  clear hW0
  have BW : Below w.heap.size w W0 := bel_on HB1.out HB2.out
  have g1 : W0.cell? ⟨w.heap.size + 1, 0, none⟩ = some (.int .i64 ac) := keep_cell HB2.out ((HT1.out.cell 0).trans rfl)
  have g2 : W0.cell? ⟨w.heap.size + 1 + 1, 0, none⟩ = some (.int .i64 dm) := keep_cell HB2.out ((HT2.out.cell 0).trans rfl)
  have g3 : W0.cell? ⟨w.heap.size + 1 + 1 + 1, 0, none⟩ = some (.int .i64 cu) := keep_cell HB2.out ((HT3.out.cell 0).trans rfl)
  have g4 : W0.cell? ⟨w.heap.size + 1 + 1 + 1 + 1, 0, none⟩ = some (.int .i64 0) := keep_cell HB2.out ((HT4.out.cell 0).trans rfl)
  have g5 : W0.cell? ⟨w.heap.size + 1 + 1 + 1 + 1 + 1, 0, none⟩ = some (.int .i64 0) := keep_cell HB2.out ((HT5.out.cell 0).trans rfl)
  have fr4 : W0.frozen? ⟨w.heap.size + 1 + 1 + 1 + 1, 0, none⟩ = false := keep_fr HB2.out HT4.out.lt (HT4.out.fr 0)
  have fr5 : W0.frozen? ⟨w.heap.size + 1 + 1 + 1 + 1 + 1, 0, none⟩ = false := keep_fr HB2.out HT5.out.lt (HT5.out.fr 0)
  refine wpIn_rangeFunc_ownH rfl h1 (gf := 47) (lb := #[.pointer (some ⟨w1.heap.size, 0, none⟩), .pointer (some ⟨w1.heap.size + 1, 0, none⟩), .pointer (some ⟨w1.heap.size + 1 + 1, 0, none⟩)]) rfl trivial (enters_of Try.func47 (by kernel_rfl) rfl)
    (lines_stops (n - 1) (by omega) (w.heap.size + 1 + 1 + 1 + 1) (w.heap.size + 1 + 1 + 1 + 1 + 1 + 1) W0.heap.size w1.heap.size (w1.heap.size + 1) (w1.heap.size + 1 + 1) f t ad len cap es W0 hlen HSO.out (Nat.le_refl _) w HR.out BW (by omega) BW.size
      (fun W' k => ⟨by rw [k.cell (by omega) (by omega), F1.cell]; rfl, by rw [k.cell (by omega) (by omega), F2.cell]; rfl, by rw [k.cell (by omega) (by omega), F3.cell]; rfl⟩))
    KS.trans (fun W l o o' hl hh _ _ => KS.put W l o o' hl hh) (Below.refl _ _) (fun _ => rfl)
    (fun pre W => (W.cell? ⟨w.heap.size + 1 + 1 + 1 + 1, 0, none⟩ = some (.int .i64 (balL ac dm cu (vals pre)).1) ∧ W.frozen? ⟨w.heap.size + 1 + 1 + 1 + 1, 0, none⟩ = false ∧ W.cell? ⟨w.heap.size + 1 + 1 + 1 + 1 + 1, 0, none⟩ = some (.int .i64 (balL ac dm cu (vals pre)).2) ∧ W.frozen? ⟨w.heap.size + 1 + 1 + 1 + 1 + 1, 0, none⟩ = false ∧ W.cell? ⟨w.heap.size + 1, 0, none⟩ = some (.int .i64 ac) ∧ W.cell? ⟨w.heap.size + 1 + 1, 0, none⟩ = some (.int .i64 dm) ∧ W.cell? ⟨w.heap.size + 1 + 1 + 1, 0, none⟩ = some (.int .i64 cu) ∧ W0.heap.size ≤ W.heap.size) ∧ Below w.heap.size w W)
    (fun c pre W => False)
    (OwnFrom.and (Own.from (fun s A B row hs hg hr => ⟨cell_kept hs.1 hg hr, (frozen_kept hs.1 hg hr).trans hs.2.1, cell_kept hs.2.2.1 hg hr, (frozen_kept hs.2.2.1 hg hr).trans hs.2.2.2.1, cell_kept hs.2.2.2.2.1 hg hr, cell_kept hs.2.2.2.2.2.1 hg hr, cell_kept hs.2.2.2.2.2.2.1 hg hr, Nat.le_trans hs.2.2.2.2.2.2.2 hg.size⟩) _) (ownFrom_below (Nat.le_refl _) (by omega)))
    (fun c _ _ _ _ h _ _ => h)
    ⟨⟨g4, fr4, g5, fr5, g1, g2, g3, Nat.le_refl _⟩, BW⟩
    (fun x a' W => ∃ b, a' = { tmps := #[.agg #[.slice ad len cap, .int .i64 hd], .int .i64 ac, .int .i64 dm, .int .i64 cu, .int .i64 f, .int .i64 t, .pointer (some ⟨w.heap.size, 0, none⟩), .pointer (some ⟨w.heap.size + 1, 0, none⟩), .pointer (some ⟨w.heap.size + 1 + 1, 0, none⟩), .pointer (some ⟨w.heap.size + 1 + 1 + 1, 0, none⟩), undef, undef, .int .i64 0, .int .i64 0, .pointer (some ⟨w.heap.size + 1 + 1 + 1 + 1, 0, none⟩), .pointer (some ⟨w.heap.size + 1 + 1 + 1 + 1 + 1, 0, none⟩), .pointer (some ⟨b, 0, none⟩), .agg #[.slice ad len cap, .int .i64 hd], .bool true, .bool (!true), undef, undef, .agg #[.slice ad len cap, .int .i64 hd], .int .i64 f, .int .i64 t, .func (.func 47) #[] #[.pointer (some ⟨w1.heap.size, 0, none⟩), .pointer (some ⟨w1.heap.size + 1, 0, none⟩), .pointer (some ⟨w1.heap.size + 1 + 1, 0, none⟩)], x.1.agg, undef, undef, undef, undef, undef, undef, undef, undef, undef, undef, undef, undef, undef, undef, undef, undef, undef, undef, undef, undef, undef, undef, undef, undef, undef, undef], defers := [] } ∧ W.cell? ⟨b, 0, none⟩ = some (.int .i64 x.1.acc) ∧ W.cell? ⟨b, 0 + 1, none⟩ = some (.int .i64 x.1.dim) ∧ W.cell? ⟨b, 0 + 2, none⟩ = some (.int .i64 x.1.cur) ∧ W.cell? ⟨b, 0 + 3, none⟩ = some (.int .i64 x.1.amt) ∧ W.cell? ⟨b, 0 + 4, none⟩ = some (.int .i64 x.1.base))
    (fun x a' => Own.from (fun s A B row hs hg hr => by obtain ⟨b, e, c0, c1, c2, c3, c4⟩ := hs; exact ⟨b, e, cell_kept c0 hg hr, cell_kept c1 hg hr, cell_kept c2 hg hr, cell_kept c3 hg hr, cell_kept c4 hg hr⟩) _) ?assign ?body ?done ?stop
  case assign =>
    rintro l pre ⟨⟨xa, xd, xc, xm, xb⟩, hx⟩ W K ⟨⟨i1, i2, i3, i4, i5, i6, i7, i9⟩, i8⟩ hK
    simp only [L5.agg]
    gi_wp2
    have hg := World.grownBy_alloc W (.cells #[.int .i64 xa, .int .i64 xd, .int .i64 xc, .int .i64 xm, .int .i64 xb] 32 (0, 0)) none
    have hrow : ∀ r, (none : Option Nat) = some r → ∃ o : Obj, W.heap[r]? = some o ∧ o.isCells = false := fun r e => by cases e
    have X : CB (W.alloc (.cells #[.int .i64 xa, .int .i64 xd, .int .i64 xc, .int .i64 xm, .int .i64 xb] 32 (0, 0))) W.heap.size _ _ := CB.new _ _
    exact hK _ _ (KeepsFrom.of_grownBy hg (fun j e => by cases e)) (KS.of_below ((Below.refl _ _).alloc (Nat.le_refl _) _) i9)
      ⟨⟨cell_kept i1 hg hrow, (frozen_kept i1 hg hrow).trans i2, cell_kept i3 hg hrow, (frozen_kept i3 hg hrow).trans i4, cell_kept i5 hg hrow, cell_kept i6 hg hrow, cell_kept i7 hg hrow, Nat.le_trans i9 hg.size⟩, i8.alloc i8.size _⟩
      ⟨W.heap.size, rfl, (X.cell 0).trans rfl, (X.cell 1).trans rfl, (X.cell 2).trans rfl, (X.cell 3).trans rfl, (X.cell 4).trans rfl⟩
  case body =>
    rintro l pre ⟨⟨xa, xd, xc, xm, xb⟩, hx⟩ a' W hl hr ⟨⟨i1, i2, i3, i4, i5, i6, i7, i9⟩, i8⟩ ⟨b, rfl, c0, c1, c2, c3, c4⟩ hN
    have HB : Hid (Below w.heap.size w W) := i8
    have hbd := balL_bound ac dm cu (vals pre) (fun y hy => by simp only [vals, List.mem_map] at hy; obtain ⟨q, _, rfl⟩ := hy; exact q.2)
    rw [vals_len] at hbd
    have hpl : (pre.length : Int) ≤ 60000 := by have := HYL.out; omega
    have HSN : Hid (vals (pre ++ [⟨⟨xa, xd, xc, xm, xb⟩, hx⟩]) = vals pre ++ [⟨xa, xd, xc, xm, xb⟩]) := vals_snoc _ _
    have HIT : Hid (∀ h : hitB ac dm cu ⟨xa, xd, xc, xm, xb⟩ = true, balL ac dm cu (vals (pre ++ [⟨⟨xa, xd, xc, xm, xb⟩, hx⟩])) = ((balL ac dm cu (vals pre)).1 + xm, (balL ac dm cu (vals pre)).2 + xb)) := fun h => by rw [HSN.out, balL_snoc_hit h]
    have NOT : Hid (∀ h : hitB ac dm cu ⟨xa, xd, xc, xm, xb⟩ = false, balL ac dm cu (vals (pre ++ [⟨⟨xa, xd, xc, xm, xb⟩, hx⟩])) = balL ac dm cu (vals pre)) := fun h => by rw [HSN.out, balL_snoc_not h]
    have hx1 := hx.1.1
    have hx2 := hx.1.2
    have hx3 := hx.2.1
    have hx4 := hx.2.2
    simp only at hx1 hx2 hx3 hx4 c0 c1 c2 c3 c4
    have H1 : Hid (W.cell? ⟨w.heap.size + 1 + 1 + 1 + 1, 0, none⟩ = some (.int .i64 (balL ac dm cu (vals pre)).1)) := i1
    have H3 : Hid (W.cell? ⟨w.heap.size + 1 + 1 + 1 + 1 + 1, 0, none⟩ = some (.int .i64 (balL ac dm cu (vals pre)).2)) := i3
    generalize balL ac dm cu (vals pre) = S at i1 i3 H1 H3 hbd HIT NOT
    obtain ⟨SA, SB⟩ := S
    simp only at i1 i3 hbd
    obtain ⟨⟨a1, a2⟩, b1, b2⟩ := hbd
    clear i8 HSN hN
    simp only [L5.agg]
    cases ha : askB ac xa with
    | false =>
      have HNO := NOT.out (by unfold hitB; rw [ha]; rfl)
      have HNO : Hid (balL ac dm cu (vals (pre ++ [⟨⟨xa, xd, xc, xm, xb⟩, hx⟩])) = (SA, SB)) := HNO
      clear NOT HIT
      gi_wp2_with (refine ⟨trivial, fun _ => (by omega), ?_⟩; gi_at_call 37; refine ((callsIn_wide.2 (isAsked_any _ _ _)).inRound _).mono ?_; rintro e w' ⟨rfl, ew⟩; replace ew := ew.symm; subst ew; first | rw [ha] | rw [hb] | rw [hc])
      iterate 2 (try (refine ⟨(trivial : Fence.wide.fn 37), ?_⟩; gi_wp2))
      exact ⟨KeepsFrom.refl _ _, KS.refl _ _ _ _, ⟨by rw [HNO.out]; exact H1.out, i2, by rw [HNO.out]; exact H3.out, i4, i5, i6, i7, i9⟩, HB.out⟩
    | true =>
    cases hb : askB dm xd with
    | false =>
      have HNO : Hid (balL ac dm cu (vals (pre ++ [⟨⟨xa, xd, xc, xm, xb⟩, hx⟩])) = (SA, SB)) := NOT.out (by unfold hitB; rw [ha, hb]; rfl)
      clear NOT HIT
      gi_wp2_with (refine ⟨trivial, fun _ => (by omega), ?_⟩; gi_at_call 37; refine ((callsIn_wide.2 (isAsked_any _ _ _)).inRound _).mono ?_; rintro e w' ⟨rfl, ew⟩; replace ew := ew.symm; subst ew; first | rw [ha] | rw [hb] | rw [hc])
      iterate 2 (try (refine ⟨(trivial : Fence.wide.fn 37), ?_⟩; gi_wp2))
      exact ⟨KeepsFrom.refl _ _, KS.refl _ _ _ _, ⟨by rw [HNO.out]; exact H1.out, i2, by rw [HNO.out]; exact H3.out, i4, i5, i6, i7, i9⟩, HB.out⟩
    | true =>
    cases hc : askB cu xc with
    | false =>
      have HNO : Hid (balL ac dm cu (vals (pre ++ [⟨⟨xa, xd, xc, xm, xb⟩, hx⟩])) = (SA, SB)) := NOT.out (by unfold hitB; rw [ha, hb, hc]; rfl)
      clear NOT HIT
      gi_wp2_with (refine ⟨trivial, fun _ => (by omega), ?_⟩; gi_at_call 37; refine ((callsIn_wide.2 (isAsked_any _ _ _)).inRound _).mono ?_; rintro e w' ⟨rfl, ew⟩; replace ew := ew.symm; subst ew; first | rw [ha] | rw [hb] | rw [hc])
      iterate 2 (try (refine ⟨(trivial : Fence.wide.fn 37), ?_⟩; gi_wp2))
      exact ⟨KeepsFrom.refl _ _, KS.refl _ _ _ _, ⟨by rw [HNO.out]; exact H1.out, i2, by rw [HNO.out]; exact H3.out, i4, i5, i6, i7, i9⟩, HB.out⟩
    | true =>
      have HYES : Hid (balL ac dm cu (vals (pre ++ [⟨⟨xa, xd, xc, xm, xb⟩, hx⟩])) = (SA + xm, SB + xb)) := HIT.out (by unfold hitB; rw [ha, hb, hc]; rfl)
      clear NOT HIT
      gi_wp2_with (refine ⟨trivial, fun _ => (by omega), ?_⟩; gi_at_call 37; refine ((callsIn_wide.2 (isAsked_any _ _ _)).inRound _).mono ?_; rintro e w' ⟨rfl, ew⟩; replace ew := ew.symm; subst ew; first | rw [ha] | rw [hb] | rw [hc])
      refine ⟨((KeepsOthers.setCell _ _ _).from _).trans ((KeepsOthers.setCell _ _ _).from _), (KS.set (by omega) (by omega) _).trans (KS.set (by omega) (by omega) _), ⟨?_, ?_, ?_, ?_, ?_, ?_, ?_, ?_⟩, (HB.out.setCell (by simp; omega) _).setCell (by simp; omega) _⟩
      · rw [HYES.out, World.cell?_of_block (w := W.setCell ⟨w.heap.size + 1 + 1 + 1 + 1, 0, none⟩ (.int .i64 (SA + xm))) (Below.heap_setCell _ _ _ _ (by simp)), World.cell?_setCell_same' _ _ _ (by rw [i1]; rfl)]
      · rw [World.frozen?_setCell, World.frozen?_setCell]; exact i2
      · rw [HYES.out, World.cell?_setCell_same' _ _ _ (by rw [World.cell?_of_block (w := W) (Below.heap_setCell _ _ _ _ (by simp)), i3]; rfl)]
      · rw [World.frozen?_setCell, World.frozen?_setCell]; exact i4
      · rw [World.cell?_of_block (w := W) ((Below.heap_setCell _ _ _ _ (by simp; try omega)).trans (Below.heap_setCell _ _ _ _ (by simp; try omega)))]; exact i5
      · rw [World.cell?_of_block (w := W) ((Below.heap_setCell _ _ _ _ (by simp; try omega)).trans (Below.heap_setCell _ _ _ _ (by simp; try omega)))]; exact i6
      · rw [World.cell?_of_block (w := W) ((Below.heap_setCell _ _ _ _ (by simp; try omega)).trans (Below.heap_setCell _ _ _ _ (by simp; try omega)))]; exact i7
      · simpa [World.setCell] using i9
  case done =>
    rintro D ys W hD hv ⟨⟨i1, i2, i3, i4, i5, i6, i7, i9⟩, i8⟩ hK
    rw [hv] at i1 i3
    have HF : Hid (balV ac dm cu f t len es = balL ac dm cu (ylS f t es len)) := balV_t hs
    generalize balL ac dm cu (ylS f t es len) = S at i1 i3 HF
    obtain ⟨SA, SB⟩ := S
    simp only at i1 i3
    gi_wp2
    gi_quiet_th (fail)
    gi_wp2
    refine ⟨by simp, .inl ⟨_, _, rfl, run_takeDeferred hK, ?_⟩⟩
    exact ⟨_, results_tmp2 rfl _ _ _, (by rw [HF.out]; rfl), (show Below w.heap.size w (W.drewN nq) from ⟨i8.os, i8.tape, i8.output, i8.size, i8.block⟩).trans (belowK_b (w := w) (Nat.le_refl _) (W.drewN nq) D _ _ (by omega) hK rfl rfl)⟩
  case stop =>
    intro D c pre W hD hp h
    exact h.elim


set_option maxHeartbeats 1000000 in
theorem implBal_any (ad : Option Addr) (len cap : Nat) (es : Nat → E4) (hd ac dm cu f t : Int) (w : World) (hr : ER w ad len es) :
    Calls Try.prog 17 #[.agg #[.slice ad len cap, .int .i64 hd], .int .i64 ac, .int .i64 dm, .int .i64 cu, .int .i64 f, .int .i64 t] w fun e w' => e = .returned (.tuple #[.int .i64 (balV ac dm cu f t len es).1, .int .i64 (balV ac dm cu f t len es).2]) ∧ Below w.heap.size w w' := by
  cases hs : smB len es with
  | true => exact (callsIn_wide (n := 3)).1 (implBal_in 3 (Nat.le_refl _) ad len cap es hd ac dm cu f t w hr hs)
  | false =>
    have HF : Hid (balV ac dm cu f t len es = (0, 0)) := balV_f hs
    have HR : Hid (ER w ad len es) := hr
    have HBA : Hid (Below w.heap.size w ((((((w.alloc (.cells #[.slice ad len cap, .int .i64 hd] 44 (0, 0))).alloc (.cells #[.int .i64 ac] 3 (0, 0))).alloc (.cells #[.int .i64 dm] 3 (0, 0))).alloc (.cells #[.int .i64 cu] 3 (0, 0))).alloc (.cells #[.int .i64 0] 3 (0, 0))).alloc (.cells #[.int .i64 0] 3 (0, 0)))) := ((((((Below.refl _ w).alloc (Nat.le_refl _) _).alloc (by simp) _).alloc (by simp; omega) _).alloc (by simp; omega) _).alloc (by simp; omega) _).alloc (by simp; omega) _
    clear hr
    go_enter Try.func17, Try.ntmps17
    go_wp2_with (go_at_call 35; refine (isSummable_any _ _ _ es _ _ (HR.out.below HBA.out)).mono ?_; rintro e w1 ⟨rfl, b1⟩; rw [hs]; have T4 : CB w1 (w.heap.size + 1 + 1 + 1 + 1) #[.int .i64 0] 3 := ((CB.newAt (by simp) _ _).alloc _).below b1 (by first | (simp; done) | (simp; omega)); have T5 : CB w1 (w.heap.size + 1 + 1 + 1 + 1 + 1) #[.int .i64 0] 3 := (CB.newAt (by simp) _ _).below b1 (by first | (simp; done) | (simp; omega)); have t4 := (T4.cell 0).trans rfl; have t5 := (T5.cell 0).trans rfl; have HB1 : Hid (Below w.heap.size w w1) := bel_on HBA.out b1; clear b1 T4 T5)
    go_quiet (fail)
    go_wp2
    go_returns
    exact ⟨ret_two' HF.out, (show Below w.heap.size w (w1.drewN nq) from ⟨HB1.out.os, HB1.out.tape, HB1.out.output, HB1.out.size, HB1.out.block⟩)⟩

end Go.Proofs.Ytgnhpjlfdkpaiaa
