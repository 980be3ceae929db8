/- nthOpen of the program, over the iterator of open hours: left by a goto at the n-th. -/
import Derived.Test.YtogolmbgboihdaaOc
import Derived.ScopeJumps
namespace Go.Proofs.Ytogolmbgboihdaa
open Go Go.RowKit Go.Shelf
attribute [local go_sem] Oper.semAt_some
set_option linter.unusedVariables false
set_option linter.unusedSimpArgs false

theorem jump_ret {l : Nat} {J : Act → World → Prop} {Q : Exit → Act → World → Prop} {a : Act} {w : World} : Exit.jump l J Q .ret a w = Q .ret a w := rfl
theorem openHours_any (x0 x1 x2 fr : Int) (w : World) :
    Calls Try.prog 89 #[.agg #[.int .i64 x0, .int .i64 x1, .int .i64 x2], .int .i64 fr] w fun e w' =>
      e = .returned (.func (.func 105) #[] #[.pointer (some ⟨w.heap.size + 1, 0, none⟩), .pointer (some ⟨w.heap.size, 0, none⟩)]) ∧
      w' = (w.alloc (.cells #[.int .i64 x0, .int .i64 x1, .int .i64 x2] 43 (0, 0))).alloc (.cells #[.int .i64 fr] 3 (0, 0)) := by
  go_enter Try.func89, Try.ntmps89
  go_wp2
  go_returns
  exact ⟨rfl, rfl⟩
/-- openHours hands back a value that goes over these hours. -/
theorem hours_stops (n : Nat) (hn : 1 ≤ n) (lo hi n₀ b1 b2 : Nat) (fr x0 x1 x2 : Int) (w : World)
    (f0 : 0 ≤ fr) (f1 : fr ≤ 5000) (hn₀ : n₀ ≤ w.heap.size)
    (hm : ∀ W', KS lo hi n₀ w W' → W'.cell? ⟨b1, 0, none⟩ = some (.int .i64 fr) ∧ W'.cell? ⟨b2, 0, none⟩ = some (.int .i64 x0) ∧ W'.cell? ⟨b2, 1, none⟩ = some (.int .i64 x1) ∧ W'.cell? ⟨b2, 2, none⟩ = some (.int .i64 x2)) :
    SeqStopsK Fence.wide n Try.prog 105 #[.pointer (some ⟨b1, 0, none⟩), .pointer (some ⟨b2, 0, none⟩)] (fun x : Int => #[Value.int .i64 x]) (KS lo hi n₀)
      (fun ys => ys = ol x0 x1 (far fr) fr) (fun pre => pre <+: ol x0 x1 (far fr) fr) (ol x0 x1 (far fr) fr).length w :=
  fun l J Jx W hW hJ _ hY h0 => hours_in n hn l lo hi n₀ b1 b2 fr x0 x1 x2 J Jx W f0 f1 (Nat.le_trans hn₀ hW.size) (fun W' hW' => hm W' ((KS.of_below hW hn₀).trans hW')) hJ hY h0

set_option maxRecDepth 100000 in
set_option maxHeartbeats 4000000 in
theorem nthOpen_in (m : Nat) (hm3 : 3 ≤ m) (x0 x1 x2 fr n : Int) (w : World) (f0 : 0 ≤ fr) (f1 : fr ≤ 5000) (n0 : 1 ≤ n) (n1 : n ≤ 1000) :
    CallsIn Fence.wide m Try.prog 58 #[.agg #[.int .i64 x0, .int .i64 x1, .int .i64 x2], .int .i64 fr, .int .i64 n] w fun e w' => e = .returned (.int .i64 (pick (ol x0 x1 (far fr) fr) (n - 1).toNat)) ∧ Below w.heap.size w w' := by
  have h1 : 1 ≤ m := by omega
  refine callsIn_of_wp_marks Try.func58 rfl trivial ?_ rfl
  simp only [Try.ntmps58, List.size_toArray, List.length_cons, List.length_nil, Nat.reduceAdd, Nat.reduceSub, Array.replicate_succ, Array.replicate_zero, List.push_toArray, List.append_toArray, List.nil_append, List.cons_append]
  gi_wp2
  refine wpIn_wide.2 (wp_scope_jumps 0 (fun a' W' => ∃ (D : Nat) (x : Int), a' = { tmps := #[.agg #[.int .i64 x0, .int .i64 x1, .int .i64 x2], .int .i64 fr, .int .i64 n, .pointer (some ⟨w.heap.size, 0, none⟩), undef, .pointer (some ⟨w.heap.size + 1, 0, none⟩), .int .i64 0, .pointer (some ⟨w.heap.size + 1 + 1, 0, none⟩), .agg #[.int .i64 x0, .int .i64 x1, .int .i64 x2], .int .i64 fr, .func (.func 105) #[] #[.pointer (some ⟨w.heap.size + 1 + 1 + 1 + 1, 0, none⟩), .pointer (some ⟨w.heap.size + 1 + 1 + 1, 0, none⟩)], undef, undef, undef, undef, undef, undef], defers := [{ target := .collected D, args := #[] }] } ∧ w.heap.size ≤ D ∧ W'.heap[D]? = some (.deferred (some [])) ∧ W'.cell? ⟨w.heap.size + 1 + 1, 0, none⟩ = some (.int .i64 x) ∧ pick (ol x0 x1 (far fr) fr) (n - 1).toNat = x ∧ Below w.heap.size w W') (fun _ _ => 0) rfl ?first ?pass)
  case first =>
    refine (wpIn_wide (n := m)).1 ?_
    gi_wp2_with (refine ⟨trivial, ?_⟩; gi_at_call 89; refine (callsIn_wide.2 (openHours_any _ _ _ _ _)).mono ?_; rintro e w' ⟨rfl, rfl⟩)
    have B0 : Below w.heap.size w (((((w.alloc (.cells #[.int .i64 x0, .int .i64 x1, .int .i64 x2] 43 (0, 0))).alloc (.cells #[.int .i64 n] 3 (0, 0))).alloc (.cells #[.int .i64 0] 3 (0, 0))).alloc (.cells #[.int .i64 x0, .int .i64 x1, .int .i64 x2] 43 (0, 0))).alloc (.cells #[.int .i64 fr] 3 (0, 0))) := ((((((Below.refl _ w).alloc (Nat.le_refl _) _).alloc (by simp) _).alloc (by simp; omega) _).alloc (by simp; omega) _).alloc (by simp; omega) _)
    have N0 : CB (((((w.alloc (.cells #[.int .i64 x0, .int .i64 x1, .int .i64 x2] 43 (0, 0))).alloc (.cells #[.int .i64 n] 3 (0, 0))).alloc (.cells #[.int .i64 0] 3 (0, 0))).alloc (.cells #[.int .i64 x0, .int .i64 x1, .int .i64 x2] 43 (0, 0))).alloc (.cells #[.int .i64 fr] 3 (0, 0))) (w.heap.size + 1) #[.int .i64 n] 3 := (((CB.newAt (by simp) _ _).alloc _).alloc _).alloc _
    have H0 : CB (((((w.alloc (.cells #[.int .i64 x0, .int .i64 x1, .int .i64 x2] 43 (0, 0))).alloc (.cells #[.int .i64 n] 3 (0, 0))).alloc (.cells #[.int .i64 0] 3 (0, 0))).alloc (.cells #[.int .i64 x0, .int .i64 x1, .int .i64 x2] 43 (0, 0))).alloc (.cells #[.int .i64 fr] 3 (0, 0))) (w.heap.size + 1 + 1) #[.int .i64 0] 3 := ((CB.newAt (by simp) _ _).alloc _).alloc _
    have M0 : CB (((((w.alloc (.cells #[.int .i64 x0, .int .i64 x1, .int .i64 x2] 43 (0, 0))).alloc (.cells #[.int .i64 n] 3 (0, 0))).alloc (.cells #[.int .i64 0] 3 (0, 0))).alloc (.cells #[.int .i64 x0, .int .i64 x1, .int .i64 x2] 43 (0, 0))).alloc (.cells #[.int .i64 fr] 3 (0, 0))) (w.heap.size + 1 + 1 + 1) #[.int .i64 x0, .int .i64 x1, .int .i64 x2] 43 := (CB.newAt (by simp) _ _).alloc _
    have F0 : CB (((((w.alloc (.cells #[.int .i64 x0, .int .i64 x1, .int .i64 x2] 43 (0, 0))).alloc (.cells #[.int .i64 n] 3 (0, 0))).alloc (.cells #[.int .i64 0] 3 (0, 0))).alloc (.cells #[.int .i64 x0, .int .i64 x1, .int .i64 x2] 43 (0, 0))).alloc (.cells #[.int .i64 fr] 3 (0, 0))) (w.heap.size + 1 + 1 + 1 + 1) #[.int .i64 fr] 3 := CB.newAt (by simp) _ _
    have hsz : (((((w.alloc (.cells #[.int .i64 x0, .int .i64 x1, .int .i64 x2] 43 (0, 0))).alloc (.cells #[.int .i64 n] 3 (0, 0))).alloc (.cells #[.int .i64 0] 3 (0, 0))).alloc (.cells #[.int .i64 x0, .int .i64 x1, .int .i64 x2] 43 (0, 0))).alloc (.cells #[.int .i64 fr] 3 (0, 0))).heap.size = w.heap.size + 5 := by simp
    obtain ⟨W0, hW0⟩ : ∃ W0, (((((w.alloc (.cells #[.int .i64 x0, .int .i64 x1, .int .i64 x2] 43 (0, 0))).alloc (.cells #[.int .i64 n] 3 (0, 0))).alloc (.cells #[.int .i64 0] 3 (0, 0))).alloc (.cells #[.int .i64 x0, .int .i64 x1, .int .i64 x2] 43 (0, 0))).alloc (.cells #[.int .i64 fr] 3 (0, 0))) = W0 := ⟨_, rfl⟩
    rw [hW0] at B0 N0 H0 M0 F0 hsz
    try rw [hW0]
    clear hW0
    have a0 := (N0.cell 0).trans rfl
    have af := N0.fr 0
    have g0 := (H0.cell 0).trans rfl
    have gf := H0.fr 0
    refine wpIn_rangeFunc_ownH rfl h1 (gf := 105) (lb := #[.pointer (some ⟨w.heap.size + 1 + 1 + 1 + 1, 0, none⟩), .pointer (some ⟨w.heap.size + 1 + 1 + 1, 0, none⟩)]) rfl trivial (enters_of Try.func105 (by kernel_rfl) rfl)
      (hours_stops (m - 1) (by omega) (w.heap.size + 1) (w.heap.size + 1 + 1 + 1) W0.heap.size (w.heap.size + 1 + 1 + 1 + 1) (w.heap.size + 1 + 1 + 1) fr x0 x1 x2 W0 f0 f1 (Nat.le_refl _)
        (fun W' k => ⟨by rw [k.cell (by omega) (by omega), F0.cell]; rfl, by rw [k.cell (by omega) (by omega), M0.cell]; rfl, by rw [k.cell (by omega) (by omega), M0.cell]; rfl, by rw [k.cell (by omega) (by omega), M0.cell]; rfl⟩))
      KS.trans (fun W l o o' hl hh _ _ => KS.put W l o o' hl hh) (Below.refl _ _) (fun _ => rfl)
      (fun pre W => (W.cell? ⟨w.heap.size + 1, 0, none⟩ = some (.int .i64 (n - (pre.length : Int))) ∧ W.frozen? ⟨w.heap.size + 1, 0, none⟩ = false ∧ (∃ v, W.cell? ⟨w.heap.size + 1 + 1, 0, none⟩ = some v) ∧ W.frozen? ⟨w.heap.size + 1 + 1, 0, none⟩ = false ∧ (pre.length : Int) < n) ∧ Below w.heap.size w W)
      (fun c pre W => (c = .goto 0 ∧ (∃ p x, pre = p ++ [x] ∧ (p.length : Int) = n - 1 ∧ W.cell? ⟨w.heap.size + 1 + 1, 0, none⟩ = some (.int .i64 x))) ∧ Below w.heap.size w W)
      (OwnFrom.and (Own.from (fun s A B row hs hg hr => ⟨cell_kept hs.1 hg hr, (frozen_kept hs.1 hg hr).trans hs.2.1, (by obtain ⟨v, hv⟩ := hs.2.2.1; exact ⟨v, cell_kept hv hg hr⟩), (by obtain ⟨v, hv⟩ := hs.2.2.1; exact (frozen_kept hv hg hr).trans hs.2.2.2.1), hs.2.2.2.2⟩) _) (ownFrom_below (Nat.le_refl _) (by omega)))
      (fun c => OwnFrom.and (Own.from (fun s A B row hs hg hr => ⟨hs.1, by obtain ⟨p, x, e1, e2, e4⟩ := hs.2; exact ⟨p, x, e1, e2, cell_kept e4 hg hr⟩⟩) _) (ownFrom_below (Nat.le_refl _) (by omega)))
      ⟨⟨by simpa using a0, af, ⟨_, g0⟩, gf, by simp; omega⟩, B0⟩
      (fun x a' W => a' = { tmps := #[.agg #[.int .i64 x0, .int .i64 x1, .int .i64 x2], .int .i64 fr, .int .i64 n, .pointer (some ⟨w.heap.size, 0, none⟩), undef, .pointer (some ⟨w.heap.size + 1, 0, none⟩), .int .i64 0, .pointer (some ⟨w.heap.size + 1 + 1, 0, none⟩), .agg #[.int .i64 x0, .int .i64 x1, .int .i64 x2], .int .i64 fr, .func (.func 105) #[] #[.pointer (some ⟨w.heap.size + 1 + 1 + 1 + 1, 0, none⟩), .pointer (some ⟨w.heap.size + 1 + 1 + 1, 0, none⟩)], .int .i64 x, undef, undef, undef, undef, undef], defers := [] } ∧ W.cell? ⟨w.heap.size + 1 + 1, 0, none⟩ = some (.int .i64 x))
      (fun x a' => Own.from (fun s A B row hs hg hr => ⟨hs.1, cell_kept hs.2 hg hr⟩) _) ?assign ?body ?done ?stop
    case assign =>
      rintro l pre x W K ⟨⟨hc, hf, ⟨v, hg⟩, hgf, hlt⟩, hB⟩ hK
      gi_wp2
      refine hK _ _ ((KeepsOthers.setCell _ _ _).from _) (KS.set (by omega) (by omega) _) ⟨⟨?_, ?_, ⟨_, World.cell?_setCell_same' _ _ _ (by rw [hg]; rfl)⟩, ?_, hlt⟩, hB.setCell (by simp; omega) _⟩ ⟨rfl, World.cell?_setCell_same' _ _ _ (by rw [hg]; rfl)⟩
      · rw [World.cell?_of_block (w := W) (Below.heap_setCell _ _ _ _ (by simp))]; exact hc
      · rw [World.frozen?_setCell]; exact hf
      · rw [World.frozen?_setCell]; exact hgf
    case body =>
      rintro l pre x a' W hl hr ⟨⟨hc, hf, ⟨v, hg0⟩, hgf, hlt⟩, hB⟩ ⟨rfl, hg⟩ hN
      obtain ⟨q, hq⟩ : ∃ q, n - (pre.length : Int) = q := ⟨_, rfl⟩
      rw [hq] at hc
      have q1 : 1 ≤ q := by omega
      have q2 : q ≤ 2000 := by omega
      have HQ : Hid (n - (pre.length : Int) = q) := hq
      have HB : Hid (Below w.heap.size w W) := hB
      clear hB hN hq hlt
      by_cases hx : q = 1
      · subst hx
        gi_wp2
        refine wpIn_goto ?_
        exact ⟨(KeepsOthers.setCell _ _ _).from _, ⟨rfl, pre, x, rfl, by have := HQ.out; omega, (World.cell?_of_block (w := W) (Below.heap_setCell _ _ _ _ (by simp))).trans hg⟩, HB.out.setCell (by simp) _⟩
      · have hx' : (q - 1 == 0) = false := by simp; omega
        gi_wp2
        refine ⟨(KeepsOthers.setCell _ _ _).from _, KS.set (by omega) (by omega) _, ⟨?_, ?_, ?_, ?_, ?_⟩, HB.out.setCell (by simp) _⟩
        · rw [World.cell?_setCell_same' _ _ _ (by rw [hc]; rfl)]; have := HQ.out; simp; omega
        · rw [World.frozen?_setCell]; exact hf
        · exact ⟨_, (World.cell?_of_block (w := W) (Below.heap_setCell _ _ _ _ (by simp))).trans hg⟩
        · rw [World.frozen?_setCell]; exact hgf
        · have := HQ.out; simp; omega
    case done =>
      rintro D ys W hD rfl ⟨⟨hc, hf, hg, hgf, hlt⟩, hB⟩ hK
      have HC : Hid (pick (ol x0 x1 (far fr) fr) (n - 1).toNat = -1) := by
        unfold Hid pick; rw [List.getElem?_eq_none (by omega)]; rfl
      clear hc hlt hg
      gi_wp2
      rw [jump_ret]
      refine ⟨by simp, .inl ⟨_, _, rfl, run_takeDeferred hK, ?_⟩⟩
      exact ⟨_, results_tmp rfl _ _ _, (by rw [HC.out]; rfl), hB.trans (belowK_b (w := w) (Nat.le_refl _) W D _ _ (by omega) hK rfl rfl)⟩
    case stop =>
      rintro D c pre W hD hpre ⟨⟨rfl, p, x, rfl, e2, e4⟩, hB⟩ hK
      have HC : Hid (pick (ol x0 x1 (far fr) fr) (n - 1).toNat = x) := by
        obtain ⟨rest, hrest⟩ := hpre
        unfold Hid pick
        rw [← hrest, List.append_assoc, List.getElem?_append_right (by omega), show (n - 1).toNat - p.length = 0 by omega]
        rfl
      refine wpIn_goto ?_
      exact ⟨rfl, D, x, rfl, by omega, hK, e4, HC.out, hB⟩
  case pass =>
    rintro a' W' ⟨D, x, rfl, hD, hK, hc, hp, hB⟩
    refine (wpIn_wide (n := m)).1 ?_
    gi_wp2
    rw [jump_ret]
    refine ⟨by simp, .inl ⟨_, _, rfl, run_takeDeferred hK, ?_⟩⟩
    exact ⟨_, results_tmp rfl _ _ _, (by rw [hp]; rfl), hB.trans (belowK_b (w := w) (Nat.le_refl _) W' D _ _ (by omega) hK rfl rfl)⟩

theorem nthOpen_any (x0 x1 x2 fr n : Int) (w : World) (f0 : 0 ≤ fr) (f1 : fr ≤ 5000) (n0 : 1 ≤ n) (n1 : n ≤ 1000) :
    Calls Try.prog 58 #[.agg #[.int .i64 x0, .int .i64 x1, .int .i64 x2], .int .i64 fr, .int .i64 n] w fun e w' => e = .returned (.int .i64 (pick (ol x0 x1 (far fr) fr) (n - 1).toNat)) ∧ Below w.heap.size w w' :=
  (callsIn_wide (n := 3)).1 (nthOpen_in 3 (Nat.le_refl _) x0 x1 x2 fr n w f0 f1 n0 n1)
end Go.Proofs.Ytogolmbgboihdaa
