/- nthDay of the program over the iterator of working days. -/
import Derived.Test.YtadjdpoplaknkaaCa
namespace Go.Proofs.Ytadjdpoplaknkaa
open Go.RowKit Go.Shelf
attribute [local go_sem] Oper.semAt_some
set_option linter.unusedVariables false
set_option linter.unusedSimpArgs false

/-- The n-th of a list; -1 where there is none. -/
def pick (xs : List Int) (n : Int) : Int := (xs[(n - 1).toNat]?).getD (-1)

theorem pick_wl (wd : Int → Bool) (s : Int) : ∀ f d n, 1 ≤ n → nth wd s f d n = pick (wl wd s f d) n
  | 0, d, n, h => by simp [nth, wl, pick]
  | f + 1, d, n, h => by
    simp only [nth, wl]
    by_cases hd : 0 ≤ d ∧ d ≤ 40000
    · rw [if_pos hd, if_pos hd]
      by_cases hw : wd d = true
      · rw [if_pos hw, if_pos hw]
        by_cases h1 : n = 1
        · subst h1; simp [pick]
        · rw [if_neg h1, pick_wl wd s f (d + s) (n - 1) (by omega)]
          unfold pick
          rw [show (n - 1).toNat = (n - 1 - 1).toNat + 1 by omega, List.getElem?_cons_succ]
      · rw [if_neg hw, if_neg hw]; exact pick_wl wd s f (d + s) n h
    · rw [if_neg hd, if_neg hd]; simp [pick]

set_option maxRecDepth 100000 in
set_option maxHeartbeats 4000000 in
theorem nthDay_in (m : Nat) (hm3 : 3 ≤ m) (b1 b2 b3 : Nat) (first s n off : Int) (ad : Option Addr) (len cap : Nat) (z : Nat → Int) (w : World) (hs : s = 1 ∨ s = -1) (f0 : -1 ≤ first) (f1 : first ≤ 40001) (o1 : 0 ≤ off) (o2 : off ≤ 126) (h : (len : Int) ≤ 1048576) (hA : Asc len z) (n0 : 1 ≤ n) (n1 : n ≤ 2000)
    (c1 : CB w b1 #[.int .i64 first] 3) (c2 : CB w b2 #[.int .i64 s] 3) (c3 : CB w b3 #[.int .i64 off, .slice ad len cap] 26) (hr : IR w ad len z) :
    CallsIn Fence.wide m Try.prog 38 #[.func (.func 56) #[] #[.pointer (some ⟨b1, 0, none⟩), .pointer (some ⟨b2, 0, none⟩), .pointer (some ⟨b3, 0, none⟩)], .int .i64 n] w fun e w' => e = .returned (.int .i64 (pick (wl (workB off len z) s (far s first) first) n)) ∧ Below w.heap.size w w' := by
  have h1 : 1 ≤ m := by omega
  have l1 := c1.lt
  have l2 := c2.lt
  have l3 := c3.lt
  have HR : Hid (IR w ad len z) := hr
  refine callsIn_of_wp_marks Try.func38 rfl trivial ?_ rfl
  simp only [Try.ntmps38, List.size_toArray, List.length_cons, List.length_nil, Nat.reduceAdd, Nat.reduceSub, Array.replicate_succ, Array.replicate_zero, List.push_toArray, List.append_toArray, List.nil_append, List.cons_append]
  gi_wp2
  refine wpIn_scope ?_
  gi_wp2
  refine wpIn_label ?_
  gi_wp2
  have B0 : Below w.heap.size w ((w.alloc (.cells #[.int .i64 n] 3 (0, 0))).alloc (.cells #[.int .i64 (-1)] 3 (0, 0))) := ((Below.refl _ w).alloc (Nat.le_refl _) _).alloc (by simp) _
  have N0 : CB ((w.alloc (.cells #[.int .i64 n] 3 (0, 0))).alloc (.cells #[.int .i64 (-1)] 3 (0, 0))) w.heap.size #[.int .i64 n] 3 := (CB.newAt (by simp) _ _).alloc _
  have F0 : CB ((w.alloc (.cells #[.int .i64 n] 3 (0, 0))).alloc (.cells #[.int .i64 (-1)] 3 (0, 0))) (w.heap.size + 1) #[.int .i64 (-1)] 3 := CB.newAt (by simp) _ _
  have hsz : ((w.alloc (.cells #[.int .i64 n] 3 (0, 0))).alloc (.cells #[.int .i64 (-1)] 3 (0, 0))).heap.size = w.heap.size + 2 := by simp
  obtain ⟨W0, hW0⟩ : ∃ W0, ((w.alloc (.cells #[.int .i64 n] 3 (0, 0))).alloc (.cells #[.int .i64 (-1)] 3 (0, 0))) = W0 := ⟨_, rfl⟩
  rw [hW0] at B0 N0 F0 hsz ⊢
  clear hW0
  have a0 := N0.cell 0
  have af := N0.fr 0
  have g0 := F0.cell 0
  have gf := F0.fr 0
  simp at a0 g0
  have d1 := c1.below B0 l1
  have d2 := c2.below B0 l2
  have d3 := c3.below B0 l3
  refine wpIn_rangeFunc_ownF rfl h1 (gf := 56) (lb := #[.pointer (some ⟨b1, 0, none⟩), .pointer (some ⟨b2, 0, none⟩), .pointer (some ⟨b3, 0, none⟩)]) rfl trivial (enters_of Try.func56 (by kernel_rfl) rfl)
    (days_stops (m - 1) (by omega) w.heap.size (w.heap.size + 2) W0.heap.size b1 b2 b3 first s off ad len cap z W0 hs f0 f1 o1 o2 h hA (Nat.le_refl _)
      (fun W' k => ⟨by rw [k.cell (by omega) (by omega), d1.cell]; rfl, by rw [k.cell (by omega) (by omega), d2.cell]; rfl, by rw [k.cell (by omega) (by omega), d3.cell]; rfl, by rw [k.cell (by omega) (by omega), d3.cell]; rfl, HR.out.ks B0 k (by omega) (by omega)⟩))
    KS.trans (fun W l o o' hl hh _ _ => KS.put W l o o' hl hh) (Below.refl _ _) (fun _ => rfl)
    (fun pre W => (W.cell? ⟨w.heap.size, 0, none⟩ = some (.int .i64 (n - (pre.length : Int))) ∧ W.frozen? ⟨w.heap.size, 0, none⟩ = false ∧ W.cell? ⟨w.heap.size + 1, 0, none⟩ = some (.int .i64 (-1)) ∧ W.frozen? ⟨w.heap.size + 1, 0, none⟩ = false ∧ (pre.length : Int) < n) ∧ Below w.heap.size w W)
    (fun c pre W => (c = .exit 0 ∧ (∃ p x, pre = p ++ [x] ∧ (p.length : Int) = n - 1 ∧ W.cell? ⟨w.heap.size + 1, 0, none⟩ = some (.int .i64 x))) ∧ Below w.heap.size w W)
    (OwnFrom.and (Own.from (fun s A B row hs hg hr => ⟨cell_kept hs.1 hg hr, (frozen_kept hs.1 hg hr).trans hs.2.1, cell_kept hs.2.2.1 hg hr, (frozen_kept hs.2.2.1 hg hr).trans hs.2.2.2.1, hs.2.2.2.2⟩) _) (ownFrom_below (Nat.le_refl _) (by omega)))
    (fun c => OwnFrom.and (Own.from (fun s A B row hs hg hr => ⟨hs.1, by obtain ⟨p, x, e1, e2, e4⟩ := hs.2; exact ⟨p, x, e1, e2, cell_kept e4 hg hr⟩⟩) _) (ownFrom_below (Nat.le_refl _) (by omega)))
    ⟨⟨by simpa using a0, af, g0, gf, by simp; omega⟩, B0⟩
    (fun x => { tmps := #[.func (.func 56) #[] #[.pointer (some ⟨b1, 0, none⟩), .pointer (some ⟨b2, 0, none⟩), .pointer (some ⟨b3, 0, none⟩)], .int .i64 n, undef, .pointer (some ⟨w.heap.size, 0, none⟩), .int .i64 0, .pointer (some ⟨w.heap.size + 1, 0, none⟩), .int .i64 x, .func (.func 56) #[] #[.pointer (some ⟨b1, 0, none⟩), .pointer (some ⟨b2, 0, none⟩), .pointer (some ⟨b3, 0, none⟩)], .int .i64 x, undef, undef, undef, undef, undef, undef, undef], defers := [] }) ?assign ?body ?done ?stop
  case assign =>
    intro l x W K hK
    gi_wp2
    exact hK
  case body =>
    rintro l pre x W ⟨⟨hc, hf, hg, hgf, hlt⟩, hB⟩ hN
    obtain ⟨q, hq⟩ : ∃ q, n - (pre.length : Int) = q := ⟨_, rfl⟩
    rw [hq] at hc
    have q1 : 1 ≤ q := by omega
    have q2 : q ≤ 2000 := by omega
    have HQ : Hid (n - (pre.length : Int) = q) := hq
    have HB : Hid (Below w.heap.size w W) := hB
    clear hB hN hq hlt
    by_cases hx : q = 1
    · subst hx
      gi_wp2
      exact ⟨KeepsOthers.setCell _ _ _, ⟨rfl, pre, x, rfl, by have := HQ.out; omega, World.cell?_setCell_same' _ _ _ (by rw [hg]; rfl)⟩, HB.out.setCell (by simp) _⟩
    · have hx' : (q == 1) = false := by simpa using hx
      gi_wp2
      refine ⟨KeepsOthers.setCell _ _ _, KS.set (by omega) (by omega) _, ⟨?_, ?_, ?_, ?_, ?_⟩, HB.out.setCell (by simp) _⟩
      · rw [World.cell?_setCell_same' _ _ _ (by rw [hc]; rfl)]; have := HQ.out; simp; omega
      · rw [World.frozen?_setCell]; exact hf
      · rw [World.cell?_of_block (w := W) (Below.heap_setCell _ _ _ _ (by simp))]; exact hg
      · rw [World.frozen?_setCell]; exact hgf
      · have := HQ.out; simp; omega
  case done =>
    rintro D ys W hD rfl ⟨⟨hc, hf, hg, hgf, hlt⟩, hB⟩ hK
    have HC : Hid (pick (wl (workB off len z) s (far s first) first) n = -1) := by
      unfold Hid pick; rw [List.getElem?_eq_none (by omega)]; rfl
    clear hc hlt
    gi_wp2
    rw [Exit.noGoto_ret]
    refine ⟨by simp, .inl ⟨_, _, rfl, run_takeDeferred hK, ?_⟩⟩
    exact ⟨_, results_tmp rfl _ _ _, (by rw [HC.out]; rfl), hB.trans (belowK_b (w := w) (Nat.le_refl _) W D _ _ (by omega) hK rfl rfl)⟩
  case stop =>
    rintro D c pre W hD hpre ⟨⟨rfl, p, x, rfl, e2, e4⟩, hB⟩ hK
    have HC : Hid (pick (wl (workB off len z) s (far s first) first) n = x) := by
      obtain ⟨rest, hrest⟩ := hpre
      unfold Hid pick
      rw [← hrest, List.append_assoc, List.getElem?_append_right (by omega), show (n - 1).toNat - p.length = 0 by omega]
      rfl
    clear e2 hpre
    gi_wp2
    rw [Exit.noGoto_ret]
    refine ⟨by simp, .inl ⟨_, _, rfl, run_takeDeferred hK, ?_⟩⟩
    exact ⟨_, results_tmp rfl _ _ _, (by rw [HC.out]; rfl), hB.trans (belowK_b (w := w) (Nat.le_refl _) W D _ _ (by omega) hK rfl rfl)⟩

theorem nthDay_any (b1 b2 b3 : Nat) (first s n off : Int) (ad : Option Addr) (len cap : Nat) (z : Nat → Int) (w : World) (hs : s = 1 ∨ s = -1) (f0 : -1 ≤ first) (f1 : first ≤ 40001) (o1 : 0 ≤ off) (o2 : off ≤ 126) (h : (len : Int) ≤ 1048576) (hA : Asc len z) (n0 : 1 ≤ n) (n1 : n ≤ 2000)
    (c1 : CB w b1 #[.int .i64 first] 3) (c2 : CB w b2 #[.int .i64 s] 3) (c3 : CB w b3 #[.int .i64 off, .slice ad len cap] 26) (hr : IR w ad len z) :
    Calls Try.prog 38 #[.func (.func 56) #[] #[.pointer (some ⟨b1, 0, none⟩), .pointer (some ⟨b2, 0, none⟩), .pointer (some ⟨b3, 0, none⟩)], .int .i64 n] w fun e w' => e = .returned (.int .i64 (pick (wl (workB off len z) s (far s first) first) n)) ∧ Below w.heap.size w w' :=
  (callsIn_wide (n := 3)).1 (nthDay_in 3 (Nat.le_refl _) b1 b2 b3 first s n off ad len cap z w hs f0 f1 o1 o2 h hA n0 n1 c1 c2 c3 hr)

end Go.Proofs.Ytadjdpoplaknkaa
