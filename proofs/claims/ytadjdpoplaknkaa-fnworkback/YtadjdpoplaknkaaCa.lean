/- countAbove of the program: how many working days lie above one day, up to another. -/
import Derived.Test.YtadjdpoplaknkaaIt
import Derived.Scope
namespace Go.Proofs.Ytadjdpoplaknkaa
open Go.RowKit Go.Shelf
attribute [local go_sem] Oper.semAt_some
set_option linter.unusedVariables false
set_option linter.unusedSimpArgs false

theorem wpIn_scope {n : Nat} {P : Program} {c : Code} {Q : Exit → Act → World → Prop} {a : Act} {w : World} (h : c.wpIn Fence.wide n P (Exit.noGoto Q) a w) : (Code.scope c).wpIn Fence.wide n P Q a w :=
  wpIn_wide.2 (wp_scope_straight ((wpIn_wide (n := n)).1 h))

theorem workDays_any (off : Int) (ad : Option Addr) (len cap : Nat) (first s : Int) (w : World) :
    Calls Try.prog 39 #[.agg #[.int .i64 off, .slice ad len cap], .int .i64 first, .int .i64 s] w fun e w' =>
      e = .returned (.func (.func 56) #[] #[.pointer (some ⟨w.heap.size + 1, 0, none⟩), .pointer (some ⟨w.heap.size + 1 + 1, 0, none⟩), .pointer (some ⟨w.heap.size, 0, none⟩)]) ∧
      w' = ((w.alloc (.cells #[.int .i64 off, .slice ad len cap] 26 (0, 0))).alloc (.cells #[.int .i64 first] 3 (0, 0))).alloc (.cells #[.int .i64 s] 3 (0, 0)) := by
  go_enter Try.func39, Try.ntmps39
  go_wp2
  go_returns
  exact ⟨rfl, rfl⟩

theorem wl_ge (wd : Int → Bool) : ∀ f d y, y ∈ wl wd 1 f d → d ≤ y
  | 0, d, y, h => by simp [wl] at h
  | f + 1, d, y, h => by
    simp only [wl] at h
    split at h
    · split at h
      · simp only [List.mem_cons] at h
        rcases h with rfl | h
        · exact Int.le_refl _
        · have := wl_ge wd f (d + 1) y h; omega
      · have := wl_ge wd f (d + 1) y h; omega
    · simp at h

/-- Of the days from d on, those up to b are just so many. -/
theorem wl_take (wd : Int → Bool) (b : Int) (hb : b ≤ 40000) : ∀ (k : Nat) (d : Int), 0 ≤ d → d + k = b + 1 → (((wl wd 1 (far 1 d) d).takeWhile (fun y => decide (y ≤ b))).length : Int) = cnt wd k d
  | 0, d, h0, hd => by
    have : (wl wd 1 (far 1 d) d).takeWhile (fun y => decide (y ≤ b)) = [] := by
      cases hx : wl wd 1 (far 1 d) d with
      | nil => rfl
      | cons y ys =>
        have := wl_ge wd (far 1 d) d y (by rw [hx]; simp)
        rw [List.takeWhile_cons_of_neg (by simp; omega)]
    rw [this]; rfl
  | k + 1, d, h0, hd => by
    have hin : 0 ≤ d ∧ d ≤ 40000 := by omega
    have ih := wl_take wd b hb k (d + 1) (by omega) (by omega)
    rcases hw : wd d
    · rw [wl_free wd (.inl rfl) hin hw, ih]; simp [cnt, hw]
    · rw [wl_work wd (.inl rfl) hin hw, List.takeWhile_cons_of_pos (by simp; omega)]
      simp only [List.length_cons, cnt, hw, if_true]
      omega

theorem tw_all {l : List Int} {p : Int → Bool} (h : ∀ y ∈ l, p y = true) : l.takeWhile p = l := by
  have := List.takeWhile_append_of_pos (p := p) (l₁ := l) (l₂ := []) h
  simpa using this

theorem wl_len (wd : Int → Bool) (s : Int) : ∀ f d, (wl wd s f d).length ≤ f
  | 0, d => by simp [wl]
  | f + 1, d => by
    have := wl_len wd s f (d + s)
    simp only [wl]
    split
    · split
      · simp; omega
      · omega
    · simp
theorem far_le (s d : Int) (hs : s = 1 ∨ s = -1) : far s d ≤ 40002 := by
  unfold far
  split
  · split <;> omega
  · omega
theorem IR.ks {w W0 W' : World} {ad : Option Addr} {len : Nat} {z : Nat → Int} {lo hi N : Nat} (H : IR w ad len z) (b : Below w.heap.size w W0) (k : KS lo hi N W0 W') (h1 : w.heap.size ≤ lo) (h2 : w.heap.size ≤ N) : IR W' ad len z := by
  rcases H with h | ⟨j, off, e, hk, hc⟩
  · exact .inl h
  · refine .inr ⟨j, off, e, Nat.lt_of_lt_of_le hk (Nat.le_trans b.size k.size), fun i hi => ?_⟩
    rw [k.cell (by omega) (by omega), World.cell?_of_block (w := w) (b.block j hk)]; exact hc i hi

set_option maxRecDepth 100000 in
set_option maxHeartbeats 4000000 in
theorem countAbove_in (n : Nat) (hn : 3 ≤ n) (off : Int) (ad : Option Addr) (len cap : Nat) (z : Nat → Int) (a b : Int) (w : World) (o1 : 0 ≤ off) (o2 : off ≤ 126) (h : (len : Int) ≤ 1048576) (hr : IR w ad len z) (hA : Asc len z) (a0 : 0 ≤ a) (a1 : a ≤ 40000) (b1 : b ≤ 40000) (hab : a ≤ b) :
    CallsIn Fence.wide n Try.prog 43 #[.agg #[.int .i64 off, .slice ad len cap], .int .i64 a, .int .i64 b] w fun e w' => e = .returned (.int .i64 (cnt (workB off len z) (b - a).toNat (a + 1))) ∧ Below w.heap.size w w' := by
  have h1 : 1 ≤ n := by omega
  refine callsIn_of_wp_marks Try.func43 rfl trivial ?_ rfl
  simp only [Try.ntmps43, List.size_toArray, List.length_cons, List.length_nil, Nat.reduceAdd, Nat.reduceSub, Array.replicate_succ, Array.replicate_zero, List.push_toArray, List.append_toArray, List.nil_append, List.cons_append]
  gi_wp2
  refine wpIn_scope ?_
  gi_wp2
  refine wpIn_label ?_
  gi_wp2_with (refine ⟨trivial, ?_⟩; gi_at_call 39; refine (callsIn_wide.2 (workDays_any _ _ _ _ _ _ _)).mono ?_; rintro e w' ⟨rfl, rfl⟩)
  have B0 : Below w.heap.size w ((((((w.alloc (.cells #[.int .i64 off, .slice ad len cap] 26 (0, 0))).alloc (.cells #[.int .i64 b] 3 (0, 0))).alloc (.cells #[.int .i64 0] 3 (0, 0))).alloc (.cells #[.int .i64 off, .slice ad len cap] 26 (0, 0))).alloc (.cells #[.int .i64 (a + 1)] 3 (0, 0))).alloc (.cells #[.int .i64 1] 3 (0, 0))) := ((((((Below.refl _ w).alloc (Nat.le_refl _) _).alloc (by simp) _).alloc (by simp; omega) _).alloc (by simp; omega) _).alloc (by simp; omega) _).alloc (by simp; omega) _
  have T0 : CB ((((((w.alloc (.cells #[.int .i64 off, .slice ad len cap] 26 (0, 0))).alloc (.cells #[.int .i64 b] 3 (0, 0))).alloc (.cells #[.int .i64 0] 3 (0, 0))).alloc (.cells #[.int .i64 off, .slice ad len cap] 26 (0, 0))).alloc (.cells #[.int .i64 (a + 1)] 3 (0, 0))).alloc (.cells #[.int .i64 1] 3 (0, 0))) (w.heap.size + 1) #[.int .i64 b] 3 := ((((CB.newAt (by simp) _ _).alloc _).alloc _).alloc _).alloc _
  have C0 : CB ((((((w.alloc (.cells #[.int .i64 off, .slice ad len cap] 26 (0, 0))).alloc (.cells #[.int .i64 b] 3 (0, 0))).alloc (.cells #[.int .i64 0] 3 (0, 0))).alloc (.cells #[.int .i64 off, .slice ad len cap] 26 (0, 0))).alloc (.cells #[.int .i64 (a + 1)] 3 (0, 0))).alloc (.cells #[.int .i64 1] 3 (0, 0))) (w.heap.size + 1 + 1) #[.int .i64 0] 3 := (((CB.newAt (by simp) _ _).alloc _).alloc _).alloc _
  have K0 : CB ((((((w.alloc (.cells #[.int .i64 off, .slice ad len cap] 26 (0, 0))).alloc (.cells #[.int .i64 b] 3 (0, 0))).alloc (.cells #[.int .i64 0] 3 (0, 0))).alloc (.cells #[.int .i64 off, .slice ad len cap] 26 (0, 0))).alloc (.cells #[.int .i64 (a + 1)] 3 (0, 0))).alloc (.cells #[.int .i64 1] 3 (0, 0))) (w.heap.size + 1 + 1 + 1) #[.int .i64 off, .slice ad len cap] 26 := ((CB.newAt (by simp) _ _).alloc _).alloc _
  have F0 : CB ((((((w.alloc (.cells #[.int .i64 off, .slice ad len cap] 26 (0, 0))).alloc (.cells #[.int .i64 b] 3 (0, 0))).alloc (.cells #[.int .i64 0] 3 (0, 0))).alloc (.cells #[.int .i64 off, .slice ad len cap] 26 (0, 0))).alloc (.cells #[.int .i64 (a + 1)] 3 (0, 0))).alloc (.cells #[.int .i64 1] 3 (0, 0))) (w.heap.size + 1 + 1 + 1 + 1) #[.int .i64 (a + 1)] 3 := (CB.newAt (by simp) _ _).alloc _
  have S0 : CB ((((((w.alloc (.cells #[.int .i64 off, .slice ad len cap] 26 (0, 0))).alloc (.cells #[.int .i64 b] 3 (0, 0))).alloc (.cells #[.int .i64 0] 3 (0, 0))).alloc (.cells #[.int .i64 off, .slice ad len cap] 26 (0, 0))).alloc (.cells #[.int .i64 (a + 1)] 3 (0, 0))).alloc (.cells #[.int .i64 1] 3 (0, 0))) (w.heap.size + 1 + 1 + 1 + 1 + 1) #[.int .i64 1] 3 := CB.newAt (by simp) _ _
  have hsz : ((((((w.alloc (.cells #[.int .i64 off, .slice ad len cap] 26 (0, 0))).alloc (.cells #[.int .i64 b] 3 (0, 0))).alloc (.cells #[.int .i64 0] 3 (0, 0))).alloc (.cells #[.int .i64 off, .slice ad len cap] 26 (0, 0))).alloc (.cells #[.int .i64 (a + 1)] 3 (0, 0))).alloc (.cells #[.int .i64 1] 3 (0, 0))).heap.size = w.heap.size + 6 := by simp
  obtain ⟨W0, hW0⟩ : ∃ W0, ((((((w.alloc (.cells #[.int .i64 off, .slice ad len cap] 26 (0, 0))).alloc (.cells #[.int .i64 b] 3 (0, 0))).alloc (.cells #[.int .i64 0] 3 (0, 0))).alloc (.cells #[.int .i64 off, .slice ad len cap] 26 (0, 0))).alloc (.cells #[.int .i64 (a + 1)] 3 (0, 0))).alloc (.cells #[.int .i64 1] 3 (0, 0))) = W0 := ⟨_, rfl⟩
  rw [hW0] at B0 T0 C0 K0 F0 S0 hsz ⊢
  clear hW0
  have HR : Hid (IR w ad len z) := hr
  have t0 := T0.cell 0
  have c0 := C0.cell 0
  have cf := C0.fr 0
  simp at t0 c0
  refine wpIn_rangeFunc_ownF rfl h1 (gf := 56) (lb := #[.pointer (some ⟨w.heap.size + 1 + 1 + 1 + 1, 0, none⟩), .pointer (some ⟨w.heap.size + 1 + 1 + 1 + 1 + 1, 0, none⟩), .pointer (some ⟨w.heap.size + 1 + 1 + 1, 0, none⟩)]) rfl trivial (enters_of Try.func56 (by kernel_rfl) rfl)
    (days_stops (n - 1) (by omega) (w.heap.size + 1 + 1) (w.heap.size + 1 + 1 + 1) W0.heap.size (w.heap.size + 1 + 1 + 1 + 1) (w.heap.size + 1 + 1 + 1 + 1 + 1) (w.heap.size + 1 + 1 + 1) (a + 1) 1 off ad len cap z W0 (.inl rfl) (by omega) (by omega) o1 o2 h hA (Nat.le_refl _)
      (fun W' k => ⟨by rw [k.cell (by omega) (by omega), F0.cell]; rfl, by rw [k.cell (by omega) (by omega), S0.cell]; rfl, by rw [k.cell (by omega) (by omega), K0.cell]; rfl, by rw [k.cell (by omega) (by omega), K0.cell]; rfl, HR.out.ks B0 k (by omega) (by omega)⟩))
    KS.trans (fun W l o o' hl hh _ _ => KS.put W l o o' hl hh) (Below.refl _ _) (fun _ => rfl)
    (fun pre W => (W.cell? ⟨w.heap.size + 1 + 1, 0, none⟩ = some (.int .i64 (pre.length : Int)) ∧ W.frozen? ⟨w.heap.size + 1 + 1, 0, none⟩ = false ∧ W.cell? ⟨w.heap.size + 1, 0, none⟩ = some (.int .i64 b) ∧ (∀ y ∈ pre, y ≤ b)) ∧ Below w.heap.size w W)
    (fun c pre W => (c = .exit 0 ∧ (∃ p x, pre = p ++ [x] ∧ (∀ y ∈ p, y ≤ b) ∧ b < x ∧ W.cell? ⟨w.heap.size + 1 + 1, 0, none⟩ = some (.int .i64 (p.length : Int)))) ∧ Below w.heap.size w W)
    (OwnFrom.and (Own.from (fun s A B row hs hg hr => ⟨cell_kept hs.1 hg hr, (frozen_kept hs.1 hg hr).trans hs.2.1, cell_kept hs.2.2.1 hg hr, hs.2.2.2⟩) _) (ownFrom_below (Nat.le_refl _) (by omega)))
    (fun c => OwnFrom.and (Own.from (fun s A B row hs hg hr => ⟨hs.1, by obtain ⟨p, x, e1, e2, e3, e4⟩ := hs.2; exact ⟨p, x, e1, e2, e3, cell_kept e4 hg hr⟩⟩) _) (ownFrom_below (Nat.le_refl _) (by omega)))
    ⟨⟨c0, cf, t0, by simp⟩, B0⟩
    (fun x => { tmps := #[.agg #[.int .i64 off, .slice ad len cap], .int .i64 a, .int .i64 b, .pointer (some ⟨w.heap.size, 0, none⟩), undef, .pointer (some ⟨w.heap.size + 1, 0, none⟩), .int .i64 0, .pointer (some ⟨w.heap.size + 1 + 1, 0, none⟩), .int .i64 x, .agg #[.int .i64 off, .slice ad len cap], .int .i64 a, .int .i64 (a + 1), .func (.func 56) #[] #[.pointer (some ⟨w.heap.size + 1 + 1 + 1 + 1, 0, none⟩), .pointer (some ⟨w.heap.size + 1 + 1 + 1 + 1 + 1, 0, none⟩), .pointer (some ⟨w.heap.size + 1 + 1 + 1, 0, none⟩)], .int .i64 x, undef, undef, undef, undef, undef, undef, undef], defers := [] }) ?assign ?body ?done ?stop
  case assign =>
    intro l x W K hK
    gi_wp2
    exact hK
  case body =>
    rintro l pre x W ⟨⟨hc, hf, ht, hp⟩, hB⟩ hN
    have hN2 : (pre.length : Int) ≤ 40002 := by have := wl_len (workB off len z) 1 (far 1 (a + 1)) (a + 1); have := far_le 1 (a + 1) (.inl rfl); omega
    have HP : Hid (∀ y ∈ pre, y ≤ b) := hp
    have HB : Hid (Below w.heap.size w W) := hB
    clear hp hB hN
    by_cases hx : b < x
    · gi_wp2
      exact ⟨KeepsOthers.refl _, ⟨rfl, pre, x, rfl, HP.out, hx, hc⟩, HB.out⟩
    · gi_wp2
      refine ⟨KeepsOthers.setCell _ _ _, KS.set (by omega) (by omega) _, ⟨?_, ?_, ?_, ?_⟩, HB.out.setCell (by simp; omega) _⟩
      · rw [World.cell?_setCell_same' _ _ _ (by rw [hc]; rfl)]; simp
      · rw [World.frozen?_setCell]; exact hf
      · rw [World.cell?_of_block (w := W) (Below.heap_setCell _ _ _ _ (by simp))]; exact ht
      · intro y hy
        rcases List.mem_append.1 hy with g | g
        · exact HP.out y g
        · simp at g; omega
  case done =>
    rintro D ys W hD rfl ⟨⟨hc, hf, ht, hp⟩, hB⟩ hK
    have hcnt : ((wl (workB off len z) 1 (far 1 (a + 1)) (a + 1)).length : Int) = cnt (workB off len z) (b - a).toNat (a + 1) := by
      have h2 := wl_take (workB off len z) b b1 (b - a).toNat (a + 1) (by omega) (by omega)
      rw [tw_all (fun y hy => by simpa using hp y hy)] at h2
      exact h2
    have HC : Hid (((wl (workB off len z) 1 (far 1 (a + 1)) (a + 1)).length : Int) = cnt (workB off len z) (b - a).toNat (a + 1)) := hcnt
    clear hcnt hp
    gi_wp2
    rw [Exit.noGoto_ret]
    refine ⟨by simp, .inl ⟨_, _, rfl, run_takeDeferred hK, ?_⟩⟩
    exact ⟨_, results_tmp rfl _ _ _, (by rw [← HC.out]; rfl), hB.trans (belowK_b (w := w) (Nat.le_refl _) W D _ _ (by omega) hK rfl rfl)⟩
  case stop =>
    rintro D c pre W hD hpre ⟨⟨rfl, p, x, rfl, e2, e3, e4⟩, hB⟩ hK
    have hcnt : (p.length : Int) = cnt (workB off len z) (b - a).toNat (a + 1) := by
      have h2 := wl_take (workB off len z) b b1 (b - a).toNat (a + 1) (by omega) (by omega)
      obtain ⟨rest, hrest⟩ := hpre
      rw [← hrest, List.append_assoc, List.takeWhile_append_of_pos (fun y hy => by simpa using e2 y hy)] at h2
      rw [List.singleton_append, List.takeWhile_cons_of_neg (by simp; omega)] at h2
      simpa using h2
    have HC : Hid ((p.length : Int) = cnt (workB off len z) (b - a).toNat (a + 1)) := hcnt
    clear hcnt e2 hpre
    gi_wp2
    rw [Exit.noGoto_ret]
    refine ⟨by simp, .inl ⟨_, _, rfl, run_takeDeferred hK, ?_⟩⟩
    exact ⟨_, results_tmp rfl _ _ _, (by rw [← HC.out]; rfl), hB.trans (belowK_b (w := w) (Nat.le_refl _) W D _ _ (by omega) hK rfl rfl)⟩

theorem countAbove_any (off : Int) (ad : Option Addr) (len cap : Nat) (z : Nat → Int) (a b : Int) (w : World) (o1 : 0 ≤ off) (o2 : off ≤ 126) (h : (len : Int) ≤ 1048576) (hr : IR w ad len z) (hA : Asc len z) (a0 : 0 ≤ a) (a1 : a ≤ 40000) (b1 : b ≤ 40000) (hab : a ≤ b) :
    Calls Try.prog 43 #[.agg #[.int .i64 off, .slice ad len cap], .int .i64 a, .int .i64 b] w fun e w' => e = .returned (.int .i64 (cnt (workB off len z) (b - a).toNat (a + 1))) ∧ Below w.heap.size w w' :=
  (callsIn_wide (n := 3)).1 (countAbove_in 3 (Nat.le_refl _) off ad len cap z a b w o1 o2 h hr hA a0 a1 b1 hab)

end Go.Proofs.Ytadjdpoplaknkaa
