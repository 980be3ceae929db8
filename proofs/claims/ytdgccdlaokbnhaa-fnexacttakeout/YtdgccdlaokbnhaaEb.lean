/- What goes out: the program's small methods (part, without, nextOut) and slices.Delete over lays. -/
import Derived.Test.YtdgccdlaokbnhaaMj
import Derived.Test.YtdgccdlaokbnhaaLo
import Derived.Deep.RegionLaw
import Derived.Lib.SliceRun
namespace Go.Proofs.Ytdgccdlaokbnhaa
open Go Go.ChangeShapes Go.WideShapes Go.ChangeAt Go.RowKit
set_option linter.unusedVariables false
set_option linter.unusedSimpArgs false

theorem part_ge (q0 k0 q : Int) (w : World) (h : q0 ≤ q) :
    Calls Try.prog 81 #[.agg #[.int .i64 q0, .int .i64 k0], .int .i64 q] w fun e w' => e = .returned (.agg #[.int .i64 q0, .int .i64 k0]) ∧ Below w.heap.size w w' := by
  go_enter Try.func81, Try.ntmps81
  go_wp2
  go_returns
  exact ⟨rfl, by go_grown⟩
theorem part_lt (q0 k0 q p : Int) (w : World) (h0 : q < q0) (hp : mdV k0 q q0 3 = p) :
    Calls Try.prog 81 #[.agg #[.int .i64 q0, .int .i64 k0], .int .i64 q] w fun e w' => e = .returned (.agg #[.int .i64 q, .int .i64 p]) ∧ Below w.heap.size w w' := by
  have HP := hid hp
  have h : ¬ q0 ≤ q := by omega
  clear hp h0
  go_enter Try.func81, Try.ntmps81
  go_wp2_with (go_at_call 104; refine (implMulDiv_any _ _ _ _ _).mono ?_; rintro e w1 ⟨rfl, b1⟩; rw [HP.out]; have X1 : CB w1 (w.heap.size + 1) #[.int .i64 0, .int .i64 0] 40 := (CB.newAt (by simp) _ _).below b1 (by simp); have x0 : w1.cell? ⟨w.heap.size + 1, 0, none⟩ = some (.int .i64 0) := X1.cell 0; have x1 : w1.cell? ⟨w.heap.size + 1, 1, none⟩ = some (.int .i64 0) := X1.cell 1; have f0 := X1.fr 0; have f1 := X1.fr 1; have HX := hid X1; have HB : Hid (Below w.heap.size w w1) := hid ((((Below.refl _ _).alloc (Nat.le_refl _) _).alloc (by simp) _).trans (b1.mono (by simp; omega))); clear X1 b1)
  have ZC : CB ((w1.setCell ⟨w.heap.size + 1, 0, none⟩ (.int .i64 q)).setCell ⟨w.heap.size + 1, 1, none⟩ (.int .i64 p)) (w.heap.size + 1) #[.int .i64 q, .int .i64 p] 40 := by simpa using (HX.out.set 0 (.int .i64 q)).set 1 (.int .i64 p)
  have ZB : Below w.heap.size w ((w1.setCell ⟨w.heap.size + 1, 0, none⟩ (.int .i64 q)).setCell ⟨w.heap.size + 1, 1, none⟩ (.int .i64 p)) := (HB.out.setCell (by simp) _).setCell (by simp) _
  generalize (w1.setCell ⟨w.heap.size + 1, 0, none⟩ (.int .i64 q)).setCell ⟨w.heap.size + 1, 1, none⟩ (.int .i64 p) = Z at ZC ZB ⊢
  have z0 : Z.cell? ⟨w.heap.size + 1, 0, none⟩ = some (.int .i64 q) := ZC.cell 0
  have z1 : Z.cell? ⟨w.heap.size + 1, 1, none⟩ = some (.int .i64 p) := ZC.cell 1
  refine bodyPost_ret (v := .agg #[.int .i64 q, .int .i64 p]) (by simp [results, Try.results81, go_sem, z0, z1]; try rfl) rfl ?_
  exact ⟨rfl, ZB⟩
theorem without_any (a b c d x y : Int) (w : World) (h1 : -1000000000000000 ≤ a ∧ a ≤ 1000000000000000) (h2 : -1000000000000000 ≤ b ∧ b ≤ 1000000000000000) (h3 : -1000000000000000 ≤ c ∧ c ≤ 1000000000000000) (h4 : -1000000000000000 ≤ d ∧ d ≤ 1000000000000000) (hx : a - c = x) (hy : b - d = y) :
    Calls Try.prog 83 #[.agg #[.int .i64 a, .int .i64 b], .agg #[.int .i64 c, .int .i64 d]] w fun e w' => e = .returned (.agg #[.int .i64 x, .int .i64 y]) ∧ Below w.heap.size w w' := by
  subst hx; subst hy
  obtain ⟨h1, h1'⟩ := h1
  obtain ⟨h2, h2'⟩ := h2
  obtain ⟨h3, h3'⟩ := h3
  obtain ⟨h4, h4'⟩ := h4
  go_enter Try.func83, Try.ntmps83
  go_wp2
  go_returns
  exact ⟨rfl, by go_grown⟩
theorem nextOut_1 (ad : Option Addr) (n cap : Nat) (w : World) :
    Calls Try.prog 146 #[.agg #[], .slice ad n cap] w fun e w' => e = .returned (.int .i64 ((0 : Nat) : Int)) ∧ Below w.heap.size w w' := by
  go_enter Try.func146, Try.ntmps146
  go_wp2
  go_returns
  exact ⟨rfl, by go_grown⟩
theorem nextOut_2 (ad : Option Addr) (n cap : Nat) (w : World) (h : 1 ≤ n) (hn : n ≤ 300) :
    Calls Try.prog 147 #[.agg #[], .slice ad n cap] w fun e w' => e = .returned (.int .i64 ((n - 1 : Nat) : Int)) ∧ Below w.heap.size w w' := by
  obtain ⟨k, rfl⟩ : ∃ k, n = k + 1 := ⟨n - 1, by omega⟩
  have hwp : IntKind.i64.wrap (((k + 1 : Nat) : Int) - 1) = (k : Int) := by rw [show (((k + 1 : Nat) : Int) - 1) = (k : Int) by omega]; exact IntWalk.i64_in _ ⟨by omega, by omega⟩
  go_enter Try.func147, Try.ntmps147
  go_wp2
  go_returns
  exact ⟨by simp, by go_grown⟩
theorem nextOut_3 (ad : Option Addr) (n cap : Nat) (w : World) :
    Calls Try.prog 148 #[.agg #[], .slice ad n cap] w fun e w' => e = .returned (.int .i64 ((0 : Nat) : Int)) ∧ Below w.heap.size w w' := by
  go_enter Try.func148, Try.ntmps148
  go_wp2
  go_returns
  exact ⟨rfl, by go_grown⟩

/-- What cells that are laid into a block leave of it. -/
theorem CB.sets {b : Nat} {t : TypeId} : ∀ (vs : List Value) (o : Nat) (cs : Array Value) (w : World), CB w b cs t → o + vs.length ≤ cs.size →
    ∃ cs', CB (w.setCells b o vs) b cs' t ∧ cs'.size = cs.size ∧ (∀ j, j < o ∨ o + vs.length ≤ j → cs'[j]? = cs[j]?) ∧ (∀ j, j < vs.length → cs'[o + j]? = vs[j]?)
  | [], o, cs, w, h, hl => ⟨cs, h, rfl, fun _ _ => rfl, fun j hj => by simp at hj⟩
  | v :: vs, o, cs, w, h, hl => by
    simp only [List.length_cons] at hl ⊢
    obtain ⟨cs', h1, h2, h3, h4⟩ := CB.sets vs (o + 1) (cs.setIfInBounds o v) (w.setCell ⟨b, o, none⟩ v) (h.set o v) (by simp; omega)
    refine ⟨cs', h1, by simpa using h2, fun j hj => ?_, fun j hj => ?_⟩
    · rw [h3 j (by omega), get_set_ne (by omega)]
    · rcases Nat.eq_zero_or_pos j with e | e
      · subst e
        rw [Nat.add_zero, h3 o (by omega), get_set_eq (by omega)]; rfl
      · obtain ⟨i, rfl⟩ : ∃ i, j = i + 1 := ⟨j - 1, by omega⟩
        rw [show o + (i + 1) = o + 1 + i by omega, h4 i (by omega)]; rfl
theorem sets_keep {b y : Nat} (hy : y ≠ b) : ∀ (vs : List Value) (o : Nat) (w : World), (w.setCells b o vs).heap[y]? = w.heap[y]?
  | [], _, _ => rfl
  | v :: vs, o, w => (sets_keep hy vs (o + 1) (w.setCell ⟨b, o, none⟩ v)).trans (hs_set hy)
theorem sets_bel {B b : Nat} {A : World} (hb : B ≤ b) : ∀ (vs : List Value) (o : Nat) (w : World), Below B A w → Below B A (w.setCells b o vs)
  | [], _, _, h => h
  | v :: vs, o, w, h => sets_bel hb vs (o + 1) _ (h.setCell hb v)

theorem add_lit (b o t : Nat) : (⟨b, o, none⟩ : Addr).add t = ⟨b, o + t, none⟩ := by unfold Addr.add; split <;> simp_all
set_option maxRecDepth 1000000 in
set_option maxHeartbeats 4000000 in
theorem delete_any (g n cap i j : Nat) (c : Nat → LA2) (cs : Array Value) (w : World) (hi : i < n) (hj : j = i + 1) (hn : n ≤ 300) (hcap : n ≤ cap) (hm : cap ≤ 9223372036854775807) (hC : CB w g cs 40) (hsz : n * 2 ≤ cs.size)
    (hcs : ∀ j, j < n → cs[j * 2]? = some (.int .i64 (c j).qty) ∧ cs[j * 2 + 1]? = some (.int .i64 (c j).cost)) (c2 : Nat → LA2) (hc2 : ∀ k, c2 k = if k < i then c k else c (k + 1)) :
    Calls Try.prog 84 #[.slice (some ⟨g, 0, none⟩) n cap, .int .i64 (i : Int), .int .i64 (j : Int)] w fun e w' => e = .returned (.slice (some ⟨g, 0, none⟩) (n - 1) cap) ∧
      (∃ cs', CB w' g cs' 40 ∧ cs'.size = cs.size ∧ ∀ k, k < n - 1 → cs'[k * 2]? = some (.int .i64 (c2 k).qty) ∧ cs'[k * 2 + 1]? = some (.int .i64 (c2 k).cost)) ∧ (∀ y, y ≠ g → w'.heap[y]? = w.heap[y]?) ∧ Below g w w' := by
  have hc0 : 0 < n := by omega
  obtain ⟨i0, hi0, hz0, hz1, hz2⟩ := infoLA2
  -- the cells that are moved to the left
  obtain ⟨news, hnews⟩ : ∃ news, news = (cs.toList.drop (j * 2)).take ((n - j) * 2) := ⟨_, rfl⟩
  have hlen : news.length = (n - j) * 2 := by rw [hnews, List.length_take, List.length_drop, Array.length_toList]; omega
  have hget : ∀ t, t < (n - j) * 2 → news[t]? = cs[j * 2 + t]? := fun t ht => by
    rw [hnews, List.getElem?_take, if_pos ht, List.getElem?_drop, Array.getElem?_toList]
  have hone : ∀ u ∈ news, u.oneCell' = true := fun u hu => by
    obtain ⟨t, ht⟩ := List.getElem?_of_mem hu
    have hlt : t < (n - j) * 2 := by
      rcases Nat.lt_or_ge t ((n - j) * 2) with q | q
      · exact q
      · rw [List.getElem?_eq_none (by omega)] at ht; cases ht
    rw [hget t hlt] at ht
    obtain ⟨b0, b1⟩ := hcs (j + t / 2) (by omega)
    rcases (show t = t / 2 * 2 ∨ t = t / 2 * 2 + 1 by omega) with q | q
    · rw [show j * 2 + t = (j + t / 2) * 2 by omega, b0] at ht; cases ht; rfl
    · rw [show j * 2 + t = (j + t / 2) * 2 + 1 by omega, b1] at ht; cases ht; rfl
  obtain ⟨A, hA, hsrc⟩ : ∃ A : Addr, (if cap = j then some (⟨g, 0, none⟩ : Addr) else some ⟨g, j * 2, none⟩) = some A ∧ Hid (∀ t u, news[t]? = some u → w.drew.cell? (A.add t) = some u) := by
    by_cases h : cap = j
    · refine ⟨⟨g, 0, none⟩, by simp [h], fun t u hu => ?_⟩
      have h0 : news.length = 0 := by rw [hlen]; omega
      rw [List.length_eq_zero_iff.1 h0] at hu
      simp at hu
    · refine ⟨⟨g, j * 2, none⟩, by simp [h], fun t u hu => ?_⟩
      have ht : t < (n - j) * 2 := by
        have := (List.getElem?_eq_some_iff.1 hu).1
        rwa [hlen] at this
      rw [hget t ht] at hu
      rw [add_lit]
      exact (hC.cell _).trans hu
  have s3 : Hid (∀ t, t < news.length → (w.drew.cell? ⟨g, 0 + i * 2 + t, none⟩).isSome = true ∧ w.drew.frozen? ⟨g, 0 + i * 2 + t, none⟩ = false) := fun t ht => by
    rw [hlen] at ht
    refine ⟨?_, hC.fr _⟩
    show (w.cell? _).isSome = true
    rw [hC.cell, Array.getElem?_eq_getElem (by omega)]; rfl
  obtain ⟨cs1, C1, z1, k1, m1⟩ := CB.sets news (i * 2) cs w.drew hC (by omega)
  obtain ⟨W1, hW1⟩ : ∃ W1, W1 = w.drew.setCells g (i * 2) news := ⟨_, rfl⟩
  rw [← hW1] at C1
  have K1 : Hid (∀ y, y ≠ g → W1.heap[y]? = w.heap[y]?) := hid (fun y hy => by rw [hW1]; exact sets_keep hy news _ _)
  have B1 : Hid (Below g w W1) := hid (by rw [hW1]; exact sets_bel (Nat.le_refl _) news _ _ ((Below.refl _ _).drew))
  have HW : Hid (W1 = w.drew.setCells g (i * 2) news) := hid hW1
  obtain ⟨cs2, C2, z2, k2, m2⟩ := CB.sets [.int .i64 0, .int .i64 0] ((n - 1) * 2) cs1 W1 C1 (by simp; omega)
  have eL : i + (n - j) = n - 1 := by omega
  have eM : n - (n - 1) = 1 := by omega
  have hcl : ∀ ty, (Builtin.clear_ #[24] ty #[.slice (some ⟨g, (i + (n - j)) * 2, none⟩) (n - (i + (n - j))) (cap - (i + (n - j)))]).run Try.prog W1 = .ok (.tuple #[]) (W1.setCells g ((n - 1) * 2) [.int .i64 0, .int .i64 0]) := fun ty => by
    rw [eL, eM]
    have hzv : (zeroValue 40).run Try.prog W1 = .ok (.agg #[.int .i64 0, .int .i64 0]) W1 := by kernel_rfl
    have hst := run_storeCells_cells (P := Try.prog) g ((n - 1) * 2) [.int .i64 0, .int .i64 0] 0 W1 (fun j hj => by simp at hj; rw [C1.cell, Array.getElem?_eq_getElem (by omega)]; rfl) (fun j hj => C1.fr _) (fun v hv => by simp at hv; subst hv; rfl)
    simp only [Nat.add_zero] at hst
    have hzc : (Builtin.zeroCells (Value.agg #[.int .i64 0, .int .i64 0]).cells 1).toList = [.int .i64 0, .int .i64 0] := by simp [Builtin.zeroCells, Value.cells]; rw [show List.range 2 = [0, 1] from rfl]; rfl
    simp [Builtin.clear_, run_underlying Try.underlying24, hzv, hzc, hst]
  have HFIN : Hid ((∃ cs', CB (W1.setCells g ((n - 1) * 2) [.int .i64 0, .int .i64 0]) g cs' 40 ∧ cs'.size = cs.size ∧ ∀ k, k < n - 1 → cs'[k * 2]? = some (.int .i64 (c2 k).qty) ∧ cs'[k * 2 + 1]? = some (.int .i64 (c2 k).cost)) ∧ (∀ y, y ≠ g → (W1.setCells g ((n - 1) * 2) [.int .i64 0, .int .i64 0]).heap[y]? = w.heap[y]?) ∧ Below g w (W1.setCells g ((n - 1) * 2) [.int .i64 0, .int .i64 0])) := by
    refine hid ⟨⟨cs2, C2, by omega, fun k hk => ?_⟩, fun y hy => (sets_keep hy _ _ _).trans (K1.out y hy), sets_bel (Nat.le_refl _) _ _ _ B1.out⟩
    have e2 : ∀ q, q < (n - 1) * 2 → cs2[q]? = cs1[q]? := fun q hq => k2 q (.inl hq)
    rw [e2 _ (by omega), e2 _ (by omega)]
    rw [hc2 k]
    by_cases q : k < i
    · rw [if_pos q, k1 _ (.inl (by omega)), k1 _ (.inl (by omega))]
      exact hcs k (by omega)
    · rw [if_neg q]
      obtain ⟨b0, b1⟩ := hcs (k + 1) (by omega)
      have f0 := m1 ((k - i) * 2) (by omega)
      have f1 := m1 ((k - i) * 2 + 1) (by omega)
      rw [hget _ (by omega)] at f0 f1
      rw [show i * 2 + (k - i) * 2 = k * 2 by omega, show j * 2 + (k - i) * 2 = (k + 1) * 2 by omega] at f0
      rw [show i * 2 + ((k - i) * 2 + 1) = k * 2 + 1 by omega, show j * 2 + ((k - i) * 2 + 1) = (k + 1) * 2 + 1 by omega] at f1
      rw [f0, f1]
      exact ⟨b0, b1⟩
  have s1 := hid hlen
  have s2 := hid hone
  have hic : i ≤ cap := by omega
  have hjc : j ≤ cap := by omega
  have hij : i ≤ j := by omega
  have hjn : j ≤ n := by omega
  have hne : ¬ i = j := by omega
  have hlt : i < j := by omega
  have HJ := hid hj
  have HL := hid eL
  clear hj eL eM
  clear hC hcs hget hone hlen hnews C1 K1 B1 C2 z1 k1 m1 z2 k2 m2 hW1 hc2 hz0 hz2
  go_enter Try.func84, Try.ntmps84
  go_wp2_with fail
  go_region_law (refine step_append_room rfl (.tmp 22) (.tmp 25) 24 rfl 40 i0 2 Try.underlying24 hi0 hz1 g 0 i cap (by simp [Act.eval, Act.put]) A (n - j) (cap - j) news (by simp [Act.eval, Act.put]) s1.out hsrc.out s2.out (by omega) s3.out ?_; rw [Nat.zero_add, ← HW.out])
  go_wp2
  go_returns
  exact ⟨by rw [HL.out]; rfl, HFIN.out⟩
theorem delete_at (g n cap i : Nat) (c : Nat → LA2) (cs : Array Value) (w : World) (hi : i < n) (hn : n ≤ 300) (hcap : n ≤ cap) (hm : cap ≤ 9223372036854775807) (hC : CB w g cs 40) (hsz : n * 2 ≤ cs.size)
    (hcs : ∀ j, j < n → cs[j * 2]? = some (.int .i64 (c j).qty) ∧ cs[j * 2 + 1]? = some (.int .i64 (c j).cost)) (c2 : Nat → LA2) (hc2 : ∀ k, c2 k = if k < i then c k else c (k + 1)) :
    Calls Try.prog 84 #[.slice (some ⟨g, 0, none⟩) n cap, .int .i64 (i : Int), .int .i64 ((i : Int) + 1)] w fun e w' => e = .returned (.slice (some ⟨g, 0, none⟩) (n - 1) cap) ∧
      (∃ cs', CB w' g cs' 40 ∧ (n - 1) * 2 ≤ cs'.size ∧ ∀ k, k < n - 1 → cs'[k * 2]? = some (.int .i64 (c2 k).qty) ∧ cs'[k * 2 + 1]? = some (.int .i64 (c2 k).cost)) ∧ (∀ y, y ≠ g → w'.heap[y]? = w.heap[y]?) ∧ Below g w w' := by
  have h := delete_any g n cap i (i + 1) c cs w hi rfl hn hcap hm hC hsz hcs c2 hc2
  rw [show ((i + 1 : Nat) : Int) = (i : Int) + 1 from rfl] at h
  refine h.mono ?_
  rintro e w' ⟨rfl, ⟨cs', q1, q2, q3⟩, q4, q5⟩
  exact ⟨rfl, ⟨cs', q1, by omega, q3⟩, q4, q5⟩
end Go.Proofs.Ytdgccdlaokbnhaa
