/- Settling, the model's small functions: l13Amounts and l13Next. -/
import Derived.Test.YtnglofgcckdbmaaUa
import Derived.Test.YtnglofgcckdbmaaIx
import Derived.Test.YtnglofgcckdbmaaPc
import Derived.Laws.OwnMore
import Derived.Maps.AppendAt
import Derived.WalkSmall
import Derived.Deep.QuietTactic
namespace Go.Proofs.Ytnglofgcckdbmaa
open Go Go.ChangeShapes Go.WideShapes Go.ChangeAt Go.RowKit
set_option linter.unusedVariables false
set_option linter.unusedSimpArgs false

def ivL (z : Nat → Int) : Nat → List Value
  | 0 => []
  | k + 1 => ivL z k ++ [.int .i64 (z k)]
theorem ivL_len (z : Nat → Int) : ∀ n, (ivL z n).length = n
  | 0 => rfl
  | n + 1 => by simp [ivL, ivL_len z n]
theorem ivL_one (z : Nat → Int) : ∀ n, ∀ v ∈ ivL z n, v.oneCell' = true
  | 0, v, h => by simp [ivL] at h
  | n + 1, v, h => by
    simp only [ivL, List.mem_append, List.mem_cons, List.not_mem_nil, or_false] at h
    rcases h with h | rfl
    · exact ivL_one z n v h
    · rfl
theorem ivL_get (z : Nat → Int) : ∀ n j, j < n → (ivL z n)[j]? = some (.int .i64 (z j))
  | 0, j, h => by omega
  | n + 1, j, h => by
    have e := ivL_len z n
    by_cases hj : j = n
    · subst hj; rw [ivL, List.getElem?_append_right (by omega), e, Nat.sub_self]; rfl
    · rw [ivL, List.getElem?_append_left (by omega)]; exact ivL_get z n j (by omega)
theorem earow {w w' : World} {base : Nat} {e : TypeId} {size : Nat} {v : Value} {n : Nat} {xs : List Value} (h : w.ownsRow base e size v n xs) (hb : ∀ g, v.ownBlock = some g → w'.heap[g]? = w.heap[g]?) : w'.ownsRow base e size v n xs := by
  refine ⟨h.1, ?_⟩
  rcases h.2 with hn | ⟨g, cap, cur, rfl, hb', hgg, rest⟩
  · exact .inl hn
  · refine .inr ⟨g, cap, cur, rfl, hb', ?_, rest⟩
    rw [hb g rfl]
    exact hgg
theorem egrown {B : Nat} {A w w' : World} {row : Option Nat} (h : Below B A w) (hA : B ≤ A.heap.size) (g : w.grownBy w' row) (hr : ∀ r, row = some r → B ≤ r) : Below B A w' :=
  ⟨g.os.trans h.os, g.tape.trans h.tape, g.output.trans h.output, Nat.le_trans h.size g.size, fun k hk => (g.block k (by have := h.size; omega) (fun e => by have := hr k e.symm; omega)).trans (h.block k hk)⟩
theorem ecells {w : World} {b : Nat} {l : List Value} {t : TypeId} (hb : w.heap.size = b) : ∀ j u, l[j]? = some u → (w.alloc (.cells l.toArray t (0, 0))).cell? ((⟨b, 0, none⟩ : Addr).add j) = some u := by
  intro j u hj
  have h := (CB.newAt hb l.toArray t).cell j
  have e : (⟨b, 0, none⟩ : Addr).add j = ⟨b, j, none⟩ := by
    simp only [Addr.add]; by_cases q : j = 0 <;> simp [q]
  rw [e, h]; simpa using hj
theorem eown_some {w : World} {base : Nat} {e : TypeId} {size : Nat} {v : Value} {n : Nat} {xs : List Value} (h : w.ownsRow base e size v n xs) (hn : 0 < n) : ∃ g cap, v = .slice (some ⟨g, 0, none⟩) n cap ∧ base ≤ g := by
  rcases h.2 with ⟨_, e0⟩ | ⟨g, cap, cur, rfl, hb, _⟩
  · omega
  · exact ⟨g, cap, rfl, hb⟩
/-- Block b holds the whole numbers z 0, .., z (n - 1), and maybe more. -/
def IB (w : World) (b n : Nat) (z : Nat → Int) : Prop := ∃ cs, CB w b cs 3 ∧ ∀ j, j < n → cs[j]? = some (.int .i64 (z j))
section
variable {w w' : World} {b n : Nat} {z : Nat → Int}
theorem IB.lt (H : IB w b n z) : b < w.heap.size := by obtain ⟨cs, h, _⟩ := H; exact h.lt
theorem IB.cell (H : IB w b n z) {j : Nat} (h : j < n) : w.cell? ⟨b, j, none⟩ = some (.int .i64 (z j)) := by obtain ⟨cs, h1, h2⟩ := H; rw [h1.cell]; exact h2 j h
theorem IB.fr (H : IB w b n z) (o : Nat) : w.frozen? ⟨b, o, none⟩ = false := by obtain ⟨cs, h, _⟩ := H; exact h.fr o
theorem IB.keep (H : IB w b n z) (h : w'.heap[b]? = w.heap[b]?) : IB w' b n z := by
  obtain ⟨cs, h1, h2⟩ := H; exact ⟨cs, by unfold CB at h1 ⊢; rw [h]; exact h1, h2⟩
theorem IB.below (H : IB w b n z) (k : Below w.heap.size w w') : IB w' b n z := H.keep (k.block b H.lt)
theorem IB.other (H : IB w b n z) {c o : Nat} (u : Value) (h : b ≠ c) : IB (w.setCell ⟨c, o, none⟩ u) b n z := by obtain ⟨cs, h1, h2⟩ := H; exact ⟨cs, h1.other u h, h2⟩
theorem IB.set (H : IB w b n z) {i : Nat} (hi : i < n) (x : Int) : IB (w.setCell ⟨b, i, none⟩ (.int .i64 x)) b n (upd z i x) := by
  obtain ⟨cs, h1, h2⟩ := H
  refine ⟨_, h1.set _ _, fun j hj => ?_⟩
  have hi2 := h2 i hi
  have hsz : i < cs.size := by
    rcases Nat.lt_or_ge i cs.size with q | q
    · exact q
    · rw [Array.getElem?_eq_none q] at hi2; cases hi2
  by_cases e : j = i
  · subst e; rw [upd_i, Array.getElem?_setIfInBounds_self_of_lt hsz]
  · rw [upd_o e, Array.getElem?_setIfInBounds_ne (by omega)]; exact h2 j hj
theorem IB.of_own {base cap : Nat} {g : Nat} {xs : List Value} (h : w.ownsRow base 3 1 (.slice (some ⟨g, 0, none⟩) n cap) n xs) (hz : ∀ j, j < n → xs[j]? = some (.int .i64 (z j))) : IB w g n z := by
  rcases h.2 with ⟨e, _⟩ | ⟨g', cap', cur, e, hb, hg, h3, h4, h5, h6⟩
  · cases e
  · simp only [Value.slice.injEq, Option.some.injEq, Addr.mk.injEq] at e
    obtain ⟨⟨rfl, _⟩, _, rfl⟩ := e
    refine ⟨cur, hg, fun j hj => ?_⟩
    rw [← hz j hj, ← h6, List.getElem?_take, if_pos (by omega)]; simp
end
/-- Amounts in a row of its own. -/
structure AQ (w : World) (g k oc : Nat) (z : Nat → Int) (W : World) : Prop where
  own : W.ownsRow w.heap.size 3 1 (.slice (some ⟨g, 0, none⟩) k oc) k (ivL z k)
  bel : Below w.heap.size w W
theorem AQ.below {w W W' : World} {g k oc : Nat} {z : Nat → Int} (h : AQ w g k oc z W) (b : Below W.heap.size W W') : AQ w g k oc z W' := ⟨earow h.own (fun q hq => b.block q (h.own.lt q hq).2), bel_on h.bel b⟩
theorem AQ.grow {w W w9 : World} {g k oc g9 oc9 : Nat} {z : Nat → Int} {x : Int} (h : AQ w g k oc z W) (hx : x = z k) (hg : W.grownBy w9 (Value.slice (some ⟨g, 0, none⟩) k oc).ownBlock) (hown : w9.ownsRow w.heap.size 3 1 (.slice (some ⟨g9, 0, none⟩) (k + 1) oc9) (k + 1) (ivL z k ++ [.int .i64 x])) : AQ w g9 (k + 1) oc9 z w9 := by
  subst hx
  have hgg := h.own.lt g rfl
  refine ⟨hown, egrown h.bel (Nat.le_refl _) hg (fun q hq => ?_)⟩
  have : q = g := by simpa [Value.ownBlock] using hq.symm
  omega
set_option maxRecDepth 20000 in
set_option maxHeartbeats 4000000 in
theorem amounts_any (ad : Option Addr) (n cap : Nat) (c : Nat → OI2) (w : World) (h : (n : Int) ≤ 1048576) (hr : OIr w ad n c) :
    Calls Try.prog 78 #[.slice ad n cap] w fun e w' => ∃ g oc, e = .returned (.slice (some ⟨g, 0, none⟩) n oc) ∧ IB w' g n (fun q => (c q).amount) ∧ w.heap.size ≤ g ∧ Below w.heap.size w w' := by
  have HR : Hid (OIr w ad n c) := hr
  clear hr
  obtain ⟨i3, hi3, hz30, hz31, hz32⟩ := info3
  go_enter Try.func78, Try.ntmps78
  go_wp2
  go_loopw [3, 4] (fun v i wr => ∃ (k g oc : Nat), k ≤ n ∧ v = .slice (some ⟨g, 0, none⟩) k oc ∧ i = .int .i64 (k : Int) ∧ Hid (AQ w g k oc (fun q => (c q).amount) wr)) (fun _ i _ => n - (intOf i).toNat)
  case atStart => exact ⟨0, w.heap.size, 0, Nat.zero_le _, by simp, rfl, hid ⟨⟨rfl, .inr ⟨w.heap.size, 0, #[], rfl, Nat.le_refl _, CB.new _ _, Nat.le_refl _, Nat.zero_le _, rfl, rfl⟩⟩, (Below.refl _ _).alloc (Nat.le_refl _) _⟩⟩
  case round =>
    obtain ⟨k, g, oc, hk, rfl, rfl, HH⟩ := hrel
    obtain ⟨wo, rfl⟩ : ∃ x, x = wr := ⟨wr, rfl⟩
    by_cases hlt : k < n
    · have hlt2 : (k : Int) < (n : Int) := by omega
      obtain ⟨kb, off, rfl, hkb⟩ := HR.out.addr (by omega)
      obtain ⟨c0, c1⟩ := (HR.out.below HH.out.bel).cell hlt
      obtain ⟨A, hA⟩ : ∃ A, (c k).amount = A := ⟨_, rfl⟩
      rw [hA] at c1
      have HA : Hid (A = (c k).amount) := hA.symm
      clear hA
      go_wp2_with (at_builtin; refine wpList_append_own_at _ rfl _ _ 24 rfl w.heap.size 3 i3 (.int .i64 0) 1 8 Try.underlying24 hi3 hz30 hz31 hz32 rfl (by decide) (.slice (some ⟨g, 0, none⟩) k oc) k (ivL (fun q => (c q).amount) k) rfl (HH.out.below ((Below.refl _ _).alloc (Nat.le_refl _) _)).own ⟨wo.heap.size, 0, none⟩ 1 1 [.int .i64 A] rfl rfl (ecells rfl) (fun u hu => by simp at hu; subst hu; rfl) (by unfold maxLen; omega) (by omega) (by have := HH.out.own.lt g rfl; simp; omega) ?_; intro v9 w9 hown hgrow hnil hat; obtain ⟨g9, oc9, rfl, _⟩ := eown_some hown (by omega); have R9 : Hid (AQ w g9 (k + 1) oc9 (fun q => (c q).amount) w9) := hid ((HH.out.below ((Below.refl _ _).alloc (Nat.le_refl _) _)).grow HA.out hgrow hown); clear hown hgrow hnil hat)
      go_roundw
      case rel => exact ⟨k + 1, g9, oc9, by omega, rfl, by go_num, R9⟩
      case measure => simp [intOf]; omega
    · obtain rfl : k = n := by omega
      have lkk : ¬ (k : Int) < (k : Int) := by omega
      go_wp2
      go_returns
      exact ⟨g, ⟨oc, rfl⟩, IB.of_own HH.out.own (fun j hj => ivL_get _ k j hj), (HH.out.own.lt g rfl).1, HH.out.bel⟩
theorem nx_keep {c : Nat → OI2} {a : Nat → Int} {k : Nat} (h : ¬ (0 < a k ∧ (nx c a k < 0 ∨ (c k).day < (c (nx c a k).toNat).day))) : nx c a (k + 1) = nx c a k := if_neg h
theorem nx_new {c : Nat → OI2} {a : Nat → Int} {k : Nat} (h : 0 < a k ∧ (nx c a k < 0 ∨ (c k).day < (c (nx c a k).toNat).day)) : nx c a (k + 1) = (k : Int) := if_pos h
set_option maxRecDepth 20000 in
set_option maxHeartbeats 8000000 in
theorem next_any (ad : Option Addr) (n cap g oc : Nat) (c : Nat → OI2) (a : Nat → Int) (w : World) (h : (n : Int) ≤ 1048576) (hr : OIr w ad n c) (ha : IB w g n a) :
    Calls Try.prog 79 #[.slice ad n cap, .slice (some ⟨g, 0, none⟩) n oc] w fun e w' => e = .returned (.int .i64 (nx c a n)) ∧ Below w.heap.size w w' := by
  have HR : Hid (OIr w ad n c) := hr
  have HI : Hid (IB w g n a) := ha
  clear hr ha
  go_enter Try.func79, Try.ntmps79
  go_wp2
  go_loopw [5, 6] (fun v i wr => ∃ (k : Nat) (X : Int), k ≤ n ∧ v = .int .i64 X ∧ i = .int .i64 (k : Int) ∧ Hid (X = nx c a k ∧ Below w.heap.size w wr)) (fun _ i _ => n - (intOf i).toNat)
  case atStart => exact ⟨0, -1, Nat.zero_le _, rfl, rfl, rfl, Below.refl _ _⟩
  case round =>
    obtain ⟨k, X, hk, rfl, rfl, HH⟩ := hrel
    by_cases hlt : k < n
    · have hlt2 : (k : Int) < (n : Int) := by omega
      obtain ⟨kb, off, rfl, hkb⟩ := HR.out.addr (by omega)
      have OK := HR.out.below HH.out.2
      obtain ⟨c0, c1⟩ := OK.cell hlt
      have ck := (HI.out.below HH.out.2).cell hlt
      obtain ⟨A, hA⟩ : ∃ A, a k = A := ⟨_, rfl⟩
      obtain ⟨D, hD⟩ : ∃ D, (c k).day = D := ⟨_, rfl⟩
      rw [hA] at ck
      rw [hD] at c0
      clear c1
      have HB : Hid (∀ q, Below w.heap.size w (wr.drewN q)) := hid (fun q => have hB := HH.out.2; ⟨hB.os, hB.tape, hB.output, hB.size, hB.block⟩)
      by_cases h0 : 0 < A
      · have d0 : decide (0 < A) = true := decide_eq_true h0
        rcases nx_spec c a k with ⟨g1, g2⟩ | ⟨p, g1, g2, g3, g4⟩
        · have hX : X = -1 := HH.out.1.trans g1
          subst hX
          have HN : Hid (nx c a (k + 1) = (k : Int)) := hid (nx_new ⟨by omega, .inl (by omega)⟩)
          clear HH OK hA hD g1 g2
          go_wp2
          go_quiet (fail)
          go_wp2
          go_roundw
          case rel => exact ⟨k + 1, _, by omega, rfl, by go_num, HN.out.symm, HB.out _⟩
          case measure => simp [intOf]; omega
        · have hX : X = (p : Int) := HH.out.1.trans g1
          subst hX
          have hpl : p < n := by omega
          have hpl2 : (p : Int) < (n : Int) := by omega
          obtain ⟨e0, e1⟩ := OK.cell hpl
          obtain ⟨E, hE⟩ : ∃ E, (c p).day = E := ⟨_, rfl⟩
          rw [hE] at e0
          have dp : decide ((p : Int) < 0) = false := decide_eq_false (by omega)
          by_cases hl : D < E
          · have dl : decide (D < E) = true := decide_eq_true hl
            have HN : Hid (nx c a (k + 1) = (k : Int)) := hid (nx_new ⟨by omega, .inr (by rw [g1, Int.toNat_natCast]; omega)⟩)
            clear HH OK hA hD hE g1 g2 g3 g4 e1
            go_wp2
            go_quiet (fail)
            go_wp2
            go_roundw
            case rel => exact ⟨k + 1, _, by omega, rfl, by go_num, HN.out.symm, HB.out _⟩
            case measure => simp [intOf]; omega
          · have dl : decide (D < E) = false := decide_eq_false hl
            have HN : Hid (nx c a (k + 1) = (p : Int)) := hid ((nx_keep (fun q => by rcases q.2 with q | q; (rw [g1] at q; omega); (rw [g1, Int.toNat_natCast] at q; omega))).trans g1)
            clear HH OK hA hD hE g1 g2 g3 g4 e1
            go_wp2
            go_quiet (fail)
            go_wp2
            go_roundw
            case rel => exact ⟨k + 1, _, by omega, rfl, by go_num, HN.out.symm, HB.out _⟩
            case measure => simp [intOf]; omega
      · have d0 : decide (0 < A) = false := decide_eq_false h0
        have HN : Hid (nx c a (k + 1) = X) := hid ((nx_keep (fun q => by omega)).trans HH.out.1.symm)
        clear HH OK hA hD
        go_wp2
        go_quiet (fail)
        go_wp2
        go_roundw
        case rel => exact ⟨k + 1, _, by omega, rfl, by go_num, HN.out.symm, HB.out _⟩
        case measure => simp [intOf]; omega
    · obtain rfl : k = n := by omega
      have lkk : ¬ (k : Int) < (k : Int) := by omega
      go_wp2
      go_returns
      exact ⟨ret_i HH.out.1, HH.out.2⟩
end Go.Proofs.Ytnglofgcckdbmaa
