/- Rows of whole numbers that grow. -/
import Derived.Test.YtogolmbgboihdaaIn
import Derived.Laws.OwnMore
import Derived.Maps.AppendAt
namespace Go.Proofs.Ytogolmbgboihdaa
open Go Go.ChangeShapes Go.WideShapes Go.ChangeAt Go.RowKit
set_option linter.unusedVariables false
set_option linter.unusedSimpArgs false

theorem earow {w w' : World} {base : Nat} {e : TypeId} {size : Nat} {v : Value} {n : Nat} {xs : List Value} (h : w.ownsRow base e size v n xs) (hb : ∀ g, v.ownBlock = some g → w'.heap[g]? = w.heap[g]?) : w'.ownsRow base e size v n xs := by
  refine ⟨h.1, ?_⟩
  rcases h.2 with hn | ⟨g, cap, cur, rfl, hb', hgg, rest⟩
  · exact .inl hn
  · refine .inr ⟨g, cap, cur, rfl, hb', ?_, rest⟩
    rw [hb g rfl]
    exact hgg
theorem egrown {B : Nat} {A w w' : World} {row : Option Nat} (h : Below B A w) (hA : B ≤ A.heap.size) (g : w.grownBy w' row) (hr : ∀ r, row = some r → B ≤ r) : Below B A w' :=
  ⟨g.os.trans h.os, g.tape.trans h.tape, g.output.trans h.output, Nat.le_trans h.size g.size, fun k hk => (g.block k (by have := h.size; omega) (fun e => by have := hr k e.symm; omega)).trans (h.block k hk)⟩
theorem ecells {w : World} {b : Nat} {l : List Value} {t : TypeId} (hb : w.heap.size = b) : ∀ j u, l[j]? = some u → (w.alloc (.cells l.toArray t (0, 0))).cell? ((⟨b, 0, none⟩ : Addr).add j) = some u := by
  intro j u hj
  have h := (CB.newAt hb l.toArray t).cell j
  have e : (⟨b, 0, none⟩ : Addr).add j = ⟨b, j, none⟩ := by
    simp only [Addr.add]; by_cases q : j = 0 <;> simp [q]
  rw [e, h]; simpa using hj
theorem eown_some {w : World} {base : Nat} {e : TypeId} {size : Nat} {v : Value} {n : Nat} {xs : List Value} (h : w.ownsRow base e size v n xs) (hn : 0 < n) : ∃ g cap, v = .slice (some ⟨g, 0, none⟩) n cap ∧ base ≤ g := by
  rcases h.2 with ⟨_, e0⟩ | ⟨g, cap, cur, rfl, hb, _⟩
  · omega
  · exact ⟨g, cap, rfl, hb⟩
/-- Whole numbers in a row that grows. -/
structure AQ (w : World) (g k oc : Nat) (z : Nat → Int) (W : World) : Prop where
  own : W.ownsRow w.heap.size 3 1 (.slice (some ⟨g, 0, none⟩) k oc) k (intR z k)
  bel : Below w.heap.size w W
theorem AQ.below {w W W' : World} {g k oc : Nat} {z : Nat → Int} (h : AQ w g k oc z W) (b : Below W.heap.size W W') : AQ w g k oc z W' := ⟨earow h.own (fun q hq => b.block q (h.own.lt q hq).2), bel_on h.bel b⟩
theorem AQ.grow {w W w9 : World} {g k oc g9 oc9 : Nat} {z : Nat → Int} {x : Int} (h : AQ w g k oc z W) (hx : x = z k) (hg : W.grownBy w9 (Value.slice (some ⟨g, 0, none⟩) k oc).ownBlock) (hown : w9.ownsRow w.heap.size 3 1 (.slice (some ⟨g9, 0, none⟩) (k + 1) oc9) (k + 1) (intR z k ++ [.int .i64 x])) : AQ w g9 (k + 1) oc9 z w9 := by
  subst hx
  have hgg := h.own.lt g rfl
  refine ⟨hown, egrown h.bel (Nat.le_refl _) hg (fun q hq => ?_)⟩
  have : q = g := by simpa [Value.ownBlock] using hq.symm
  omega

theorem AQ.congr {w W : World} {g k oc : Nat} {z y : Nat → Int} (h : AQ w g k oc z W) (e : ∀ j, j < k → z j = y j) : AQ w g k oc y W := ⟨by rw [← intR_congr e]; exact h.own, h.bel⟩
theorem AQ.row {w W : World} {g k oc : Nat} {z : Nat → Int} (h : AQ w g k oc z W) : IR W (some ⟨g, 0, none⟩) k z := row_IR h.own (fun j hj => intR_get z k j hj)
theorem AQ.start (w : World) (z : Nat → Int) : AQ w w.heap.size 0 0 z (w.alloc (.cells #[] 3)) := ⟨⟨rfl, .inr ⟨w.heap.size, 0, #[], rfl, Nat.le_refl _, CB.new _ _, Nat.le_refl _, Nat.zero_le _, rfl, rfl⟩⟩, (Below.refl _ _).alloc (Nat.le_refl _) _⟩
theorem AQ.fin {w W : World} {g k oc : Nat} {z : Nat → Int} (h : AQ w g k oc z W) : OwnI W w.heap.size (some ⟨g, 0, none⟩) k z := by
  obtain ⟨ad, cp, e, h1, h2⟩ := ownI_of h.own
  simp only [Value.slice.injEq] at e
  obtain ⟨rfl, _, rfl⟩ := e
  exact h2
/-- Whether x is among the first k. -/
def hasB (f : Nat → Int) (x : Int) : Nat → Bool
  | 0 => false
  | k + 1 => hasB f x k || (f k == x)
theorem hasB_y {f : Nat → Int} {x : Int} : ∀ {k : Nat}, hasB f x k = true → ∃ j, j < k ∧ f j = x
  | 0, h => by cases h
  | k + 1, h => by
    simp only [hasB, Bool.or_eq_true, beq_iff_eq] at h
    rcases h with h | h
    · obtain ⟨j, h1, h2⟩ := hasB_y h; exact ⟨j, by omega, h2⟩
    · exact ⟨k, by omega, h⟩
theorem hasB_n {f : Nat → Int} {x : Int} {k : Nat} (h : hasB f x k = false) : ∀ j, j < k → f j ≠ x := by
  intro j hj e
  induction k with
  | zero => omega
  | succ k ih =>
    simp only [hasB, Bool.or_eq_false_iff] at h
    by_cases q : j = k
    · subst q; have := h.2; simp at this; exact this e
    · exact ih h.1 (by omega)
theorem hasB_t {f : Nat → Int} {x : Int} {k : Nat} {j : Nat} (hj : j < k) (e : f j = x) : hasB f x k = true := by
  cases h : hasB f x k
  · exact absurd e (hasB_n h j hj)
  · rfl
theorem hasB_f {f : Nat → Int} {x : Int} {k : Nat} (h : ∀ j, j < k → f j ≠ x) : hasB f x k = false := by
  cases q : hasB f x k
  · rfl
  · obtain ⟨j, h1, h2⟩ := hasB_y q; exact absurd h2 (h j h1)
set_option maxRecDepth 20000 in
set_option maxHeartbeats 2000000 in
theorem l7Has_eq (ad : Option Addr) (n cap : Nat) (f : Nat → Int) (x : Int) (v : Bool) (w : World) (hn : (n : Int) ≤ 1048576) (hr : IR w ad n f) (hv : hasB f x n = v) :
    Calls Try.prog 80 #[.slice ad n cap, .int .i64 x] w fun e w' => e = .returned (.bool v) ∧ w' = w := by
  subst hv
  have HR : Hid (IR w ad n f) := hr
  clear hr
  go_enter Try.func80, Try.ntmps80
  go_wp2
  go_loopw [5] (fun i wr => ∃ k : Nat, k ≤ n ∧ i = .int .i64 (k : Int) ∧ Hid ((∀ j, j < k → f j ≠ x) ∧ wr = w)) (fun i _ => n - (intOf i).toNat)
  case atStart => exact ⟨0, Nat.zero_le _, rfl, fun j hj => by omega, rfl⟩
  case round =>
    obtain ⟨k, hk, rfl, HH⟩ := hrel
    obtain ⟨HP, rfl⟩ : Hid (∀ j, j < k → f j ≠ x) ∧ wr = w := ⟨HH.out.1, HH.out.2⟩
    clear HH
    by_cases hlt : k < n
    · have hlt2 : (k : Int) < (n : Int) := by omega
      obtain ⟨kb, off, rfl, _⟩ := HR.out.addr (by omega)
      have c0 := HR.out.cell hlt
      obtain ⟨y, hy⟩ : ∃ y, f k = y := ⟨_, rfl⟩
      have HY : Hid (f k = y) := hy
      rw [hy] at c0
      clear hy
      by_cases e : y = x
      · subst e
        have HV : Hid (true = hasB f y n) := hid (hasB_t hlt HY.out).symm
        go_wp2
        go_returns
        exact ⟨ret_bool HV.out, rfl⟩
      · have e2 : (y == x) = false := by simpa using e
        go_wp2
        go_roundw
        case rel => exact ⟨k + 1, by omega, by go_num, fun j hj => (by
          by_cases q : j = k
          · subst q; rw [HY.out]; exact e
          · exact HP.out j (by omega)), by first | rfl | trivial⟩
        case measure => simp [intOf]; omega
    · obtain rfl : k = n := by omega
      have lkk : ¬ (k : Int) < (k : Int) := by omega
      have HV : Hid (false = hasB f x k) := hid (hasB_f HP.out).symm
      go_wp2
      go_returns
      exact ⟨ret_bool HV.out, rfl⟩
end Go.Proofs.Ytogolmbgboihdaa
