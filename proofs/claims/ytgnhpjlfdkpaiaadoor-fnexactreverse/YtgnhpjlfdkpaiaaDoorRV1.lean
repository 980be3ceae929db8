/- The model's numeral and the library's Itoa: one text. Lines turned the other way: plain, and in memory. The model's copy of an entry, whose lines lie in a block of their own; the program's entry turned the other way. -/
import Derived.Test.YtgnhpjlfdkpaiaaDoorProg
import Derived.Test.YtgnhpjlfdkpaiaaDoorItL
import Derived.WalkKit
import Derived.ProofKit
import Derived.WalkLawsBesides
import Derived.WalkSpells
import Derived.Handy
import Derived.Outline
import Derived.Below
import Derived.Deep.QuietTactic
import Derived.BigQuiet
import Derived.Deep.RegionWith
import Derived.WalkSmall
import Derived.Test.YtgnhpjlfdkpaiaaDoorGa
import Derived.Test.YtgnhpjlfdkpaiaaDoorLt
import Derived.Test.YtgnhpjlfdkpaiaaDoorGc2
import Derived.Test.YtgnhpjlfdkpaiaaDoorGd2
import Derived.BigRegion
namespace Go.Proofs.YtgnhpjlfdkpaiaaDoor
open Go.ChangeShapes Go.WideShapes Go.ChangeAt Go.RowKit
set_option linter.unusedVariables false
set_option linter.unusedSimpArgs false
open Go.Lib

theorem dec_small {u : Nat} (h : u < 10) : decDigits u = [UInt8.ofNat (48 + u)] := by rw [decDigits, dif_pos h]
theorem dec_big {u : Nat} (h : ¬ u < 10) : decDigits u = decDigits (u / 10) ++ [UInt8.ofNat (48 + u % 10)] := by rw [decDigits, dif_neg h]
def tenB : ByteArray := ⟨#[48, 49, 50, 51, 52, 53, 54, 55, 56, 57]⟩
def strB (l : List UInt8) : ByteArray := ⟨l.toArray⟩

theorem ten_piece (n : Nat) (h : n < 10) : (⟨#[48, 49, 50, 51, 52, 53, 54, 55, 56, 57]⟩ : ByteArray).extract n (n + 1) = strB (decDigits n) := by
  rw [dec_small h]
  have h10 : n = 0 ∨ n = 1 ∨ n = 2 ∨ n = 3 ∨ n = 4 ∨ n = 5 ∨ n = 6 ∨ n = 7 ∨ n = 8 ∨ n = 9 := by omega
  rcases h10 with rfl | rfl | rfl | rfl | rfl | rfl | rfl | rfl | rfl | rfl <;> rfl

theorem strB_size (l : List UInt8) : (strB l).size = l.length := by simp [strB, ByteArray.size]
theorem strB_append (a b : List UInt8) : strB a ++ strB b = strB (a ++ b) := by
  apply ByteArray.ext
  simp [strB]

theorem ret_str {a b : ByteArray} (h : a = b) : Ending.returned (.string a) = .returned (.string b) := by rw [h]

theorem text_small (n : Nat) (w : World) (h : n < 10) :
    Calls Tryd.prog 84 #[.int .i64 (n : Int)] w fun e w' => e = .returned (.string (strB (decDigits n))) ∧ ∃ q, w' = w.drewN q := by
  have h0 : (0 : Int) ≤ n := by omega
  have h1 : (n : Int) < 10 := by omega
  go_enter Tryd.func84, Tryd.ntmps84
  go_wp2_with fail
  go_returns
  exact ⟨ret_str (ten_piece n h), 0, rfl⟩

theorem dec_len_le (n : Nat) (hn : n < 1000000000000000000) : (decDigits n).length ≤ 18 := by
  have : ∀ (k n : Nat), n < 10 ^ (k + 1) → (decDigits n).length ≤ k + 1 := by
    intro k
    induction k with
    | zero => intro n h; rw [dec_small (by omega)]; simp
    | succ k ih =>
      intro n h
      by_cases h10 : n < 10
      · rw [dec_small h10]; simp
      · rw [dec_big h10, List.length_append]
        have := ih (n / 10) (by rw [Nat.pow_succ] at h; omega)
        simp; omega
  exact this 17 n (by omega)

theorem text_join (n : Nat) (A B : ByteArray) (w : World) (h0 : (10 : Int) ≤ n) (hw1 : wrap64 ((n : Int) / 10) = (n : Int) / 10) (hw2 : IntKind.i64.wrap ((n : Int) / 10) = (n : Int) / 10) (sa : A.size ≤ 100) (sb : B.size ≤ 100)
    (e1 : (⟨#[48, 49, 50, 51, 52, 53, 54, 55, 56, 57]⟩ : ByteArray).extract (n % 10) (n % 10 + 1) = B)
    (ih : ∀ w : World, Calls Tryd.prog 84 #[.int .i64 ((n : Int) / 10)] w fun e w' => e = .returned (.string A) ∧ ∃ q, w' = w.drewN q) :
    Calls Tryd.prog 84 #[.int .i64 (n : Int)] w fun e w' => e = .returned (.string (A ++ B)) ∧ ∃ q, w' = w.drewN q := by
  have IH : Hid (∀ w : World, Calls Tryd.prog 84 #[.int .i64 ((n : Int) / 10)] w fun e w' => e = .returned (.string A) ∧ ∃ q, w' = w.drewN q) := ih
  have E1 : Hid ((⟨#[48, 49, 50, 51, 52, 53, 54, 55, 56, 57]⟩ : ByteArray).extract (n % 10) (n % 10 + 1) = B) := e1
  have SA : Hid (A.size ≤ 100) := sa
  have SB : Hid (B.size ≤ 100) := sb
  clear ih e1 sa sb
  go_enter Tryd.func84, Tryd.ntmps84
  go_wp2_with fail
  have e1 := E1.out
  have sa := SA.out
  have sb := SB.out
  go_quiet ((go_at_call 84; exact Calls.quiet_of (IH.out _)))
  go_wp2
  go_returns
  exact ⟨rfl, _, rfl⟩

theorem text_big (n : Nat) (w : World) (h : ¬ n < 10) (hn : n < 1000000000000000000)
    (ih : ∀ w : World, Calls Tryd.prog 84 #[.int .i64 ((n : Int) / 10)] w fun e w' => e = .returned (.string (strB (decDigits (n / 10)))) ∧ ∃ q, w' = w.drewN q) :
    Calls Tryd.prog 84 #[.int .i64 (n : Int)] w fun e w' => e = .returned (.string (strB (decDigits n))) ∧ ∃ q, w' = w.drewN q := by
  have l1 := dec_len_le (n / 10) (by omega)
  have l2 := dec_len_le (n % 10) (by omega)
  have := text_join n (strB (decDigits (n / 10))) (strB (decDigits (n % 10))) w (by omega) (IntWalk.wrap64_in _ ⟨by omega, by omega⟩) (IntWalk.i64_in _ ⟨by omega, by omega⟩) (by rw [strB_size]; omega) (by rw [strB_size]; omega) (ten_piece (n % 10) (by omega)) ih
  rw [strB_append, dec_small (show n % 10 < 10 by omega), ← dec_big h] at this
  exact this

theorem text_any (n : Nat) : ∀ w : World, n < 1000000000000000000 →
    Calls Tryd.prog 84 #[.int .i64 (n : Int)] w fun e w' => e = .returned (.string (strB (decDigits n))) ∧ ∃ q, w' = w.drewN q := by
  induction n using Nat.strongRecOn with
  | ind n ih =>
    intro w hn
    by_cases h : n < 10
    · exact text_small n w h
    · refine text_big n w h hn fun w => ?_
      have := ih (n / 10) (by omega) w (by omega)
      rwa [show (((n / 10 : Nat) : Int)) = (n : Int) / 10 by omega] at this


theorem grow_below (w : World) (k : Nat) (os : Array Obj) : Below w.heap.size w (Go.Sort.grow (w.drewN k) os) := by
  refine ⟨rfl, rfl, rfl, ?_, fun j hj => ?_⟩
  · show w.heap.size ≤ (w.heap ++ os).size
    simp
  · show (w.heap ++ os)[j]? = w.heap[j]?
    rw [Array.getElem?_append_left hj]
theorem itoa_any (x : Nat) (w : World) (h1 : x ≤ 100000000000) (htab : Lib.TabIs Tryd.prog w "internal/strconv.uint64pow10" .u64 Lib.pow10Tab) :
    Calls Tryd.prog 81 #[.int .i64 (x : Int)] w fun e w' => e = .returned (.string (strB (decDigits x))) ∧ Below w.heap.size w w' := by
  refine (Tryd.strconv_Itoa (x : Int) (by omega) (by omega) w htab).mono ?_
  rintro e w' ⟨rfl, k, os, rfl⟩
  have e1 : Lib.itoa (x : Int) = decDigits x := by unfold Lib.itoa; rw [if_neg (by omega)]; simp
  rw [e1]
  exact ⟨rfl, grow_below w k os⟩
theorem itoa_at {x : Int} {m : Nat} {w : World} (hx : x = (m : Int)) (h1 : m ≤ 100000000000) (htab : Lib.TabIs Tryd.prog w "internal/strconv.uint64pow10" .u64 Lib.pow10Tab) :
    Calls Tryd.prog 81 #[.int .i64 x] w fun e w' => e = .returned (.string (strB (decDigits m))) ∧ Below w.heap.size w w' := hx ▸ itoa_any m w h1 htab
theorem text_at {x : Int} {m : Nat} {w : World} (hx : x = (m : Int)) (h1 : m ≤ 100000000000) :
    Calls Tryd.prog 84 #[.int .i64 x] w fun e w' => e = .returned (.string (strB (decDigits m))) ∧ ∃ q, w' = w.drewN q := hx ▸ text_any m w (by omega)
theorem drew_below (w : World) (q : Nat) : Below w.heap.size w (w.drewN q) := ⟨rfl, rfl, rfl, Nat.le_refl _, fun _ _ => rfl⟩
theorem tab_below {w w' : World} {n : String} {k : IntKind} {zs : List Int} {g : Nat} (hg : Tryd.prog.globalNamed n = some g) (h : Lib.TabIs Tryd.prog w n k zs) (b : Below w.heap.size w w') (hl : g < w.heap.size) : Lib.TabIs Tryd.prog w' n k zs := by
  unfold Lib.TabIs at h ⊢
  rw [← h]
  unfold World.var?
  rw [hg]
  show (match w'.heap[g]? with | some (.cells cs _ _) => some cs | _ => none) = (match w.heap[g]? with | some (.cells cs _ _) => some cs | _ => none)
  rw [b.block g hl]
end Go.Proofs.YtgnhpjlfdkpaiaaDoor

namespace Go.Proofs.YtgnhpjlfdkpaiaaDoor
open Go Go.ChangeShapes Go.WideShapes Go.ChangeAt Go.RowKit
set_option linter.unusedVariables false
set_option linter.unusedSimpArgs false

def rvL (l : L5) : L5 := ⟨l.acc, l.dim, l.cur, -l.amt, -l.base⟩
/-- The first k lines turned. -/
def mxL (k : Nat) (ls : Nat → L5) (j : Nat) : L5 := if j < k then rvL (ls j) else ls j
/-- And the amount of line k. -/
def hfL (k : Nat) (ls : Nat → L5) (j : Nat) : L5 := if j = k then ⟨(ls k).acc, (ls k).dim, (ls k).cur, -(ls k).amt, (ls k).base⟩ else mxL k ls j
theorem mxL_zero (ls : Nat → L5) : mxL 0 ls = ls := by funext j; unfold mxL; rw [if_neg (by omega)]
theorem mxL_at (k : Nat) (ls : Nat → L5) : mxL k ls k = ls k := by unfold mxL; rw [if_neg (by omega)]
theorem mxL_all {n : Nat} {ls : Nat → L5} {j : Nat} (h : j < n) : mxL n ls j = rvL (ls j) := by unfold mxL; rw [if_pos h]
theorem hfL_at (k : Nat) (ls : Nat → L5) : hfL k ls k = ⟨(ls k).acc, (ls k).dim, (ls k).cur, -(ls k).amt, (ls k).base⟩ := by unfold hfL; rw [if_pos rfl]
theorem hfL_ne {k j : Nat} (ls : Nat → L5) (h : j ≠ k) : hfL k ls j = mxL k ls j := by unfold hfL; rw [if_neg h]
theorem mxL_ne {k j : Nat} (ls : Nat → L5) (h : j ≠ k) : mxL (k + 1) ls j = mxL k ls j := by
  unfold mxL
  by_cases g : j < k
  · rw [if_pos g, if_pos (by omega)]
  · rw [if_neg g, if_neg (by omega)]
theorem mxL_new (k : Nat) (ls : Nat → L5) : mxL (k + 1) ls k = rvL (ls k) := by unfold mxL; rw [if_pos (by omega)]
/-- Block b has m cells, the first lines of which are ls. -/
def OwnZ (w : World) (b m n : Nat) (ls : Nat → L5) (t : TypeId) : Prop := ∃ lc, CB w b lc t ∧ lc.size = m ∧ n * 5 ≤ m ∧ ∀ i, i < n → Cells5 lc (i * 5) (ls i)
section
variable {w w' : World} {b m n k : Nat} {ls : Nat → L5} {t : TypeId}
theorem OwnL.z (h : OwnL w b n ls t) : OwnZ w b (n * 5) n ls t := by obtain ⟨lc, h1, h2, h3⟩ := h; exact ⟨lc, h1, h2, Nat.le_refl _, h3⟩
theorem OwnZ.l (h : OwnZ w b (n * 5) n ls t) : OwnL w b n ls t := by obtain ⟨lc, h1, h2, _, h3⟩ := h; exact ⟨lc, h1, h2, h3⟩
theorem OwnZ.lt (h : OwnZ w b m n ls t) : b < w.heap.size := by obtain ⟨lc, h1, _⟩ := h; exact h1.lt
theorem OwnZ.row (h : OwnZ w b m n ls t) : LR w (some ⟨b, 0, none⟩) n ls := by obtain ⟨lc, h1, _, _, h3⟩ := h; exact LR.of_block h1 n ls h3
theorem OwnZ.fr (h : OwnZ w b m n ls t) (o : Nat) : w.frozen? ⟨b, o, none⟩ = false := by obtain ⟨lc, h1, _⟩ := h; exact h1.fr o
theorem OwnZ.at (h : OwnZ w b m n ls t) (hk : k < n) : At5 w b (k * 5) (ls k) := by obtain ⟨lc, h1, _, _, h3⟩ := h; unfold At5; rw [h1.cell, h1.cell, h1.cell, h1.cell, h1.cell]; exact h3 k hk
theorem OwnZ.keep (h : OwnZ w b m n ls t) (hb : w'.heap[b]? = w.heap[b]?) : OwnZ w' b m n ls t := by obtain ⟨lc, h1, h2, h3, h4⟩ := h; exact ⟨lc, by unfold CB at h1 ⊢; rw [hb]; exact h1, h2, h3, h4⟩
theorem OwnZ.below (h : OwnZ w b m n ls t) (k : Below w.heap.size w w') : OwnZ w' b m n ls t := h.keep (k.block b h.lt)
theorem OwnZ.other {c o : Nat} (h : OwnZ w b m n ls t) (hb : b ≠ c) (v : Value) : OwnZ (w.setCell ⟨c, o, none⟩ v) b m n ls t := h.keep (Below.heap_setCell _ _ _ _ (by simpa using hb))
theorem set_ne' {cs : Array Value} {i j : Nat} {v : Value} (h : i ≠ j) : (cs.setIfInBounds i v)[j]? = cs[j]? := by rw [Array.getElem?_setIfInBounds, if_neg h]
theorem set_eq' {cs : Array Value} {i : Nat} {v : Value} (h : i < cs.size) : (cs.setIfInBounds i v)[i]? = some v := by rw [Array.getElem?_setIfInBounds, if_pos rfl, if_pos h]
theorem OwnZ.amt (h : OwnZ w b m n (mxL k ls) t) (hk : k < n) : OwnZ (w.setCell ⟨b, k * 5 + 3, none⟩ (.int .i64 (-(ls k).amt))) b m n (hfL k ls) t := by
  obtain ⟨lc, h1, h2, h3, h4⟩ := h
  refine ⟨_, h1.set (k * 5 + 3) _, by simpa using h2, h3, fun i hi => ?_⟩
  by_cases e : i = k
  · subst e
    have h5 := h4 i hi
    rw [mxL_at] at h5
    obtain ⟨a1, a2, a3, a4, a5⟩ := h5
    rw [hfL_at]
    exact ⟨(set_ne' (by omega)).trans a1, (set_ne' (by omega)).trans a2, (set_ne' (by omega)).trans a3, set_eq' (by omega), (set_ne' (by omega)).trans a5⟩
  · rw [hfL_ne _ e]
    obtain ⟨a1, a2, a3, a4, a5⟩ := h4 i hi
    exact ⟨(set_ne' (by omega)).trans a1, (set_ne' (by omega)).trans a2, (set_ne' (by omega)).trans a3, (set_ne' (by omega)).trans a4, (set_ne' (by omega)).trans a5⟩
theorem OwnZ.base (h : OwnZ w b m n (hfL k ls) t) (hk : k < n) : OwnZ (w.setCell ⟨b, k * 5 + 4, none⟩ (.int .i64 (-(ls k).base))) b m n (mxL (k + 1) ls) t := by
  obtain ⟨lc, h1, h2, h3, h4⟩ := h
  refine ⟨_, h1.set (k * 5 + 4) _, by simpa using h2, h3, fun i hi => ?_⟩
  by_cases e : i = k
  · subst e
    have h5 := h4 i hi
    rw [hfL_at] at h5
    obtain ⟨a1, a2, a3, a4, a5⟩ := h5
    rw [mxL_new]
    exact ⟨(set_ne' (by omega)).trans a1, (set_ne' (by omega)).trans a2, (set_ne' (by omega)).trans a3, (set_ne' (by omega)).trans a4, set_eq' (by omega)⟩
  · rw [mxL_ne _ e, ← hfL_ne _ e]
    obtain ⟨a1, a2, a3, a4, a5⟩ := h4 i hi
    exact ⟨(set_ne' (by omega)).trans a1, (set_ne' (by omega)).trans a2, (set_ne' (by omega)).trans a3, (set_ne' (by omega)).trans a4, (set_ne' (by omega)).trans a5⟩
theorem OwnZ.congr {ls' : Nat → L5} (h : OwnZ w b m n ls t) (he : ∀ i, i < n → ls i = ls' i) : OwnZ w b m n ls' t := by obtain ⟨lc, h1, h2, h3, h4⟩ := h; exact ⟨lc, h1, h2, h3, fun i hi => (he i hi) ▸ h4 i hi⟩
end
end Go.Proofs.YtgnhpjlfdkpaiaaDoor

namespace Go.Proofs.YtgnhpjlfdkpaiaaDoor
open Go Go.ChangeShapes Go.WideShapes Go.ChangeAt Go.RowKit
set_option linter.unusedVariables false
set_option linter.unusedSimpArgs false

theorem own_of_take {w : World} {g n : Nat} {cur : Array Value} {t : TypeId} {ls : Nat → L5} (h : CB w g cur t) (hs : n * 5 ≤ cur.size) (ht : cur.toList.take (n * 5) = rowC ls n) : OwnZ w g cur.size n ls t := by
  refine ⟨cur, h, rfl, hs, fun j hj => ?_⟩
  have h2 := rowC_get ls n j hj
  unfold Cells5 at h2 ⊢
  simp only [List.getElem?_toArray, ← ht] at h2
  obtain ⟨a, b, c, d, e⟩ := h2
  rw [List.getElem?_take] at a b c d e
  rw [if_pos (by omega)] at a b c d e
  exact ⟨by simpa using a, by simpa using b, by simpa using c, by simpa using d, by simpa using e⟩
theorem app_row2 {w5 : World} {base n : Nat} {t : TypeId} {v v' : Value} {ls : Nat → L5} {RS : List Value} {a0 : Addr} {c0 : Nat} (hv : v = .slice (some a0) 0 c0) (hRS : RS = rowC ls n) (h : w5.ownsRow base t 5 v' (0 + n) ([] ++ RS)) (hnil : v' = .slice none 0 0 ↔ v = .slice none 0 0 ∧ n = 0) :
    ∃ g cp m, v' = .slice (some ⟨g, 0, none⟩) n cp ∧ base ≤ g ∧ OwnZ w5 g m n ls t := by
  rcases h.2 with ⟨e, _⟩ | ⟨g, cp, cur, e, hb, hg, h1, _, h3, ht⟩
  · exact absurd (hnil.1 e).1 (by rw [hv]; simp)
  rw [Nat.zero_add] at e ht h1
  rw [List.nil_append, hRS] at ht
  exact ⟨g, cp, cur.size, e, hb, own_of_take hg (by omega) ht⟩

set_option maxRecDepth 20000 in
set_option maxHeartbeats 2000000 in
theorem l5Entry_own (d r : Int) (s : ByteArray) (a : Addr) (n cap : Nat) (ls : Nat → L5) (w : World) (h : (n : Int) ≤ 1048576) (hr : LR w (some a) n ls) :
    Calls Tryd.prog 66 #[.agg #[.int .i64 d, .int .i64 r, .string s, .slice (some a) n cap]] w fun e w' => ∃ b c m, e = .returned (.agg #[.int .i64 d, .int .i64 r, .string s, .slice (some ⟨b, 0, none⟩) n c]) ∧ w.heap.size ≤ b ∧ OwnZ w' b m n ls 56 ∧ Below w.heap.size w w' := by
  obtain ⟨i0, hi, hz0, hz1, hz2⟩ := infoL
  have HBA : Hid (Below w.heap.size w (((w.alloc (.cells #[.int .i64 d, .int .i64 r, .string s, .slice (some a) n cap] 32 (0, 0))).alloc (.cells #[.int .i64 0, .int .i64 0, .string ⟨#[]⟩, .slice none 0 0] 32 (0, 0))).alloc (.cells #[] 56 (0, 0)))) := ((((Below.refl _ _).alloc (Nat.le_refl _) _).alloc (by simp) _).alloc (by simp; omega) _)
  have HSRC : Hid (∀ j v, (rowC ls n)[j]? = some v → (((w.alloc (.cells #[.int .i64 d, .int .i64 r, .string s, .slice (some a) n cap] 32 (0, 0))).alloc (.cells #[.int .i64 0, .int .i64 0, .string ⟨#[]⟩, .slice none 0 0] 32 (0, 0))).alloc (.cells #[] 56 (0, 0))).cell? (a.add j) = some v) := rowC_any (hr.below HBA.out)
  have HC0 : Hid (CB (((w.alloc (.cells #[.int .i64 d, .int .i64 r, .string s, .slice (some a) n cap] 32 (0, 0))).alloc (.cells #[.int .i64 0, .int .i64 0, .string ⟨#[]⟩, .slice none 0 0] 32 (0, 0))).alloc (.cells #[] 56 (0, 0))) w.heap.size #[.int .i64 d, .int .i64 r, .string s, .slice (some a) n cap] 32) := ((CB.new _ _).alloc _).alloc _
  have HC1 : Hid (CB (((w.alloc (.cells #[.int .i64 d, .int .i64 r, .string s, .slice (some a) n cap] 32 (0, 0))).alloc (.cells #[.int .i64 0, .int .i64 0, .string ⟨#[]⟩, .slice none 0 0] 32 (0, 0))).alloc (.cells #[] 56 (0, 0))) (w.heap.size + 1) #[.int .i64 0, .int .i64 0, .string ⟨#[]⟩, .slice none 0 0] 32) := (CB.newAt (by simp) _ _).alloc _
  have HOWN : Hid ((((w.alloc (.cells #[.int .i64 d, .int .i64 r, .string s, .slice (some a) n cap] 32 (0, 0))).alloc (.cells #[.int .i64 0, .int .i64 0, .string ⟨#[]⟩, .slice none 0 0] 32 (0, 0))).alloc (.cells #[] 56 (0, 0))).ownsRow (w.heap.size + 1 + 1) 56 5 (.slice (some ⟨w.heap.size + 1 + 1, 0, none⟩) 0 0) 0 []) := ⟨rfl, .inr ⟨w.heap.size + 1 + 1, 0, #[], rfl, Nat.le_refl _, CB.newAt (by simp) _ _, Nat.le_refl _, Nat.zero_le _, rfl, rfl⟩⟩
  obtain ⟨RS, hRS⟩ : ∃ RS : List Value, RS = rowC ls n := ⟨_, rfl⟩
  have HL : Hid (RS.length = n * 5) := by rw [hRS]; exact rowC_len ls n
  have H1 : Hid (∀ v ∈ RS, v.oneCell' = true) := by rw [hRS]; exact rowC_one ls n
  have HRS : Hid (RS = rowC ls n) := hRS
  rw [← hRS] at HSRC
  clear hr hRS
  go_enter Tryd.func66, Tryd.ntmps66
  go_wp2_with (at_builtin; go_loud (refine wpList_append_own_at _ rfl _ _ 30 rfl (w.heap.size + 1 + 1) 56 i0 (.agg #[.int .i64 0, .int .i64 0, .int .i64 0, .int .i64 0, .int .i64 0]) 5 40 Tryd.underlying30 hi hz0 hz1 hz2 rfl (by decide) (.slice (some ⟨w.heap.size + 1 + 1, 0, none⟩) 0 0) 0 [] rfl HOWN.out a n cap RS rfl HL.out HSRC.out H1.out (by unfold maxLen; omega) (by omega) (by simp) ?_); intro v' w5 hown hgrow hnil hat; have C0 : CB w5 w.heap.size #[.int .i64 d, .int .i64 r, .string s, .slice (some a) n cap] 32 := HC0.out.grownB hgrow (by simp [Value.ownBlock]; try omega); have C1 : CB w5 (w.heap.size + 1) #[.int .i64 0, .int .i64 0, .string ⟨#[]⟩, .slice none 0 0] 32 := HC1.out.grownB hgrow (by simp [Value.ownBlock]; try omega); have B5 : Below w.heap.size w w5 := below_grown HBA.out (Nat.le_refl _) hgrow (fun r e => by simp [Value.ownBlock] at e; omega); obtain ⟨g, cp, mm, rfl, hb, hlr⟩ := app_row2 rfl HRS.out hown hnil; have HLR : Hid (OwnZ w5 g mm n ls 56) := hlr; have k0 : w5.cell? ⟨w.heap.size, 0, none⟩ = some (.int .i64 d) := (C0.cell 0).trans rfl; have k1 : w5.cell? ⟨w.heap.size, 1, none⟩ = some (.int .i64 r) := (C0.cell 1).trans rfl; have k2 : w5.cell? ⟨w.heap.size, 2, none⟩ = some (.string s) := (C0.cell 2).trans rfl; have k3 : w5.cell? ⟨w.heap.size, 3, none⟩ = some (.slice (some a) n cap) := (C0.cell 3).trans rfl; have f3 := C0.fr 3; have m0 : w5.cell? ⟨w.heap.size + 1, 0, none⟩ = some (.int .i64 0) := (C1.cell 0).trans rfl; have m1 : w5.cell? ⟨w.heap.size + 1, 1, none⟩ = some (.int .i64 0) := (C1.cell 1).trans rfl; have m2 : w5.cell? ⟨w.heap.size + 1, 2, none⟩ = some (.string ⟨#[]⟩) := (C1.cell 2).trans rfl; have m3 : w5.cell? ⟨w.heap.size + 1, 3, none⟩ = some (.slice none 0 0) := (C1.cell 3).trans rfl; have g0 := C1.fr 0; have g1 := C1.fr 1; have g2 := C1.fr 2; have g3 := C1.fr 3; have HD1 : Hid (CB w5 (w.heap.size + 1) #[.int .i64 0, .int .i64 0, .string ⟨#[]⟩, .slice none 0 0] 32) := C1; have HB : Hid (Below w.heap.size w w5) := B5; clear C0 C1 B5 hown hgrow hnil hat hlr)
  have hX := ((((HD1.out.other (c := w.heap.size) (o := 3) (.slice (some ⟨g, 0, none⟩) n cp) (by omega)).set 0 (.int .i64 d)).set 1 (.int .i64 r)).set 2 (.string s)).set 3 (.slice (some ⟨g, 0, none⟩) n cp)
  have hY := ((((HLR.out.other (c := w.heap.size) (o := 3) (by omega) (.slice (some ⟨g, 0, none⟩) n cp)).other (c := w.heap.size + 1) (o := 0) (by omega) (.int .i64 d)).other (c := w.heap.size + 1) (o := 1) (by omega) (.int .i64 r)).other (c := w.heap.size + 1) (o := 2) (by omega) (.string s)).other (c := w.heap.size + 1) (o := 3) (by omega) (.slice (some ⟨g, 0, none⟩) n cp)
  have hZ := ((((HB.out.setCell (p := ⟨w.heap.size, 3, none⟩) (by simp) (.slice (some ⟨g, 0, none⟩) n cp)).setCell (p := ⟨w.heap.size + 1, 0, none⟩) (by simp) (.int .i64 d)).setCell (p := ⟨w.heap.size + 1, 1, none⟩) (by simp) (.int .i64 r)).setCell (p := ⟨w.heap.size + 1, 2, none⟩) (by simp) (.string s)).setCell (p := ⟨w.heap.size + 1, 3, none⟩) (by simp) (.slice (some ⟨g, 0, none⟩) n cp)
  have e0 := hX.cell 0
  have e1 := hX.cell 1
  have e2 := hX.cell 2
  have e3 := hX.cell 3
  simp at e0 e1 e2 e3
  clear hX k0 k1 k2 k3 m0 m1 m2 m3 f3 g0 g1 g2 g3 HD1 HB HLR
  generalize (World.setCell _ _ _) = W5 at e0 e1 e2 e3 hY hZ ⊢
  refine bodyPost_ret (by simp [results, Tryd.results66, go_sem, e0, e1, e2, e3]; try rfl) rfl ?_
  exact ⟨_, _, _, rfl, by omega, hY, hZ⟩


theorem at5_cells {w : World} {b o : Nat} {l : L5} (h : At5 w b o l) : w.cell? ⟨b, o, none⟩ = some (.int .i64 l.acc) ∧ w.cell? ⟨b, o + 1, none⟩ = some (.int .i64 l.dim) ∧ w.cell? ⟨b, o + 2, none⟩ = some (.int .i64 l.cur) ∧ w.cell? ⟨b, o + 3, none⟩ = some (.int .i64 l.amt) ∧ w.cell? ⟨b, o + 4, none⟩ = some (.int .i64 l.base) := h

/-- What stands by while an entry's lines are turned. -/
structure RV (w : World) (d r : Int) (s : ByteArray) (b n k : Nat) (ls : Nat → L5) (W : World) : Prop where
  box : CB W w.heap.size #[.int .i64 d, .int .i64 r, .string s, .slice (some ⟨b, 0, none⟩) n n] 32
  res : CB W (w.heap.size + 1) #[.int .i64 0, .int .i64 0, .string ⟨#[]⟩, .slice none 0 0] 32
  own : OwnZ W b (n * 5) n (mxL k ls) 56
  bel : Below w.heap.size w W
theorem RV.next {w W : World} {d r : Int} {s : ByteArray} {b n k : Nat} {ls : Nat → L5} (h : RV w d r s b n k ls W) (hb : w.heap.size + 1 + 1 ≤ b) (hk : k < n) (o : Obj) : RV w d r s b n (k + 1) ls (((W.setCell ⟨b, k * 5 + 3, none⟩ (.int .i64 (-(ls k).amt))).setCell ⟨b, k * 5 + 4, none⟩ (.int .i64 (-(ls k).base))).alloc o) := by
  have h2 := h.bel.size
  exact ⟨((h.box.other _ (by omega)).other _ (by omega)).alloc o, ((h.res.other _ (by omega)).other _ (by omega)).alloc o, ((h.own.amt hk).base hk).below ((Below.refl _ _).alloc (Nat.le_refl _) o), ((h.bel.setCell (p := ⟨b, k * 5 + 3, none⟩) (by show w.heap.size ≤ b; omega) _).setCell (p := ⟨b, k * 5 + 4, none⟩) (by show w.heap.size ≤ b; omega) _).alloc (by simpa [World.setCell] using h2) o⟩

set_option maxRecDepth 20000 in
set_option maxHeartbeats 4000000 in
theorem reversed_any (d r : Int) (s : ByteArray) (ad : Option Addr) (n cap : Nat) (ls : Nat → L5) (w : World) (h : n ≤ 60) (hb : ∀ j, j < n → (-100000000000 ≤ (ls j).amt ∧ (ls j).amt ≤ 100000000000) ∧ (-100000000000 ≤ (ls j).base ∧ (ls j).base ≤ 100000000000)) (hr : LR w ad n ls) :
    Calls Tryd.prog 80 #[.agg #[.int .i64 d, .int .i64 r, .string s, .slice ad n cap]] w fun e w' => ∃ b, e = .returned (.agg #[.int .i64 d, .int .i64 r, .string s, .slice (some ⟨b, 0, none⟩) n n]) ∧ w.heap.size ≤ b ∧ OwnL w' b n (fun j => rvL (ls j)) 56 ∧ Below w.heap.size w w' := by
  have HB : Hid (∀ j, j < n → (-100000000000 ≤ (ls j).amt ∧ (ls j).amt ≤ 100000000000) ∧ (-100000000000 ≤ (ls j).base ∧ (ls j).base ≤ 100000000000)) := hb
  have HCP := entryCopied_any d r s ad n cap ls ((w.alloc (.cells #[.int .i64 d, .int .i64 r, .string s, .slice ad n cap] 32 (0, 0))).alloc (.cells #[.int .i64 0, .int .i64 0, .string ⟨#[]⟩, .slice none 0 0] 32 (0, 0))) (by omega) ((hr.alloc _).alloc _)
  have HC : Hid (Calls Tryd.prog 123 #[.agg #[.int .i64 d, .int .i64 r, .string s, .slice ad n cap]] ((w.alloc (.cells #[.int .i64 d, .int .i64 r, .string s, .slice ad n cap] 32 (0, 0))).alloc (.cells #[.int .i64 0, .int .i64 0, .string ⟨#[]⟩, .slice none 0 0] 32 (0, 0))) _) := HCP
  clear hb hr HCP
  have hn9 : (n : Int) ≤ 60 := by omega
  have B0 : Hid (Below w.heap.size w ((w.alloc (.cells #[.int .i64 d, .int .i64 r, .string s, .slice ad n cap] 32 (0, 0))).alloc (.cells #[.int .i64 0, .int .i64 0, .string ⟨#[]⟩, .slice none 0 0] 32 (0, 0)))) := ((Below.refl _ _).alloc (Nat.le_refl _) _).alloc (by simp) _
  go_enter Tryd.func80, Tryd.ntmps80
  go_wp2_with (go_at_call 123; go_loud (refine HC.out.mono ?_; rintro e w1 ⟨b, rfl, hb1, o1, b1⟩; have c1 : CB w1 w.heap.size #[.int .i64 d, .int .i64 r, .string s, .slice ad n cap] 32 := ((CB.new _ _).alloc _).below b1 (by simp; omega); have c2 : CB w1 (w.heap.size + 1) #[.int .i64 0, .int .i64 0, .string ⟨#[]⟩, .slice none 0 0] 32 := (CB.newAt (by simp) _ _).below b1 (by simp); have HB1 : Hid (Below w.heap.size w w1) := bel_on B0.out b1; have HO1 : Hid (OwnZ w1 b (n * 5) n ls 56) := o1.z; have HC1 : Hid (CB w1 w.heap.size #[.int .i64 d, .int .i64 r, .string s, .slice ad n cap] 32) := c1; have HC2 : Hid (CB w1 (w.heap.size + 1) #[.int .i64 0, .int .i64 0, .string ⟨#[]⟩, .slice none 0 0] 32) := c2; have k0 := c1.fr 0; have k1 := c1.fr 1; have k2 := c1.fr 2; have k3 := c1.fr 3; have q0 : w1.cell? ⟨w.heap.size, 0, none⟩ = some (.int .i64 d) := (c1.cell 0).trans rfl; have q1 : w1.cell? ⟨w.heap.size, 1, none⟩ = some (.int .i64 r) := (c1.cell 1).trans rfl; have q2 : w1.cell? ⟨w.heap.size, 2, none⟩ = some (.string s) := (c1.cell 2).trans rfl; have q3 : w1.cell? ⟨w.heap.size, 3, none⟩ = some (.slice ad n cap) := (c1.cell 3).trans rfl; simp at hb1; clear o1 b1 c1 c2))
  have H0 : Hid (RV w d r s b n 0 ls ((((w1.setCell ⟨w.heap.size, 0, none⟩ (.int .i64 d)).setCell ⟨w.heap.size, 1, none⟩ (.int .i64 r)).setCell ⟨w.heap.size, 2, none⟩ (.string s)).setCell ⟨w.heap.size, 3, none⟩ (.slice (some ⟨b, 0, none⟩) n n))) := by
    refine ⟨?_, (((HC2.out.other _ (by omega)).other _ (by omega)).other _ (by omega)).other _ (by omega), ?_, ?_⟩
    · have := (((HC1.out.set 0 (.int .i64 d)).set 1 (.int .i64 r)).set 2 (.string s)).set 3 (.slice (some ⟨b, 0, none⟩) n n)
      simpa using this
    · rw [mxL_zero]
      exact (((HO1.out.other (by omega) _).other (by omega) _).other (by omega) _).other (by omega) _
    · exact (((HB1.out.setCell (p := ⟨w.heap.size, 0, none⟩) (by simp) _).setCell (p := ⟨w.heap.size, 1, none⟩) (by simp) _).setCell (p := ⟨w.heap.size, 2, none⟩) (by simp) _).setCell (p := ⟨w.heap.size, 3, none⟩) (by simp) _
  generalize ((((w1.setCell ⟨w.heap.size, 0, none⟩ (.int .i64 d)).setCell ⟨w.heap.size, 1, none⟩ (.int .i64 r)).setCell ⟨w.heap.size, 2, none⟩ (.string s)).setCell ⟨w.heap.size, 3, none⟩ (.slice (some ⟨b, 0, none⟩) n n)) = w2 at H0 ⊢
  clear k0 k1 k2 k3 q0 q1 q2 q3 HC1 HC2 HO1 HB1 B0 HC
  go_loopw [10] (fun v wr => ∃ k : Nat, v = .int .i64 (k : Int) ∧ k ≤ n ∧ Hid (RV w d r s b n k ls wr)) (fun v _ => n - (intOf v).toNat)
  case atStart => exact ⟨0, rfl, Nat.zero_le _, H0⟩
  case round =>
    clear H0
    obtain ⟨k, rfl, hk, HV⟩ := hrel
    have p0 : wr.cell? ⟨w.heap.size, 0, none⟩ = some (.int .i64 d) := (HV.out.box.cell 0).trans rfl
    have p1 : wr.cell? ⟨w.heap.size, 1, none⟩ = some (.int .i64 r) := (HV.out.box.cell 1).trans rfl
    have p2 : wr.cell? ⟨w.heap.size, 2, none⟩ = some (.string s) := (HV.out.box.cell 2).trans rfl
    have p3 : wr.cell? ⟨w.heap.size, 3, none⟩ = some (.slice (some ⟨b, 0, none⟩) n n) := (HV.out.box.cell 3).trans rfl
    by_cases hkn : k < n
    · have hkni : (k : Int) < (n : Int) := by omega
      have ha := HV.out.own.at hkn
      rw [mxL_at] at ha
      obtain ⟨a1, a2, a3, a4, a5⟩ := at5_cells ha
      have f3 := HV.out.own.fr (k * 5 + 3)
      have f4 := HV.out.own.fr (k * 5 + 4)
      obtain ⟨⟨u1, u2⟩, u3, u4⟩ := HB.out k hkn
      have HNX : Hid (∀ o : Obj, RV w d r s b n (k + 1) ls (((wr.setCell ⟨b, k * 5 + 3, none⟩ (.int .i64 (-(ls k).amt))).setCell ⟨b, k * 5 + 4, none⟩ (.int .i64 (-(ls k).base))).alloc o)) := fun o => HV.out.next hb1 hkn o
      obtain ⟨x1, hx1⟩ : ∃ x, (ls k).acc = x := ⟨_, rfl⟩
      obtain ⟨x2, hx2⟩ : ∃ x, (ls k).dim = x := ⟨_, rfl⟩
      obtain ⟨x3, hx3⟩ : ∃ x, (ls k).cur = x := ⟨_, rfl⟩
      obtain ⟨x4, hx4⟩ : ∃ x, (ls k).amt = x := ⟨_, rfl⟩
      obtain ⟨x5, hx5⟩ : ∃ x, (ls k).base = x := ⟨_, rfl⟩
      rw [hx1] at a1
      rw [hx2] at a2
      rw [hx3] at a3
      rw [hx4] at a4 u1 u2 HNX
      rw [hx5] at a5 u3 u4 HNX
      have hbs := HV.out.own.lt
      have hbx : b ≠ wr.heap.size := by omega
      have hxb : wr.heap.size ≠ b := by omega
      have hbw : b ≠ w.heap.size := by omega
      have hwb : w.heap.size ≠ b := by omega
      have hws := HV.out.box.lt
      have hww : w.heap.size ≠ wr.heap.size := by omega
      clear ha hx1 hx2 hx3 hx4 hx5
      go_wp2
      go_roundw
      case rel => exact ⟨k + 1, by go_num, by omega, HNX.out _⟩
      case measure => simp [intOf]; omega
    · obtain rfl : k = n := by omega
      have lkk : ¬ (k : Int) < (k : Int) := by omega
      have g0 := HV.out.res.fr 0
      have g1 := HV.out.res.fr 1
      have g2 := HV.out.res.fr 2
      have g3 := HV.out.res.fr 3
      have r0 : wr.cell? ⟨w.heap.size + 1, 0, none⟩ = some (.int .i64 0) := (HV.out.res.cell 0).trans rfl
      have r1 : wr.cell? ⟨w.heap.size + 1, 1, none⟩ = some (.int .i64 0) := (HV.out.res.cell 1).trans rfl
      have r2 : wr.cell? ⟨w.heap.size + 1, 2, none⟩ = some (.string ⟨#[]⟩) := (HV.out.res.cell 2).trans rfl
      have r3 : wr.cell? ⟨w.heap.size + 1, 3, none⟩ = some (.slice none 0 0) := (HV.out.res.cell 3).trans rfl
      go_wp2
      have hX := (((HV.out.res.set 0 (.int .i64 d)).set 1 (.int .i64 r)).set 2 (.string s)).set 3 (.slice (some ⟨b, 0, none⟩) k k)
      have hY := (((HV.out.own.other (c := w.heap.size + 1) (o := 0) (by omega) (.int .i64 d)).other (c := w.heap.size + 1) (o := 1) (by omega) (.int .i64 r)).other (c := w.heap.size + 1) (o := 2) (by omega) (.string s)).other (c := w.heap.size + 1) (o := 3) (by omega) (.slice (some ⟨b, 0, none⟩) k k)
      have hZ := (((HV.out.bel.setCell (p := ⟨w.heap.size + 1, 0, none⟩) (by simp) (.int .i64 d)).setCell (p := ⟨w.heap.size + 1, 1, none⟩) (by simp) (.int .i64 r)).setCell (p := ⟨w.heap.size + 1, 2, none⟩) (by simp) (.string s)).setCell (p := ⟨w.heap.size + 1, 3, none⟩) (by simp) (.slice (some ⟨b, 0, none⟩) k k)
      have e0 := hX.cell 0
      have e1 := hX.cell 1
      have e2 := hX.cell 2
      have e3 := hX.cell 3
      simp at e0 e1 e2 e3
      clear hX p0 p1 p2 p3 r0 r1 r2 r3 g0 g1 g2 g3 HV
      generalize (World.setCell _ _ _) = W5 at e0 e1 e2 e3 hY hZ ⊢
      refine bodyPost_ret (by simp [results, Tryd.results80, go_sem, e0, e1, e2, e3]; try rfl) rfl ?_
      exact ⟨_, rfl, by omega, (hY.congr (fun i hi => mxL_all hi)).l, hZ⟩
end Go.Proofs.YtgnhpjlfdkpaiaaDoor
