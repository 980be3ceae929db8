/- The model's Trial: of each account what its Bases come to. The program's basesOf: of each account what its Bases come to. The program's Trial. -/
import Derived.Test.YtgnhpjlfdkpaiaaDoorB1
import Derived.Test.YtgnhpjlfdkpaiaaDoorSg
import Derived.Test.YtgnhpjlfdkpaiaaDoorGd2
import Derived.Test.YtgnhpjlfdkpaiaaDoorHs
import Derived.Test.YtgnhpjlfdkpaiaaDoorB2
import Derived.RangeFuncWrites
import Derived.Sort.QuietTacIn
import Derived.BigRegionIn
import Derived.Test.YtgnhpjlfdkpaiaaDoorLg
import Derived.Test.YtgnhpjlfdkpaiaaDoorGe
namespace Go.Proofs.YtgnhpjlfdkpaiaaDoor
open Go Go.ChangeShapes Go.WideShapes Go.ChangeAt Go.RowKit
set_option linter.unusedVariables false
set_option linter.unusedSimpArgs false

/-- What the first k accounts come to. -/
noncomputable def trL (t : Int) (n : Nat) (es : Nat → E4) : Nat → List Int
  | 0 => []
  | k + 1 => trL t n es k ++ [(balV (k : Int) (-1) (-1) 0 t n es).2]
theorem trL_len (t : Int) (n : Nat) (es : Nat → E4) : ∀ k, (trL t n es k).length = k
  | 0 => rfl
  | k + 1 => by simp [trL, trL_len t n es k]

set_option maxRecDepth 20000 in
set_option maxHeartbeats 4000000 in
theorem specTrial_any (fa : Option Addr) (len cap : Nat) (c : Nat → C3) (d u : Int) (ad : Option Addr) (n lcap : Nat) (es : Nat → E4) (hd t : Int) (w : World) (hl : (len : Int) ≤ 1048576) (hc : ∀ j, (c j).code.size ≤ maxLen) (hr : CR w fa len c) (hL : ER w ad n es) (ht : ∀ j, ((es j).text.size : Int) ≤ 9223372036854775807) (hnn : ∀ j, j < n → ((es j).n : Int) ≤ 1048576)
    (M : Nat) (hM : M = if leB len c d u n es hd = true then len else 0) :
    Calls Tryd.prog 47 #[.agg #[.slice fa len cap, .int .i64 d, .int .i64 u], .agg #[.slice ad n lcap, .int .i64 hd], .int .i64 t] w fun e w' => ∃ adv capv, e = .returned (.slice adv M capv) ∧ w'.ownsRow w.heap.size 3 1 (.slice adv M capv) M (ivs (trL t n es M)) ∧ Below w.heap.size w w' := by
  obtain ⟨i0, hi, hz0, hz1, hz2⟩ := ainfo3
  have HC : Hid (∀ j, (c j).code.size ≤ maxLen) := hc
  have HTX : Hid (∀ j, ((es j).text.size : Int) ≤ 9223372036854775807) := ht
  have HNN : Hid (∀ j, j < n → ((es j).n : Int) ≤ 1048576) := hnn
  have HR : Hid (CR w fa len c) := hr
  have HL : Hid (ER w ad n es) := hL
  have HBA : Hid (Below w.heap.size w (((w.alloc (.cells #[.slice fa len cap, .int .i64 d, .int .i64 u] 26 (0, 0))).alloc (.cells #[.slice ad n lcap, .int .i64 hd] 29 (0, 0))).alloc (.cells #[] 3 (0, 0)))) := ((((Below.refl _ _).alloc (Nat.le_refl _) _).alloc (by simp) _).alloc (by simp; omega) _)
  have HOW : Hid ((((w.alloc (.cells #[.slice fa len cap, .int .i64 d, .int .i64 u] 26 (0, 0))).alloc (.cells #[.slice ad n lcap, .int .i64 hd] 29 (0, 0))).alloc (.cells #[] 3 (0, 0))).ownsRow (w.heap.size + 1 + 1) 3 1 (.slice (some ⟨w.heap.size + 1 + 1, 0, none⟩) 0 0) 0 []) := ⟨rfl, .inr ⟨w.heap.size + 1 + 1, 0, #[], rfl, Nat.le_refl _, CB.newAt (by simp) _ _, Nat.le_refl _, Nat.zero_le _, rfl, rfl⟩⟩
  clear hc ht hnn hr hL
  have ARM : True := trivial
  cases h1 : leB len c d u n es hd with
  | false =>
    have hM0 : M = 0 := by rw [hM, h1]; rfl
    subst hM0
    clear hM
    go_enter Tryd.func47, Tryd.ntmps47
    go_wp2_with (go_at_call 39; go_loud (refine (specLedger_any _ _ _ c _ _ _ _ _ es _ _ hl HC.out (HR.out.below HBA.out) (HL.out.below HBA.out) HTX.out HNN.out).mono ?_; rintro e w1 ⟨rfl, b1⟩; rw [h1]; have HO1 : Hid (w1.ownsRow (w.heap.size + 1 + 1) 3 1 (.slice (some ⟨w.heap.size + 1 + 1, 0, none⟩) 0 0) 0 []) := arow_keep HOW.out b1; have HB1 : Hid (Below w.heap.size w w1) := bel_on HBA.out b1; clear b1))
    go_returns
    exact ⟨_, _, rfl, row_base HO1.out (by omega), HB1.out⟩
  | true =>
    have hMl : M = len := by rw [hM, h1]; rfl
    subst hMl
    clear hM
    go_enter Tryd.func47, Tryd.ntmps47
    go_wp2_with (go_at_call 39; go_loud (refine (specLedger_any _ _ _ c _ _ _ _ _ es _ _ hl HC.out (HR.out.below HBA.out) (HL.out.below HBA.out) HTX.out HNN.out).mono ?_; rintro e w1 ⟨rfl, b1⟩; rw [h1]; have HO1 : Hid (w1.ownsRow (w.heap.size + 1 + 1) 3 1 (.slice (some ⟨w.heap.size + 1 + 1, 0, none⟩) 0 0) 0 []) := arow_keep HOW.out b1; have HB1 : Hid (Below w.heap.size w w1) := bel_on HBA.out b1; have HX0 : Hid (CB w1 w.heap.size #[.slice fa M cap, .int .i64 d, .int .i64 u] 26) := (((CB.new _ _).alloc _).alloc _).below b1 (by first | (simp; done) | (simp; omega)); have HX1 : Hid (CB w1 (w.heap.size + 1) #[.slice ad n lcap, .int .i64 hd] 29) := ((CB.newAt (by simp) _ _).alloc _).below b1 (by first | (simp; done) | (simp; omega)); clear b1))
    go_loopw [7, 8] (fun s i wr => ∃ (k : Nat) (adv : Option Addr) (capv : Nat), k ≤ M ∧ i = .int .i64 (k : Int) ∧ s = .slice adv k capv ∧ wr.ownsRow (w.heap.size + 1 + 1) 3 1 (.slice adv k capv) k (ivs (trL t n es k)) ∧ CB wr w.heap.size #[.slice fa M cap, .int .i64 d, .int .i64 u] 26 ∧ CB wr (w.heap.size + 1) #[.slice ad n lcap, .int .i64 hd] 29 ∧ Below w.heap.size w wr) (fun s i _ => M - (intOf i).toNat)
    case atStart => exact ⟨0, _, _, Nat.zero_le _, rfl, rfl, HO1.out, HX0.out, HX1.out, HB1.out⟩
    case round =>
      obtain ⟨k, adv, capv, hk, rfl, rfl, hO, hX0, hX1, hB⟩ := hrel
      have HO : Hid (wr.ownsRow (w.heap.size + 1 + 1) 3 1 (.slice adv k capv) k (ivs (trL t n es k))) := hO
      have HB : Hid (Below w.heap.size w wr) := hB
      have HY0 : Hid (CB wr w.heap.size #[.slice fa M cap, .int .i64 d, .int .i64 u] 26) := hX0
      have HY1 : Hid (CB wr (w.heap.size + 1) #[.slice ad n lcap, .int .i64 hd] 29) := hX1
      have y0 : wr.cell? ⟨w.heap.size, 0, none⟩ = some (.slice fa M cap) := (hX0.cell 0).trans rfl
      have z0 : wr.cell? ⟨w.heap.size + 1, 0, none⟩ = some (.slice ad n lcap) := (hX1.cell 0).trans rfl
      have z1 : wr.cell? ⟨w.heap.size + 1, 1, none⟩ = some (.int .i64 hd) := (hX1.cell 1).trans rfl
      have hsz := hX1.lt
      clear hO hX0 hX1 hB
      by_cases hlt : k < M
      · obtain ⟨BA, BB, hBV⟩ : ∃ BA BB, balV (k : Int) (-1) (-1) 0 t n es = (BA, BB) := ⟨_, _, rfl⟩
        have HT : Hid (ivs (trL t n es (k + 1)) = ivs (trL t n es k) ++ [.int .i64 BB]) := by show _ = _; rw [trL, ivs_append, hBV]; rfl
        have HBV : Hid (balV (k : Int) (-1) (-1) 0 t n es = (BA, BB)) := hBV
        clear hBV
        go_wp2_with (first
          | (go_at_call 109; go_loud (refine (specBal_any _ _ _ es _ _ _ _ _ _ _ (HL.out.below HB.out)).mono ?_; rintro e w2 ⟨rfl, b2⟩; rw [HBV.out]; have HO2 : Hid (w2.ownsRow (w.heap.size + 1 + 1) 3 1 (.slice adv k capv) k (ivs (trL t n es k))) := arow_keep HO.out b2; have HB2 : Hid (Below w.heap.size w w2) := bel_on HB.out b2; have HZ0 : Hid (CB w2 w.heap.size #[.slice fa M cap, .int .i64 d, .int .i64 u] 26) := HY0.out.below b2 HY0.out.lt; have HZ1 : Hid (CB w2 (w.heap.size + 1) #[.slice ad n lcap, .int .i64 hd] 29) := HY1.out.below b2 HY1.out.lt; have s2 := b2.size; clear b2))
          | (at_builtin; go_loud (refine wpList_append_own_at _ rfl _ _ 42 rfl (w.heap.size + 1 + 1) 3 i0 (.int .i64 0) 1 8 Tryd.underlying42 hi hz0 hz1 hz2 rfl (by decide) (.slice adv k capv) k (ivs (trL t n es k)) rfl (HO2.out.alloc _) ⟨w2.heap.size, 0, none⟩ 1 1 [.int .i64 BB] rfl rfl (acells_at rfl) (fun u hu => by simp at hu; subst hu; rfl) (by unfold maxLen; omega) (by omega) (by simp; omega) ?_; intro v' w4 hown4 hgrow4 _ hloc4; obtain ⟨ad4, cap4, rfl⟩ := arow_form hown4; have HO4 : Hid (w4.ownsRow (w.heap.size + 1 + 1) 3 1 (.slice ad4 (k + 1) cap4) (k + 1) (ivs (trL t n es k) ++ [.int .i64 BB])) := hown4; have hlo : ∀ g, Value.ownBlock (.slice adv k capv) = some g → w.heap.size + 1 + 1 ≤ g := (fun g hg => (HO2.out.lt g hg).1); have HW0 : Hid (CB w4 w.heap.size #[.slice fa M cap, .int .i64 d, .int .i64 u] 26) := CB.grownB (HZ0.out.alloc _) hgrow4 (fun q => by have := hlo _ q.symm; omega); have HW1 : Hid (CB w4 (w.heap.size + 1) #[.slice ad n lcap, .int .i64 hd] 29) := CB.grownB (HZ1.out.alloc _) hgrow4 (fun q => by have := hlo _ q.symm; omega); have HB4 : Hid (Below w.heap.size w w4) := below_grown (HB2.out.alloc HB2.out.size _) (Nat.le_refl _) hgrow4 (fun r q => by have := hlo r q; omega); clear hown4 hgrow4 hloc4 hlo)))
        go_roundw
        case rel => exact ⟨k + 1, ad4, cap4, by omega, by go_num, rfl, by rw [HT.out]; exact HO4.out, HW0.out, HW1.out, HB4.out⟩
        case measure => simp [intOf]; omega
      · obtain rfl : k = M := by omega
        go_wp2
        go_returns
        exact ⟨_, _, rfl, row_base HO.out (by omega), HB.out⟩

end Go.Proofs.YtgnhpjlfdkpaiaaDoor


namespace Go.Proofs.YtgnhpjlfdkpaiaaDoor
open Go.RowKit Go.Shelf
attribute [local go_sem] Oper.semAt_some
set_option linter.unusedVariables false
set_option linter.unusedSimpArgs false

def RI (w : World) (b n : Nat) (o : Nat → Int) : Prop := ∃ cs, CB w b cs 3 ∧ cs.size = n ∧ ∀ j, j < n → cs[j]? = some (.int .i64 (o j))
section
variable {w w' : World} {b n : Nat} {o o' : Nat → Int}
theorem RI.cell (H : RI w b n o) {j : Nat} (h : j < n) : w.cell? ⟨b, j, none⟩ = some (.int .i64 (o j)) := by obtain ⟨cs, h1, h2, h3⟩ := H; rw [h1.cell]; exact h3 j h
theorem RI.fr (H : RI w b n o) (j : Nat) : w.frozen? ⟨b, j, none⟩ = false := by obtain ⟨cs, h1, _⟩ := H; exact h1.fr j
theorem RI.congr (H : RI w b n o) (h : ∀ j, j < n → o' j = o j) : RI w b n o' := by obtain ⟨cs, h1, h2, h3⟩ := H; exact ⟨cs, h1, h2, fun j hj => by rw [h j hj]; exact h3 j hj⟩
theorem RI.set (H : RI w b n o) {i : Nat} (hi : i < n) (x : Int) : RI (w.setCell ⟨b, i, none⟩ (.int .i64 x)) b n (fun j => if j = i then x else o j) := by
  obtain ⟨cs, h1, h2, h3⟩ := H
  refine ⟨_, h1.set _ _, by simp [h2], fun j hj => ?_⟩
  by_cases e : j = i
  · subst e; rw [get_set_eq (by omega)]; simp
  · rw [get_set_ne (by omega)]; simp only [if_neg e]; exact h3 j hj
theorem RI.kept {row : Option Nat} (H : RI w b n o) (hg : w.grownBy w' row) (hr : ∀ r, row = some r → ∃ o : Obj, w.heap[r]? = some o ∧ o.isCells = false) : RI w' b n o := by
  obtain ⟨cs, h1, h2⟩ := H
  refine ⟨cs, ?_, h2⟩
  have hlt := h1.lt
  unfold CB at h1 ⊢
  rw [hg.block b hlt (fun e => by
    obtain ⟨q, e1, e2⟩ := hr b e.symm
    rw [h1] at e1
    simp at e1
    subst e1
    simp [Obj.isCells] at e2)]
  exact h1
end

def bs (l : List L5) (j : Nat) : Int := (balL (j : Int) (-1) (-1) l).2
theorem bs_snoc (l : List L5) (x : L5) (a : Nat) (ha : x.acc = (a : Int)) (j : Nat) : bs (l ++ [x]) j = if j = a then bs l a + x.base else bs l j := by
  unfold bs
  by_cases e : j = a
  · subst e
    rw [if_pos rfl, balL_snoc_hit (by unfold hitB askB; rw [ha]; simp)]
  · rw [if_neg e, balL_snoc_not (by unfold hitB askB; rw [ha]; simp; omega)]

def bzeros (n : Nat) : Array Value := madeCells #[.int .i64 0] n
theorem bzeros_size (n : Nat) : (bzeros n).size = n := size_madeCells _ _
theorem bzeros_get (n j : Nat) (h : j < n) : (bzeros n)[j]? = some (.int .i64 0) := by simp [bzeros, madeCells, h, Nat.mod_one]
set_option maxRecDepth 100000 in
theorem bmk (n : Nat) (h : (n : Int) ≤ 1048576) (w : World) : (Instr.makeSlice 42 (.int .i64 (n : Int)) (.int .i64 (n : Int))).run Tryd.prog w = .ok (.slice (some ⟨w.heap.size, 0, none⟩) n n) (w.alloc (.cells (bzeros n) 3)) := by
  obtain ⟨i, hi, hz, hs, hb⟩ := ainfo3
  have hr := run_make (P := Tryd.prog) w 42 3 i (.int .i64 0) Tryd.underlying42 hi hz .i64 .i64 n n (by omega) (by omega) (by rw [hb]; omega) (by omega)
  simp only [Int.toNat_natCast, hs, Nat.mul_one] at hr
  exact hr

/-- A line that can be summed, of one of the first A accounts. -/
def lnA (A : Nat) (l : L5) : Prop := lnS l ∧ 0 ≤ l.acc ∧ l.acc < (A : Int)

set_option maxRecDepth 100000 in
set_option maxHeartbeats 4000000 in
theorem implBases_in (n : Nat) (hn : 3 ≤ n) (ad : Option Addr) (len cap : Nat) (es : Nat → E4) (hd : Int) (A : Nat) (f t : Int) (w : World) (hA : (A : Int) ≤ 1000) (hr : ER w ad len es) (hlen : (len : Int) ≤ 1000) (hS : ∀ i, i < len → (es i).n ≤ 60 ∧ ∀ k, k < (es i).n → lnA A ((es i).ls k)) (hYL0 : (ylS f t es len).length ≤ 60000) :
    CallsIn Fence.wide n Tryd.prog 76 #[.agg #[.slice ad len cap, .int .i64 hd], .int .i64 (A : Int), .int .i64 f, .int .i64 t] w fun e w' => e = .returned (.slice (some ⟨w.heap.size + 1, 0, none⟩) A A) ∧ RI w' (w.heap.size + 1) A (bs (ylS f t es len)) ∧ Below w.heap.size w w' := by
  have h1 : 1 ≤ n := by omega
  have HR : Hid (ER w ad len es) := hr
  have HSO : Hid (∀ i, i < len → (es i).n ≤ 60 ∧ ∀ k, k < (es i).n → lnA A ((es i).ls k)) := hS
  have HYL : Hid ((ylS f t es len).length ≤ 60000) := hYL0
  have hmk := bmk A (by omega)
  clear hr hS hYL0
  refine callsIn_of_wp_marks Tryd.func76 rfl trivial ?_ rfl
  simp only [Tryd.ntmps76, List.size_toArray, List.length_cons, List.length_nil, Nat.reduceAdd, Nat.reduceSub, Array.replicate_succ, Array.replicate_zero, List.push_toArray, List.append_toArray, List.nil_append, List.cons_append]
  gi_wp2_with (refine ⟨trivial, ?_⟩; gi_at_call 74; refine (callsIn_wide.2 (linesOf_any _ _ _ _ _ _ _)).mono ?_; rintro e w' ⟨rfl, rfl⟩)
  have BW0 : Below w.heap.size w ((((((w.alloc (.cells #[.slice ad len cap, .int .i64 hd] 29 (0, 0))).alloc (.cells (bzeros A) 3 (0, 0))).alloc (.cells #[.slice (some ⟨w.heap.size + 1, 0, none⟩) A A] 42 (0, 0))).alloc (.cells #[.slice ad len cap, .int .i64 hd] 29 (0, 0))).alloc (.cells #[.int .i64 f] 3 (0, 0))).alloc (.cells #[.int .i64 t] 3 (0, 0))) := ((((((Below.refl _ w).alloc (Nat.le_refl _) _).alloc (by simp) _).alloc (by simp; omega) _).alloc (by simp; omega) _).alloc (by simp; omega) _).alloc (by simp; omega) _
  have F0 : CB ((((((w.alloc (.cells #[.slice ad len cap, .int .i64 hd] 29 (0, 0))).alloc (.cells (bzeros A) 3 (0, 0))).alloc (.cells #[.slice (some ⟨w.heap.size + 1, 0, none⟩) A A] 42 (0, 0))).alloc (.cells #[.slice ad len cap, .int .i64 hd] 29 (0, 0))).alloc (.cells #[.int .i64 f] 3 (0, 0))).alloc (.cells #[.int .i64 t] 3 (0, 0))) (w.heap.size + 1) (bzeros A) 3 := ((((CB.newAt (by simp) _ _).alloc _).alloc _).alloc _).alloc _
  have FP : CB ((((((w.alloc (.cells #[.slice ad len cap, .int .i64 hd] 29 (0, 0))).alloc (.cells (bzeros A) 3 (0, 0))).alloc (.cells #[.slice (some ⟨w.heap.size + 1, 0, none⟩) A A] 42 (0, 0))).alloc (.cells #[.slice ad len cap, .int .i64 hd] 29 (0, 0))).alloc (.cells #[.int .i64 f] 3 (0, 0))).alloc (.cells #[.int .i64 t] 3 (0, 0))) (w.heap.size + 1 + 1) #[.slice (some ⟨w.heap.size + 1, 0, none⟩) A A] 42 := (((CB.newAt (by simp) _ _).alloc _).alloc _).alloc _
  have F1 : CB ((((((w.alloc (.cells #[.slice ad len cap, .int .i64 hd] 29 (0, 0))).alloc (.cells (bzeros A) 3 (0, 0))).alloc (.cells #[.slice (some ⟨w.heap.size + 1, 0, none⟩) A A] 42 (0, 0))).alloc (.cells #[.slice ad len cap, .int .i64 hd] 29 (0, 0))).alloc (.cells #[.int .i64 f] 3 (0, 0))).alloc (.cells #[.int .i64 t] 3 (0, 0))) (w.heap.size + 1 + 1 + 1) #[.slice ad len cap, .int .i64 hd] 29 := ((CB.newAt (by simp) _ _).alloc _).alloc _
  have F2 : CB ((((((w.alloc (.cells #[.slice ad len cap, .int .i64 hd] 29 (0, 0))).alloc (.cells (bzeros A) 3 (0, 0))).alloc (.cells #[.slice (some ⟨w.heap.size + 1, 0, none⟩) A A] 42 (0, 0))).alloc (.cells #[.slice ad len cap, .int .i64 hd] 29 (0, 0))).alloc (.cells #[.int .i64 f] 3 (0, 0))).alloc (.cells #[.int .i64 t] 3 (0, 0))) (w.heap.size + 1 + 1 + 1 + 1) #[.int .i64 f] 3 := (CB.newAt (by simp) _ _).alloc _
  have F3 : CB ((((((w.alloc (.cells #[.slice ad len cap, .int .i64 hd] 29 (0, 0))).alloc (.cells (bzeros A) 3 (0, 0))).alloc (.cells #[.slice (some ⟨w.heap.size + 1, 0, none⟩) A A] 42 (0, 0))).alloc (.cells #[.slice ad len cap, .int .i64 hd] 29 (0, 0))).alloc (.cells #[.int .i64 f] 3 (0, 0))).alloc (.cells #[.int .i64 t] 3 (0, 0))) (w.heap.size + 1 + 1 + 1 + 1 + 1) #[.int .i64 t] 3 := CB.newAt (by simp) _ _
  have hsz2 : ((((((w.alloc (.cells #[.slice ad len cap, .int .i64 hd] 29 (0, 0))).alloc (.cells (bzeros A) 3 (0, 0))).alloc (.cells #[.slice (some ⟨w.heap.size + 1, 0, none⟩) A A] 42 (0, 0))).alloc (.cells #[.slice ad len cap, .int .i64 hd] 29 (0, 0))).alloc (.cells #[.int .i64 f] 3 (0, 0))).alloc (.cells #[.int .i64 t] 3 (0, 0))).heap.size = w.heap.size + 6 := by simp
  obtain ⟨W0, hW0⟩ : ∃ W0, ((((((w.alloc (.cells #[.slice ad len cap, .int .i64 hd] 29 (0, 0))).alloc (.cells (bzeros A) 3 (0, 0))).alloc (.cells #[.slice (some ⟨w.heap.size + 1, 0, none⟩) A A] 42 (0, 0))).alloc (.cells #[.slice ad len cap, .int .i64 hd] 29 (0, 0))).alloc (.cells #[.int .i64 f] 3 (0, 0))).alloc (.cells #[.int .i64 t] 3 (0, 0))) = W0 := ⟨_, rfl⟩
  rw [hW0] at BW0 F0 FP F1 F2 F3 hsz2 ⊢
  clear hW0 hmk
  have HR0 : RI W0 (w.heap.size + 1) A (bs []) := ⟨_, F0, bzeros_size _, fun j hj => by rw [bzeros_get _ _ hj]; rfl⟩
  have hP0 : W0.cell? ⟨w.heap.size + 1 + 1, 0, none⟩ = some (.slice (some ⟨w.heap.size + 1, 0, none⟩) A A) := (FP.cell 0).trans rfl
  refine wpIn_rangeFunc_ownH rfl h1 (gf := 127) (lb := #[.pointer (some ⟨w.heap.size + 1 + 1 + 1, 0, none⟩), .pointer (some ⟨w.heap.size + 1 + 1 + 1 + 1, 0, none⟩), .pointer (some ⟨w.heap.size + 1 + 1 + 1 + 1 + 1, 0, none⟩)]) rfl trivial (enters_of Tryd.func127 (by kernel_rfl) rfl)
    (linesQ_stops (lnA A) (n - 1) (by omega) (w.heap.size + 1) (w.heap.size + 1 + 1) W0.heap.size (w.heap.size + 1 + 1 + 1) (w.heap.size + 1 + 1 + 1 + 1) (w.heap.size + 1 + 1 + 1 + 1 + 1) f t ad len cap es W0 hlen HSO.out (Nat.le_refl _) w HR.out BW0 (by omega) BW0.size
      (fun W' k => ⟨by rw [k.cell (by omega) (by omega), F1.cell]; rfl, by rw [k.cell (by omega) (by omega), F2.cell]; rfl, by rw [k.cell (by omega) (by omega), F3.cell]; rfl⟩))
    KS.trans (fun W l o o' hl hh _ _ => KS.put W l o o' hl hh) (Below.refl _ _) (fun _ => rfl)
    (fun pre W => (RI W (w.heap.size + 1) A (bs (valsQ pre)) ∧ W.cell? ⟨w.heap.size + 1 + 1, 0, none⟩ = some (.slice (some ⟨w.heap.size + 1, 0, none⟩) A A) ∧ W0.heap.size ≤ W.heap.size) ∧ Below w.heap.size w W)
    (fun c pre W => False)
    (OwnFrom.and (Own.from (fun s A B row hs hg hr => ⟨hs.1.kept hg hr, cell_kept hs.2.1 hg hr, Nat.le_trans hs.2.2 hg.size⟩) _) (ownFrom_below (Nat.le_refl _) (by omega)))
    (fun c _ _ _ _ h _ _ => h)
    ⟨⟨HR0, hP0, Nat.le_refl _⟩, BW0⟩
    (fun x a' W => ∃ b, a' = { tmps := #[.agg #[.slice ad len cap, .int .i64 hd], .int .i64 (A : Int), .int .i64 f, .int .i64 t, .pointer (some ⟨w.heap.size, 0, none⟩), undef, undef, undef, .slice none 0 0, .pointer (some ⟨w.heap.size + 1 + 1, 0, none⟩), .pointer (some ⟨b, 0, none⟩), .int .i64 (A : Int), .slice (some ⟨w.heap.size + 1, 0, none⟩) A A, .agg #[.slice ad len cap, .int .i64 hd], .int .i64 f, .int .i64 t, .func (.func 127) #[] #[.pointer (some ⟨w.heap.size + 1 + 1 + 1, 0, none⟩), .pointer (some ⟨w.heap.size + 1 + 1 + 1 + 1, 0, none⟩), .pointer (some ⟨w.heap.size + 1 + 1 + 1 + 1 + 1, 0, none⟩)], x.1.agg, undef, undef, undef, undef, undef, undef, undef, undef, undef, undef], defers := [] } ∧ W.cell? ⟨b, 0, none⟩ = some (.int .i64 x.1.acc) ∧ W.cell? ⟨b, 0 + 4, none⟩ = some (.int .i64 x.1.base))
    (fun x a' => Own.from (fun s A B row hs hg hr => by obtain ⟨b, e, c0, c4⟩ := hs; exact ⟨b, e, cell_kept c0 hg hr, cell_kept c4 hg hr⟩) _) ?assign ?body ?done ?stop
  case assign =>
    rintro l pre ⟨⟨xa, xd, xc, xm, xb⟩, hx⟩ W K ⟨⟨i1, i2, i3⟩, i4⟩ hK
    simp only [L5.agg]
    gi_wp2
    have hg := World.grownBy_alloc W (.cells #[.int .i64 xa, .int .i64 xd, .int .i64 xc, .int .i64 xm, .int .i64 xb] 56 (0, 0)) none
    have hrow : ∀ r, (none : Option Nat) = some r → ∃ o : Obj, W.heap[r]? = some o ∧ o.isCells = false := fun r e => by cases e
    have X : CB (W.alloc (.cells #[.int .i64 xa, .int .i64 xd, .int .i64 xc, .int .i64 xm, .int .i64 xb] 56 (0, 0))) W.heap.size _ _ := CB.new _ _
    exact hK _ _ (KeepsFrom.of_grownBy hg (fun j e => by cases e)) (KS.of_below ((Below.refl _ _).alloc (Nat.le_refl _) _) i3)
      ⟨⟨i1.kept hg hrow, cell_kept i2 hg hrow, Nat.le_trans i3 hg.size⟩, i4.alloc i4.size _⟩
      ⟨W.heap.size, rfl, (X.cell 0).trans rfl, (X.cell 4).trans rfl⟩
  case body =>
    rintro l pre ⟨⟨xa, xd, xc, xm, xb⟩, hx⟩ a' W hl hr ⟨⟨i1, i2, i3⟩, i4⟩ ⟨b, rfl, c0, c4⟩ hN
    have HB : Hid (Below w.heap.size w W) := i4
    have hxa := hx.2
    have hxb := hx.1.2
    simp only at hxa hxb c0 c4
    obtain ⟨a, ha⟩ : ∃ a : Nat, xa = (a : Int) := ⟨xa.toNat, by omega⟩
    subst ha
    have haA : a < A := by omega
    have haA2 : (a : Int) < (A : Int) := by omega
    have hbd := (balL_bound (a : Int) (-1) (-1) (valsQ pre) (fun y hy => by simp only [valsQ, List.mem_map] at hy; obtain ⟨q, _, rfl⟩ := hy; exact q.2.1)).2
    rw [valsQ_len] at hbd
    have hpl : (pre.length : Int) ≤ 60000 := by have := HYL.out; omega
    have HI : Hid (RI W (w.heap.size + 1) A (bs (valsQ pre))) := i1
    have r1 := i1.cell haA
    have r2 := i1.fr a
    have HSN : Hid (∀ j, bs (valsQ (pre ++ [⟨⟨(a : Int), xd, xc, xm, xb⟩, hx⟩])) j = if j = a then bs (valsQ pre) a + xb else bs (valsQ pre) j) := fun j => by rw [valsQ_snoc, bs_snoc _ _ a rfl]
    obtain ⟨S, hS⟩ : ∃ S, bs (valsQ pre) a = S := ⟨_, rfl⟩
    have HS : Hid (bs (valsQ pre) a = S) := hS
    have hSb : -6000000000000000 ≤ S ∧ S ≤ 6000000000000000 := by rw [← hS]; unfold bs; omega
    rw [hS] at r1
    obtain ⟨s1, s2⟩ := hSb
    obtain ⟨b1, b2⟩ := hxb
    obtain ⟨V, hV⟩ : ∃ V, S + xb = V := ⟨_, rfl⟩
    have hwr : IntKind.i64.wrap (S + xb) = V := by rw [IntWalk.i64_in _ ⟨by omega, by omega⟩]; exact hV
    have HEND : Hid (KeepsFrom W0.heap.size W (W.setCell ⟨w.heap.size + 1, a, none⟩ (.int .i64 V)).drew ∧ KS (w.heap.size + 1) (w.heap.size + 1 + 1) W0.heap.size W (W.setCell ⟨w.heap.size + 1, a, none⟩ (.int .i64 V)).drew ∧ (RI (W.setCell ⟨w.heap.size + 1, a, none⟩ (.int .i64 V)).drew (w.heap.size + 1) A (bs (valsQ (pre ++ [⟨⟨(a : Int), xd, xc, xm, xb⟩, hx⟩]))) ∧ (W.setCell ⟨w.heap.size + 1, a, none⟩ (.int .i64 V)).drew.cell? ⟨w.heap.size + 1 + 1, 0, none⟩ = some (.slice (some ⟨w.heap.size + 1, 0, none⟩) A A) ∧ W0.heap.size ≤ (W.setCell ⟨w.heap.size + 1, a, none⟩ (.int .i64 V)).drew.heap.size) ∧ Below w.heap.size w (W.setCell ⟨w.heap.size + 1, a, none⟩ (.int .i64 V)).drew) := by
      have k1 := (KeepsOthers.setCell W ⟨w.heap.size + 1, a, none⟩ (.int .i64 V)).from W0.heap.size
      have k2 := KS.set (lo := w.heap.size + 1) (hi := w.heap.size + 1 + 1) (N := W0.heap.size) (W := W) (b := w.heap.size + 1) (o := a) (Nat.le_refl _) (by omega) (.int .i64 V)
      refine ⟨⟨k1.size, k1.same⟩, ⟨k2.os, k2.tape, k2.output, k2.size, k2.block⟩, ⟨?_, ?_, ?_⟩, (HB.out.setCell (by show w.heap.size ≤ w.heap.size + 1; omega) _).drew⟩
      · exact (HI.out.set haA V).congr (fun j _ => by rw [HSN.out j, HS.out, hV])
      · show (W.setCell ⟨w.heap.size + 1, a, none⟩ (.int .i64 V)).cell? _ = _
        rw [World.cell?_of_block (w := W) (Below.heap_setCell _ _ _ _ (by simp))]; exact i2
      · exact Nat.le_trans i3 k1.size
    clear i1 i4 hS hbd hN hxa hV HSN HI
    simp only [L5.agg]
    gi_wp2
    gi_region
    all_goals
      gi_wp2
      exact HEND.out
  case done =>
    rintro D ys W hD hv ⟨⟨i1, i2, i3⟩, i4⟩ hK
    rw [hv] at i1
    have HI : Hid (RI W (w.heap.size + 1) A (bs (ylS f t es len))) := i1
    clear i1
    gi_wp2
    refine ⟨by simp, .inl ⟨_, _, rfl, run_takeDeferred hK, ?_⟩⟩
    exact ⟨_, results_tmp rfl _ _ _, rfl, HI.out.kept (grownBy_putObj' W D _) (fun r e => by cases e; exact ⟨_, hK, rfl⟩), i4.trans (belowK_b (w := w) (Nat.le_refl _) W D _ _ (by omega) hK rfl rfl)⟩
  case stop =>
    intro D c pre W hD hp h
    exact h.elim

theorem implBases_any (ad : Option Addr) (len cap : Nat) (es : Nat → E4) (hd : Int) (A : Nat) (f t : Int) (w : World) (hA : (A : Int) ≤ 1000) (hr : ER w ad len es) (hlen : (len : Int) ≤ 1000) (hS : ∀ i, i < len → (es i).n ≤ 60 ∧ ∀ k, k < (es i).n → lnA A ((es i).ls k)) :
    Calls Tryd.prog 76 #[.agg #[.slice ad len cap, .int .i64 hd], .int .i64 (A : Int), .int .i64 f, .int .i64 t] w fun e w' => e = .returned (.slice (some ⟨w.heap.size + 1, 0, none⟩) A A) ∧ RI w' (w.heap.size + 1) A (bs (ylS f t es len)) ∧ Below w.heap.size w w' :=
  (callsIn_wide (n := 3)).1 (implBases_in 3 (Nat.le_refl _) ad len cap es hd A f t w hA hr hlen hS (by
    have := (ylS_ok (f := f) (t := t) (es := es) (n := len) (fun i hi => ⟨(hS i hi).1, fun k hk => ((hS i hi).2 k hk).1⟩)).1
    omega))
end Go.Proofs.YtgnhpjlfdkpaiaaDoor


namespace Go.Proofs.YtgnhpjlfdkpaiaaDoor
open Go.ChangeShapes Go.WideShapes Go.ChangeAt Go.RowKit
set_option linter.unusedVariables false
set_option linter.unusedSimpArgs false

theorem leB_lines {len : Nat} {c : Nat → C3} {d u : Int} {n : Nat} {es : Nat → E4} {hd : Int} (h : leB len c d u n es hd = true) : n ≤ 1000 ∧ len ≤ 120 ∧ ∀ i, i < n → (es i).n ≤ 60 ∧ ∀ k, k < (es i).n → lnA len ((es i).ls k) := by
  obtain ⟨h1, h2, h3, _⟩ := leB_out h
  refine ⟨h2, (chartB_iff.1 (frB_out h1).1).2.1, fun i hi => ?_⟩
  obtain ⟨_, _, _, _, h8⟩ := enB_out (h3 i hi)
  obtain ⟨_, s2, s3, _⟩ := lsB_out h8
  refine ⟨s2, fun k hk => ?_⟩
  have g := s3 k hk
  have a := leaf_in (lnB_acc g)
  unfold lnB at g
  simp only [Bool.and_eq_true] at g
  exact ⟨⟨inB_iff.1 g.2.2.2.1, inB_iff.1 g.2.2.2.2.1⟩, a⟩
theorem trL_get (t : Int) (n : Nat) (es : Nat → E4) : ∀ (m j : Nat), j < m → (ivs (trL t n es m))[j]? = some (.int .i64 (balV (j : Int) (-1) (-1) 0 t n es).2)
  | 0, j, h => by omega
  | m + 1, j, h => by
    rw [trL, ivs_append]
    have hl : (ivs (trL t n es m)).length = m := by rw [ivs_len, trL_len]
    by_cases e : j = m
    · subst e; rw [List.getElem?_append_right (by omega), hl]; simp [ivs]
    · rw [List.getElem?_append_left (by omega)]; exact trL_get t n es m j (by omega)
theorem RI.own {w : World} {b n base : Nat} {o : Nat → Int} {xs : List Value} (H : RI w b n o) (hb : base ≤ b) (hn : n ≤ 1048576) (hx : xs.length = n) (hg : ∀ j, j < n → xs[j]? = some (.int .i64 (o j))) : w.ownsRow base 3 1 (.slice (some ⟨b, 0, none⟩) n n) n xs := by
  obtain ⟨cs, h1, h2, h3⟩ := H
  have e : cs.toList = xs := by
    apply List.ext_getElem?
    intro j
    by_cases hj : j < n
    · rw [hg j hj, ← h3 j hj]; simp
    · rw [List.getElem?_eq_none (by simp; omega), List.getElem?_eq_none (by omega)]
  rw [← e]
  exact ⟨by simp [h2], .inr ⟨b, n, cs, rfl, hb, h1, Nat.le_refl _, by unfold maxLen; omega, by omega, by rw [Nat.mul_one]; exact List.take_of_length_le (by simp [h2])⟩⟩

set_option maxRecDepth 20000 in
set_option maxHeartbeats 4000000 in
theorem implTrial_any (fa : Option Addr) (len cap : Nat) (c : Nat → C3) (d u : Int) (ad : Option Addr) (n lcap : Nat) (es : Nat → E4) (hd t : Int) (w : World) (hl : (len : Int) ≤ 1048576) (hc : ∀ j, (c j).code.size ≤ maxLen) (hr : CR w fa len c) (hE : EL w) (hL : ER w ad n es)
    (M : Nat) (hM : M = if leB len c d u n es hd = true then len else 0) :
    Calls Tryd.prog 21 #[.agg #[.slice fa len cap, .int .i64 d, .int .i64 u], .agg #[.slice ad n lcap, .int .i64 hd], .int .i64 t] w fun e w' => ∃ adv capv, e = .returned (.slice adv M capv) ∧ w'.ownsRow w.heap.size 3 1 (.slice adv M capv) M (ivs (trL t n es M)) ∧ Below w.heap.size w w' := by
  have HBA : Hid (Below w.heap.size w ((w.alloc (.cells #[.slice fa len cap, .int .i64 d, .int .i64 u] 26 (0, 0))).alloc (.cells #[.slice ad n lcap, .int .i64 hd] 29 (0, 0)))) := ((Below.refl _ _).alloc (Nat.le_refl _) _).alloc (by simp) _
  have HLE : Hid (Calls Tryd.prog 17 #[.agg #[.slice fa len cap, .int .i64 d, .int .i64 u], .agg #[.slice ad n lcap, .int .i64 hd]] ((w.alloc (.cells #[.slice fa len cap, .int .i64 d, .int .i64 u] 26 (0, 0))).alloc (.cells #[.slice ad n lcap, .int .i64 hd] 29 (0, 0))) fun e w' => e = .returned (.bool (leB len c d u n es hd)) ∧ Below ((w.alloc (.cells #[.slice fa len cap, .int .i64 d, .int .i64 u] 26 (0, 0))).alloc (.cells #[.slice ad n lcap, .int .i64 hd] 29 (0, 0))).heap.size ((w.alloc (.cells #[.slice fa len cap, .int .i64 d, .int .i64 u] 26 (0, 0))).alloc (.cells #[.slice ad n lcap, .int .i64 hd] 29 (0, 0))) w') := implLedger_any fa len cap c d u ad n lcap es hd _ hl hc (hr.below HBA.out) ((hE.alloc' _).alloc' _) (hL.below HBA.out)
  have HLd : Hid (ER w ad n es) := hL
  clear hc hr hE hL
  cases h1 : leB len c d u n es hd with
  | false =>
    have hM0 : M = 0 := by rw [hM, h1]; rfl
    subst hM0
    rw [h1] at HLE
    clear hM
    go_enter Tryd.func21, Tryd.ntmps21
    go_wp2_with (go_at_call 17; refine HLE.out.mono ?_; rintro e w1 ⟨rfl, b1⟩; have HB1 : Hid (Below w.heap.size w w1) := bel_on HBA.out b1; clear b1)
    go_returns
    exact ⟨_, _, rfl, row_base (World.ownsRow_made w1 #[] 0 (Nat.le_refl _) (Nat.zero_le _) rfl) HB1.out.size, HB1.out.alloc HB1.out.size _⟩
  | true =>
    have hMl : M = len := by rw [hM, h1]; rfl
    subst hMl
    rw [h1] at HLE
    obtain ⟨l1, l2, l3⟩ := leB_lines h1
    have HL3 : Hid (∀ i, i < n → (es i).n ≤ 60 ∧ ∀ k, k < (es i).n → lnA M ((es i).ls k)) := l3
    have hsm : smB n es = true := smB_t ⟨l1, fun i hi => ⟨(l3 i hi).1, fun k hk => ((l3 i hi).2 k hk).1⟩⟩
    have HXS : Hid (∀ j, j < M → (ivs (trL t n es M))[j]? = some (.int .i64 (bs (ylS 0 t es n) j))) := fun j hj => by
      rw [trL_get t n es M j hj, balV_t hsm]; rfl
    clear hM l3 hsm
    go_enter Tryd.func21, Tryd.ntmps21
    go_wp2_with (first
      | (go_at_call 17; refine HLE.out.mono ?_; rintro e w1 ⟨rfl, b1⟩; have X0 : CB w1 w.heap.size #[.slice fa M cap, .int .i64 d, .int .i64 u] 26 := ((CB.new _ _).alloc _).below b1 (by simp; omega); have X1 : CB w1 (w.heap.size + 1) #[.slice ad n lcap, .int .i64 hd] 29 := (CB.newAt (by simp) _ _).below b1 (by simp); have x0 := (X0.cell 0).trans rfl; have y0 := (X1.cell 0).trans rfl; have y1 := (X1.cell 1).trans rfl; have HB1 : Hid (Below w.heap.size w w1) := bel_on HBA.out b1; clear b1 X0 X1)
      | (go_at_call 76; refine (implBases_any _ _ _ es _ M _ _ _ (by omega) (HLd.out.below HB1.out) (by omega) HL3.out).mono ?_; rintro e w2 ⟨rfl, r2, b2⟩; have HF : Hid (w2.ownsRow w.heap.size 3 1 (.slice (some ⟨w1.heap.size + 1, 0, none⟩) M M) M (ivs (trL t n es M)) ∧ Below w.heap.size w w2) := ⟨r2.own (by have := HB1.out.size; omega) (by omega) (by rw [ivs_len, trL_len]) HXS.out, bel_on HB1.out b2⟩; clear r2 b2))
    go_returns
    exact ⟨_, _, rfl, HF.out.1, HF.out.2⟩
end Go.Proofs.YtgnhpjlfdkpaiaaDoor

