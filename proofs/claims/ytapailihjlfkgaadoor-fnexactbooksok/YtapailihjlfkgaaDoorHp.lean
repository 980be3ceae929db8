/- The chain's head, plain: numbers linked one by one; the numbers of an entry; the head of a list of entries. Nothing of the program. -/
import Derived.Test.YtapailihjlfkgaaDoorOw
namespace Go.Proofs.YtapailihjlfkgaaDoor
open Go.RowKit
set_option linter.unusedVariables false

/-- One number linked: the head, and whether a number came that can't be linked. -/
def lk (s : Int × Bool) (n : Int) : Int × Bool :=
  if n < -549755813888 ∨ 549755813888 ≤ n then (s.1, true) else ((s.1 * 1000003 + n + 549755813888) % 1099511627791, s.2)
def lks (s : Int × Bool) (l : List Int) : Int × Bool := l.foldl lk s

/-- A head that may stand there. -/
def HdR (h : Int) : Prop := 0 ≤ h ∧ h < 1099511627791
theorem lk_range {s : Int × Bool} {n : Int} (h : HdR s.1) : HdR (lk s n).1 := by
  unfold lk HdR at *
  by_cases g : n < -549755813888 ∨ 549755813888 ≤ n
  · rw [if_pos g]; exact h
  · rw [if_neg g]; exact ⟨Int.emod_nonneg _ (by omega), Int.emod_lt_of_pos _ (by omega)⟩
theorem lks_nil (s : Int × Bool) : lks s [] = s := rfl
theorem lks_cons (s : Int × Bool) (n : Int) (l : List Int) : lks s (n :: l) = lks (lk s n) l := rfl
theorem lks_append (s : Int × Bool) (l m : List Int) : lks s (l ++ m) = lks (lks s l) m := by unfold lks; rw [List.foldl_append]
theorem lks_range {s : Int × Bool} (l : List Int) (h : HdR s.1) : HdR (lks s l).1 := by
  induction l generalizing s with
  | nil => exact h
  | cons n l ih => rw [lks_cons]; exact ih (lk_range h)
theorem lk_broken {s : Int × Bool} {n : Int} (h : s.2 = true) : (lk s n).2 = true := by
  unfold lk; split
  · rfl
  · exact h
theorem lks_broken {s : Int × Bool} (l : List Int) (h : s.2 = true) : (lks s l).2 = true := by
  induction l generalizing s with
  | nil => exact h
  | cons n l ih => rw [lks_cons]; exact ih (lk_broken h)

def L5.nums (l : L5) : List Int := [l.acc, l.dim, l.cur, l.amt, l.base]
def byN (s : ByteArray) (i : Nat) : Int := ((s.data[i]?.getD 0).toNat : Int)
theorem byN_at (s : ByteArray) (k : Nat) (h : k < s.size) : byN s k = (s[k].toNat : Int) := by
  unfold byN
  have h2 : k < s.data.size := h
  rw [Array.getElem?_eq_getElem h2]; rfl
def txtN (s : ByteArray) : Nat → List Int
  | 0 => []
  | n + 1 => txtN s n ++ [byN s n]
def lnsN (ls : Nat → L5) : Nat → List Int
  | 0 => []
  | n + 1 => lnsN ls n ++ (ls n).nums
def E4.nums (e : E4) : List Int := [e.day, e.ref, (e.text.size : Int)] ++ (txtN e.text e.text.size ++ ((e.n : Int) :: lnsN e.ls e.n))

theorem txtN_len (s : ByteArray) (n : Nat) : (txtN s n).length = n := by induction n with
  | zero => rfl
  | succ n ih => simp [txtN, ih]
theorem lnsN_len (ls : Nat → L5) (n : Nat) : (lnsN ls n).length = n * 5 := by induction n with
  | zero => rfl
  | succ n ih => simp [lnsN, ih, L5.nums]; omega

/-- The chain behind the first k entries. -/
def hs (es : Nat → E4) : Nat → Int × Bool
  | 0 => (1, false)
  | k + 1 => lks (hs es k) (es k).nums
theorem hs_range (es : Nat → E4) (k : Nat) : HdR (hs es k).1 := by
  induction k with
  | zero => exact ⟨by simp [hs], by simp [hs]⟩
  | succ k ih => exact lks_range _ ih
theorem hs_broken {es : Nat → E4} {k n : Nat} (h : (hs es k).2 = true) (hn : k ≤ n) : (hs es n).2 = true := by
  induction n with
  | zero => obtain rfl : k = 0 := by omega
            exact h
  | succ n ih =>
    by_cases g : k = n + 1
    · subst g; exact h
    · exact lks_broken _ (ih (by omega))

/-- An entry that may be linked. -/
def smallE (e : E4) : Prop := e.text.size ≤ 40 ∧ e.n ≤ 60

open Classical in
noncomputable def headV (len : Nat) (es : Nat → E4) : Int := if len ≤ 1000 ∧ (∀ i, i < len → smallE (es i)) ∧ (hs es len).2 = false then (hs es len).1 else 0
theorem headV_long {len : Nat} {es : Nat → E4} (h : 1000 < len) : headV len es = 0 := by unfold headV; rw [if_neg (fun q => by omega)]
theorem headV_great {len k : Nat} {es : Nat → E4} (hk : k < len) (h : ¬ smallE (es k)) : headV len es = 0 := by unfold headV; rw [if_neg (fun q => h (q.2.1 k hk))]
theorem headV_broken {len k : Nat} {es : Nat → E4} (hk : k ≤ len) (h : (hs es k).2 = true) : headV len es = 0 := by
  unfold headV; rw [if_neg (fun q => by have := hs_broken h hk; rw [q.2.2] at this; cases this)]
theorem headV_done {len : Nat} {es : Nat → E4} (h1 : len ≤ 1000) (h2 : ∀ i, i < len → smallE (es i)) (h3 : (hs es len).2 = false) : headV len es = (hs es len).1 := by
  unfold headV; rw [if_pos ⟨h1, h2, h3⟩]

/-- All blocks but B lie as they lay. -/
structure But (B : Nat) (w w' : World) : Prop where
  os : w'.os = w.os
  tape : w'.tape = w.tape
  output : w'.output = w.output
  size : w.heap.size ≤ w'.heap.size
  block : ∀ k, k < w.heap.size → k ≠ B → w'.heap[k]? = w.heap[k]?
theorem But.refl (B : Nat) (w : World) : But B w w := ⟨rfl, rfl, rfl, Nat.le_refl _, fun _ _ _ => rfl⟩
theorem But.trans {B : Nat} {a b c : World} (h : But B a b) (k : But B b c) : But B a c :=
  ⟨k.os.trans h.os, k.tape.trans h.tape, k.output.trans h.output, Nat.le_trans h.size k.size, fun i hi hB => (k.block i (Nat.lt_of_lt_of_le hi h.size) hB).trans (h.block i hi hB)⟩
theorem But.of_below {B : Nat} {w w' : World} (h : Below w.heap.size w w') : But B w w' := ⟨h.os, h.tape, h.output, h.size, fun k hk _ => h.block k hk⟩
theorem But.alloc {B : Nat} {a w : World} (h : But B a w) (o : Obj) : But B a (w.alloc o) := h.trans (But.of_below ((Below.refl _ _).alloc (Nat.le_refl _) o))
theorem But.set {B : Nat} {a w : World} (h : But B a w) (o : Nat) (v : Value) : But B a (w.setCell ⟨B, o, none⟩ v) :=
  h.trans ⟨rfl, rfl, rfl, by simp [World.setCell], fun k hk hB => Below.heap_setCell _ _ _ _ (by simpa using hB)⟩
theorem But.to_below {B : Nat} {w w' : World} (h : But B w w') (hB : B ≤ w.heap.size) : Below B w w' := ⟨h.os, h.tape, h.output, h.size, fun k hk => h.block k (by omega) (by omega)⟩
theorem But.to_below' {B C : Nat} {w w' : World} (h : But B w w') (hC : C ≤ B) (hB : B ≤ w.heap.size) : Below C w w' := (h.to_below hB).mono hC
theorem But.cell {B b o : Nat} {w w' : World} (h : But B w w') {v : Value} (hb : b ≠ B) (hc : w.cell? ⟨b, o, none⟩ = some v) : w'.cell? ⟨b, o, none⟩ = some v := by
  have hlt : b < w.heap.size := by
    unfold World.cell? at hc
    rcases Nat.lt_or_ge b w.heap.size with g | g
    · exact g
    · simp [Array.getElem?_eq_none g] at hc
  rw [World.cell?_of_block (w := w) (h.block b hlt hb)]; exact hc
theorem CB.but {B b : Nat} {w w' : World} {cs : Array Value} {t : TypeId} (h : CB w b cs t) (k : But B w w') (hb : b ≠ B) : CB w' b cs t := by
  have hlt := h.lt
  unfold CB at *; rw [k.block b hlt hb]; exact h
theorem LR.but {B : Nat} {w w' : World} {ad : Option Addr} {len : Nat} {r : Nat → L5} (H : LR w ad len r) (t : But B w w') (hB : len = 0 ∨ ∀ k o s, ad = some ⟨k, o, s⟩ → k ≠ B) : LR w' ad len r := by
  rcases hB with hz | hB
  · exact .inl hz
  rcases H with h | ⟨k, off, e, hk, hc⟩
  · exact .inl h
  · exact .inr ⟨k, off, e, Nat.lt_of_lt_of_le hk t.size, fun j hj => (hc j hj).block (t.block k hk (hB _ _ _ e))⟩

end Go.Proofs.YtapailihjlfkgaaDoor
