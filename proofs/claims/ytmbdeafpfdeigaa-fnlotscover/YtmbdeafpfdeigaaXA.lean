/- What a cursor over the bytes of a draw is in memory, and what a call that moves it on leaves as it was: 'Cursor', 'Turns'. Nothing of the program but the number of the cursor's type. The contract of the draw's next byte: from a cursor it answers a number from 0 to 255 and leaves a cursor; no other block is written. Contracts of the small draws: a new cursor, a number below a bound, one of a list, a number spoilt now and then. Each moves the cursor on and writes nothing else. The contract of a new cursor over a draw's bytes. -/
import Derived.WalkKit
import Derived.ProofKit
import Derived.Below
import Derived.OneCell
import Derived.Laws.BitsLemmas
import Derived.Test.YtmbdeafpfdeigaaProg
import Derived.WalkLawsBesides
import Derived.Handy
import Derived.Outline
import Derived.Deep.QuietTactic
import Derived.BigQuiet
namespace Go.Proofs.Ytmbdeafpfdeigaa
open Go.RowKit
set_option linter.unusedVariables false

/-- Every block that was there, but for block b, is as it was. -/
structure Turns (b : Nat) (w w' : World) : Prop where
  os : w'.os = w.os
  tape : w'.tape = w.tape
  output : w'.output = w.output
  size : w.heap.size ≤ w'.heap.size
  block : ∀ k, k < w.heap.size → k ≠ b → w'.heap[k]? = w.heap[k]?

theorem Turns.refl (b : Nat) (w : World) : Turns b w w := ⟨rfl, rfl, rfl, Nat.le_refl _, fun _ _ _ => rfl⟩

theorem Turns.trans {b : Nat} {a c d : World} (h : Turns b a c) (k : Turns b c d) : Turns b a d :=
  ⟨k.os.trans h.os, k.tape.trans h.tape, k.output.trans h.output, Nat.le_trans h.size k.size, fun j hj hb => (k.block j (Nat.lt_of_lt_of_le hj h.size) hb).trans (h.block j hj hb)⟩

theorem Turns.of_below {b : Nat} {w w' : World} (h : Below w.heap.size w w') : Turns b w w' := ⟨h.os, h.tape, h.output, h.size, fun k hk _ => h.block k hk⟩

theorem Turns.below {B b : Nat} {w w' : World} (h : Turns b w w') (hb : B ≤ b) (hB : B ≤ w.heap.size) : Below B w w' :=
  ⟨h.os, h.tape, h.output, h.size, fun k hk => h.block k (by omega) (by omega)⟩

theorem Turns.alloc {b : Nat} {a w : World} (h : Turns b a w) (o : Obj) : Turns b a (w.alloc o) :=
  h.trans (Turns.of_below ((Below.refl _ _).alloc (Nat.le_refl _) o))

theorem Turns.drew {b : Nat} {a w : World} (h : Turns b a w) : Turns b a w.drew := ⟨h.os, h.tape, h.output, h.size, h.block⟩

theorem Turns.setCell {b : Nat} {a w : World} (h : Turns b a w) (o : Nat) (u : Value) : Turns b a (w.setCell ⟨b, o, none⟩ u) :=
  ⟨h.os, h.tape, h.output, by simpa using h.size, fun k hk hb => by rw [Below.heap_setCell _ _ _ _ (by simpa using hb)]; exact h.block k hk hb⟩

theorem Turns.cell {b : Nat} {w w' : World} (h : Turns b w w') {k o : Nat} (hk : k < w.heap.size) (hb : k ≠ b) : w'.cell? ⟨k, o, none⟩ = w.cell? ⟨k, o, none⟩ :=
  World.cell?_of_block (w := w) (h.block k hk hb)

theorem Turns.frozen {b : Nat} {w w' : World} (h : Turns b w w') {k o : Nat} (hk : k < w.heap.size) (hb : k ≠ b) : w'.frozen? ⟨k, o, none⟩ = w.frozen? ⟨k, o, none⟩ :=
  World.frozen?_of_block (w := w) (h.block k hk hb)

def curT : TypeId := 111

/-- The cursor's block holds the code's slice, the place and the mixed number. -/
def CurB (w : World) (b : Nat) (s : Value) (n : Nat) (h : Int) : Prop := w.heap[b]? = some (.cells #[s, .int .i64 n, .int .i64 h] curT (0, 0))

theorem CurB.lt {w : World} {b : Nat} {s : Value} {n : Nat} {h : Int} (H : CurB w b s n h) : b < w.heap.size := lt_of_block H
theorem CurB.c0 {w : World} {b : Nat} {s : Value} {n : Nat} {h : Int} (H : CurB w b s n h) : w.cell? ⟨b, 0, none⟩ = some s := by unfold CurB at H; simp [World.cell?, H]
theorem CurB.c1 {w : World} {b : Nat} {s : Value} {n : Nat} {h : Int} (H : CurB w b s n h) : w.cell? ⟨b, 1, none⟩ = some (.int .i64 n) := by unfold CurB at H; simp [World.cell?, H]
theorem CurB.c2 {w : World} {b : Nat} {s : Value} {n : Nat} {h : Int} (H : CurB w b s n h) : w.cell? ⟨b, 2, none⟩ = some (.int .i64 h) := by unfold CurB at H; simp [World.cell?, H]
theorem CurB.fr {w : World} {b : Nat} {s : Value} {n : Nat} {h : Int} (H : CurB w b s n h) (o : Nat) : w.frozen? ⟨b, o, none⟩ = false := by unfold CurB at H; simp [World.frozen?, H]

theorem CurB.set1 {w : World} {b : Nat} {s : Value} {n : Nat} {h : Int} (H : CurB w b s n h) (m : Nat) : CurB (w.setCell ⟨b, 1, none⟩ (.int .i64 m)) b s m h := by
  have hlt := H.lt
  unfold CurB at H ⊢
  have h' : w.heap[b] = .cells #[s, .int .i64 n, .int .i64 h] curT (0, 0) := by simpa [Array.getElem?_eq_getElem hlt] using H
  show (w.heap.modify b _)[b]? = _
  rw [Array.getElem?_eq_getElem (by simpa using hlt), Array.getElem_modify_self, h']
  rfl

theorem CurB.set2 {w : World} {b : Nat} {s : Value} {n : Nat} {h : Int} (H : CurB w b s n h) (g : Int) : CurB (w.setCell ⟨b, 2, none⟩ (.int .i64 g)) b s n g := by
  have hlt := H.lt
  unfold CurB at H ⊢
  have h' : w.heap[b] = .cells #[s, .int .i64 n, .int .i64 h] curT (0, 0) := by simpa [Array.getElem?_eq_getElem hlt] using H
  show (w.heap.modify b _)[b]? = _
  rw [Array.getElem?_eq_getElem (by simpa using hlt), Array.getElem_modify_self, h']
  rfl

/-- Bytes that can be read, in a block other than b. -/
def ByteRow (w : World) (b : Nat) (ad : Option Addr) (len : Nat) : Prop :=
  (len = 0) ∨ ∃ k off, ad = some ⟨k, off, none⟩ ∧ k < b ∧ k < w.heap.size ∧ ∀ j, j < len → ∃ c : Int, 0 ≤ c ∧ c ≤ 255 ∧ w.cell? ⟨k, off + j, none⟩ = some (.int .u8 c)

theorem ByteRow.turns {w w' : World} {b : Nat} {ad : Option Addr} {len : Nat} (H : ByteRow w b ad len) (t : Turns b w w') : ByteRow w' b ad len := by
  rcases H with h | ⟨k, off, e, hb, hk, hc⟩
  · exact .inl h
  · refine .inr ⟨k, off, e, hb, Nat.lt_of_lt_of_le hk t.size, fun j hj => ?_⟩
    obtain ⟨c, c0, c1, hcc⟩ := hc j hj
    exact ⟨c, c0, c1, by rw [t.cell hk (Nat.ne_of_lt hb)]; exact hcc⟩

/-- A cursor stands at block b. -/
def Cursor (w : World) (b : Nat) : Prop :=
  ∃ (ad : Option Addr) (len cap n : Nat) (h : Int), CurB w b (.slice ad len cap) n h ∧ n ≤ len ∧ len ≤ 9223372036854775000 ∧ ByteRow w b ad len

theorem Cursor.lt {w : World} {b : Nat} (H : Cursor w b) : b < w.heap.size := by
  obtain ⟨ad, len, cap, n, h, H, _⟩ := H; exact H.lt

/-- Behind what leaves all blocks that were there (a new block, a draw) it still stands. -/
theorem Cursor.below {w w' : World} {b : Nat} (H : Cursor w b) (t : Below w.heap.size w w') : Cursor w' b := by
  have hlt := H.lt
  obtain ⟨ad, len, cap, n, h, H, h1, h2, h3⟩ := H
  exact ⟨ad, len, cap, n, h, by unfold CurB at H ⊢; rw [t.block b hlt]; exact H, h1, h2, h3.turns (Turns.of_below t)⟩

theorem Cursor.alloc {w : World} {b : Nat} (H : Cursor w b) (o : Obj) : Cursor (w.alloc o) b := H.below ((Below.refl _ _).alloc (Nat.le_refl _) o)
theorem Cursor.drew {w : World} {b : Nat} (H : Cursor w b) : Cursor w.drew b := H.below (Below.refl _ _).drew

/-- What leaves the cursor's block and all below it leaves the cursor. -/
theorem Cursor.low {w w' : World} {b : Nat} (H : Cursor w b) (hs : w.heap.size ≤ w'.heap.size) (h : ∀ k, k ≤ b → w'.heap[k]? = w.heap[k]?) : Cursor w' b := by
  obtain ⟨ad, len, cap, n, g, H, h1, h2, h3⟩ := H
  refine ⟨ad, len, cap, n, g, by unfold CurB at H ⊢; rw [h b (Nat.le_refl _)]; exact H, h1, h2, ?_⟩
  rcases h3 with h0 | ⟨k, off, e, hb, hk, hc⟩
  · exact .inl h0
  · refine .inr ⟨k, off, e, hb, Nat.lt_of_lt_of_le hk hs, fun j hj => ?_⟩
    obtain ⟨c, c0, c1, hcc⟩ := hc j hj
    exact ⟨c, c0, c1, by rw [World.cell?_of_block (w := w) (h k (Nat.le_of_lt hb))]; exact hcc⟩

theorem and255 (n : Int) : bits .and .i64 n 255 = n % 256 := by
  have h255 : (BitVec.ofInt 64 255).toNat = 2 ^ 8 - 1 := by decide
  have key : (BitVec.ofInt 64 n &&& BitVec.ofInt 64 255).toNat = (n % ((2 ^ 64 : Nat) : Int)).toNat % 2 ^ 8 := by
    rw [BitVec.toNat_and, BitVec.toNat_ofInt, h255, Nat.and_two_pow_sub_one_eq_mod]
  show IntKind.i64.wrap ((BitVec.ofInt 64 n &&& BitVec.ofInt 64 255).toNat : Nat) = n % 256
  rw [key, IntKind.wrap_i64]
  omega

theorem and30 (n : Int) : bits .and .i64 n 1073741823 = n % 1073741824 := by
  have h255 : (BitVec.ofInt 64 1073741823).toNat = 2 ^ 30 - 1 := by decide
  have key : (BitVec.ofInt 64 n &&& BitVec.ofInt 64 1073741823).toNat = (n % ((2 ^ 64 : Nat) : Int)).toNat % 2 ^ 30 := by
    rw [BitVec.toNat_and, BitVec.toNat_ofInt, h255, Nat.and_two_pow_sub_one_eq_mod]
  show IntKind.i64.wrap ((BitVec.ofInt 64 n &&& BitVec.ofInt 64 1073741823).toNat : Nat) = n % 1073741824
  rw [key, IntKind.wrap_i64]
  omega

end Go.Proofs.Ytmbdeafpfdeigaa

namespace Go.Proofs.Ytmbdeafpfdeigaa
open Go.ChangeShapes Go.WideShapes Go.ChangeAt Go.RowKit
set_option linter.unusedVariables false
set_option linter.unusedSimpArgs false

theorem Turns.drewN {b : Nat} {a w : World} (h : Turns b a w) (q : Nat) : Turns b a (w.drewN q) := ⟨h.os, h.tape, h.output, h.size, h.block⟩
theorem CurB.drewN {w : World} {b : Nat} {s : Value} {n : Nat} {h : Int} (H : CurB w b s n h) (q : Nat) : CurB (w.drewN q) b s n h := H

/-- What a call that moves the cursor on leaves. -/
def Moved (b : Nat) (w w' : World) : Prop := Cursor w' b ∧ Turns b w w'

theorem moved_a {b : Nat} {ad : Option Addr} {len cap n : Nat} {h : Int} {w : World} (H : CurB w b (.slice ad len cap) n h) (hn : n ≤ len) (hl : len ≤ 9223372036854775000) (hr : ByteRow w b ad len) (g : Int) (q1 q2 : Nat) :
    Moved b w (((w.setCell ⟨b, 2, none⟩ (.int .i64 g)).drewN q1).drewN q2) := by
  have T : Turns b w (((w.setCell ⟨b, 2, none⟩ (.int .i64 g)).drewN q1).drewN q2) := (((Turns.refl b w).setCell 2 _).drewN _).drewN _
  exact ⟨⟨ad, len, cap, n, _, ((H.set2 g).drewN q1).drewN q2, hn, hl, hr.turns T⟩, T⟩

theorem moved_b {b : Nat} {ad : Option Addr} {len cap n : Nat} {h : Int} {w : World} (H : CurB w b (.slice ad len cap) n h) (hn : n < len) (hl : len ≤ 9223372036854775000) (hr : ByteRow w b ad len) (g : Int) (q1 : Nat) :
    Moved b w (((w.setCell ⟨b, 2, none⟩ (.int .i64 g)).drewN q1).setCell ⟨b, 1, none⟩ (.int .i64 ((n : Int) + 1))) := by
  have T : Turns b w (((w.setCell ⟨b, 2, none⟩ (.int .i64 g)).drewN q1).setCell ⟨b, 1, none⟩ (.int .i64 ((n : Int) + 1))) := (((Turns.refl b w).setCell 2 _).drewN _).setCell 1 _
  exact ⟨⟨ad, len, cap, n + 1, _, ((H.set2 g).drewN q1).set1 (n + 1), hn, hl, hr.turns T⟩, T⟩

theorem Moved.trans {b : Nat} {a c d : World} (h : Moved b a c) (k : Moved b c d) : Moved b a d := ⟨k.1, h.2.trans k.2⟩
theorem Moved.alloc {b : Nat} {a c : World} (h : Moved b a c) (o : Obj) : Moved b a (c.alloc o) := ⟨h.1.alloc o, h.2.alloc o⟩
theorem Moved.drew {b : Nat} {a c : World} (h : Moved b a c) : Moved b a c.drew := ⟨h.1.drew, h.2.drew⟩
theorem Moved.refl {b : Nat} {w : World} (h : Cursor w b) : Moved b w w := ⟨h, Turns.refl _ _⟩

theorem mod256 (x : Int) : 0 ≤ x % 256 ∧ x % 256 ≤ 255 := by omega

set_option maxHeartbeats 1000000 in
theorem byte_end (b : Nat) (ad : Option Addr) (len cap n : Nat) (h : Int) (w : World) (hc : CurB w b (.slice ad len cap) n h) (hn : n ≤ len) (hl : len ≤ 9223372036854775000) (hr : ByteRow w b ad len) (hge : len ≤ n) :
    Calls Try.prog 110 #[.pointer (some ⟨b, 0, none⟩)] w fun e w' => ∃ x : Int, e = .returned (.int .i64 x) ∧ 0 ≤ x ∧ x ≤ 255 ∧ Moved b w w' := by
  have HC : Hid (CurB w b (.slice ad len cap) n h) := hc
  have HR : Hid (ByteRow w b ad len) := hr
  have c0 := hc.c0
  have c1 := hc.c1
  have c2 := hc.c2
  have f1 := hc.fr 1
  have f2 := hc.fr 2
  have a255 := and255
  clear hc hr
  go_enter Try.func110, Try.ntmps110
  go_wp2
  go_quiet (fail)
  go_wp2
  go_quiet (fail)
  go_wp2
  go_returns
  exact ⟨_, rfl, (mod256 _).1, (mod256 _).2, moved_a HC.out hn hl HR.out _ _ _⟩

set_option maxHeartbeats 1000000 in
theorem byte_step (b : Nat) (k off : Nat) (len cap n : Nat) (h c : Int) (w : World) (hc : CurB w b (.slice (some ⟨k, off, none⟩) len cap) n h) (hl : len ≤ 9223372036854775000) (hr : ByteRow w b (some ⟨k, off, none⟩) len) (hlt : n < len) (hk : k ≠ b) (hkw : k < w.heap.size) (hcell : w.cell? ⟨k, off + n, none⟩ = some (.int .u8 c)) (hc0 : 0 ≤ c) (hc1 : c ≤ 255) :
    Calls Try.prog 110 #[.pointer (some ⟨b, 0, none⟩)] w fun e w' => ∃ x : Int, e = .returned (.int .i64 x) ∧ 0 ≤ x ∧ x ≤ 255 ∧ Moved b w w' := by
  have HC : Hid (CurB w b (.slice (some ⟨k, off, none⟩) len cap) n h) := hc
  have HR : Hid (ByteRow w b (some ⟨k, off, none⟩) len) := hr
  have c0 := hc.c0
  have c1 := hc.c1
  have c2 := hc.c2
  have f1 := hc.fr 1
  have f2 := hc.fr 2
  have a255 := and255
  clear hc hr
  go_enter Try.func110, Try.ntmps110
  go_wp2
  go_quiet (fail)
  go_wp2
  go_quiet (fail)
  go_wp2
  go_quiet (fail)
  go_wp2
  go_returns
  exact ⟨_, rfl, (mod256 _).1, (mod256 _).2, moved_b HC.out hlt hl HR.out _ _⟩

/-- The next byte of whatever cursor. -/
theorem byte_any (b : Nat) (w : World) (hc : Cursor w b) :
    Calls Try.prog 110 #[.pointer (some ⟨b, 0, none⟩)] w fun e w' => ∃ x : Int, e = .returned (.int .i64 x) ∧ 0 ≤ x ∧ x ≤ 255 ∧ Moved b w w' := by
  obtain ⟨ad, len, cap, n, h, H, h1, h2, h3⟩ := hc
  by_cases hlt : n < len
  · rcases h3 with h | ⟨k, off, e, hb, hk, hcc⟩
    · omega
    · subst e
      obtain ⟨c, c0, c1, hcell⟩ := hcc n hlt
      exact byte_step b k off len cap n h c w H h2 (.inr ⟨k, off, rfl, hb, hk, hcc⟩) hlt (Nat.ne_of_lt hb) hk hcell c0 c1
  · exact byte_end b ad len cap n h w H h1 h2 h3 (by omega)

end Go.Proofs.Ytmbdeafpfdeigaa

namespace Go.Proofs.Ytmbdeafpfdeigaa
open Go.ChangeShapes Go.WideShapes Go.ChangeAt Go.RowKit
set_option linter.unusedVariables false
set_option linter.unusedSimpArgs false

theorem mod_bd (x n : Int) (h : 1 ≤ n) : 0 ≤ x % n ∧ x % n < n := ⟨Int.emod_nonneg _ (by omega), Int.emod_lt_of_pos _ (by omega)⟩

set_option maxHeartbeats 1000000 in
theorem below_any (b : Nat) (n : Int) (w : World) (hc : Cursor w b) :
    Calls Try.prog 60 #[.pointer (some ⟨b, 0, none⟩), .int .i64 n] w fun e w' => ∃ x : Int, e = .returned (.int .i64 x) ∧ 0 ≤ x ∧ (1 ≤ n → x < n) ∧ (n ≤ 0 → x = 0) ∧ Moved b w w' := by
  have HC : Hid (Cursor w b) := hc
  clear hc
  by_cases h0 : n ≤ 0
  · go_enter Try.func60, Try.ntmps60
    go_wp2
    go_returns
    exact ⟨0, rfl, by omega, by omega, fun _ => rfl, Moved.refl HC.out⟩
  · by_cases h1 : n ≤ 256
    · go_enter Try.func60, Try.ntmps60
      go_wp2_with (go_at_call 110; refine (byte_any b _ HC.out).mono ?_; rintro e w1 ⟨x, rfl, x0, x1, m1⟩; have M1 : Hid (Moved b w w1) := m1; clear m1)
      go_returns
      exact ⟨_, rfl, (mod_bd _ _ (by omega)).1, fun _ => (mod_bd _ _ (by omega)).2, fun _ => by omega, M1.out⟩
    · go_enter Try.func60, Try.ntmps60
      go_wp2_with (first
        | (go_at_call 110; have t := HC; refine (byte_any b _ HC.out).mono ?_; rintro e w1 ⟨x, rfl, x0, x1, m1⟩; have M1 : Hid (Moved b w w1) := m1; clear m1 HC)
        | (go_at_call 110; refine (byte_any b _ M1.out.1).mono ?_; rintro e w2 ⟨y, rfl, y0, y1, m2⟩; have M2 : Hid (Moved b w w2) := M1.out.trans m2; clear m2 M1)
        | (go_at_call 110; refine (byte_any b _ M2.out.1).mono ?_; rintro e w3 ⟨z, rfl, z0, z1, m3⟩; have M3 : Hid (Moved b w w3) := M2.out.trans m3; clear m3 M2)
        | (go_at_call 110; refine (byte_any b _ M3.out.1).mono ?_; rintro e w4 ⟨v, rfl, v0, v1, m4⟩; have M4 : Hid (Moved b w w4) := M3.out.trans m4; clear m4 M3))
      go_returns
      exact ⟨_, rfl, (mod_bd _ _ (by omega)).1, fun _ => (mod_bd _ _ (by omega)).2, fun _ => by omega, M4.out⟩

theorem once_any (b : Nat) (n : Int) (w : World) (hc : Cursor w b) :
    Calls Try.prog 78 #[.pointer (some ⟨b, 0, none⟩), .int .i64 n] w fun e w' => ∃ x : Bool, e = .returned (.bool x) ∧ Moved b w w' := by
  have HC : Hid (Cursor w b) := hc
  clear hc
  go_enter Try.func78, Try.ntmps78
  go_wp2_with (go_at_call 60; refine (below_any b _ _ HC.out).mono ?_; rintro e w1 ⟨x, rfl, x0, x1, x2, m1⟩; have M1 : Hid (Moved b w w1) := m1; clear m1)
  go_returns
  exact ⟨_, rfl, M1.out⟩

/-- Numbers that can be read, in a block other than b. -/
def IntRow (w : World) (b : Nat) (ad : Option Addr) (zs : List Int) : Prop :=
  ∃ k off, ad = some ⟨k, off, none⟩ ∧ k ≠ b ∧ k < w.heap.size ∧ ∀ j (h : j < zs.length), w.cell? ⟨k, off + j, none⟩ = some (.int .i64 zs[j])

theorem IntRow.turns {w w' : World} {b : Nat} {ad : Option Addr} {zs : List Int} (H : IntRow w b ad zs) (t : Turns b w w') : IntRow w' b ad zs := by
  obtain ⟨k, off, e, hb, hk, hc⟩ := H
  exact ⟨k, off, e, hb, Nat.lt_of_lt_of_le hk t.size, fun j hj => by rw [t.cell hk hb]; exact hc j hj⟩

theorem IntRow.made {w : World} {b : Nat} (hb : b < w.heap.size) (cs : Array Value) (t : TypeId) (zs : List Int) (hz : cs.toList = zs.map (Value.int .i64)) : IntRow (w.alloc (.cells cs t)) b (some ⟨w.heap.size, 0, none⟩) zs := by
  refine ⟨w.heap.size, 0, rfl, by omega, by simp, fun j hj => ?_⟩
  have hs : cs.size = zs.length := by rw [← Array.length_toList, hz]; simp
  have : (w.alloc (.cells cs t)).heap[w.heap.size]? = some (.cells cs t (0, 0)) := by
    show (w.heap.push _)[w.heap.size]? = _
    simp
  simp only [World.cell?, this]
  have hj2 : j < cs.size := by omega
  have e2 : cs[j] = .int .i64 zs[j] := by
    have h3 : cs.toList[j]'(by simpa using hj2) = (zs.map (Value.int .i64))[j]'(by simpa using hj) := by simp only [hz]
    simpa using h3
  simp [hj2, e2]

theorem pick_cell {w w1 : World} {b k off : Nat} {zs : List Int} {j : Nat} (H : IntRow w b (some ⟨k, off, none⟩) zs) (t : Turns b w w1) (hj : j < zs.length) : w1.cell? ⟨k, off + j, none⟩ = some (.int .i64 zs[j]) := by
  obtain ⟨k', off', e, hb, hk, hc⟩ := H.turns t
  simp only [Option.some.injEq, Addr.mk.injEq] at e
  obtain ⟨rfl, rfl, _⟩ := e
  exact hc j hj

theorem pick_after {w w1 : World} {b k off L : Nat} {zs : List Int} {x : Int} (H : IntRow w b (some ⟨k, off, none⟩) zs) (hL : zs.length = L) (t : Turns b w w1) (x0 : 0 ≤ x) (hne : 1 ≤ L) (x1 : 1 ≤ (L : Int) → x < (L : Int)) :
    ∃ (j : Nat) (y : Int), x = (j : Int) ∧ j < L ∧ y ∈ zs ∧ w1.cell? ⟨k, off + j, none⟩ = some (.int .i64 y) := by
  have hx := x1 (by omega)
  have hj : x.toNat < zs.length := by omega
  exact ⟨x.toNat, zs[x.toNat], by omega, by omega, List.getElem_mem _, pick_cell H t hj⟩

set_option maxHeartbeats 1000000 in
theorem pick_any (b : Nat) (ad : Option Addr) (zs : List Int) (L cap : Nat) (w : World) (hc : Cursor w b) (hr : IntRow w b ad zs) (hL : zs.length = L) (hne : 1 ≤ L) (hmax : L ≤ 1000000) :
    Calls Try.prog 79 #[.pointer (some ⟨b, 0, none⟩), .slice ad L cap] w fun e w' => ∃ x : Int, e = .returned (.int .i64 x) ∧ x ∈ zs ∧ Moved b w w' := by
  have HC : Hid (Cursor w b) := hc
  have HR : Hid (IntRow w b ad zs) := hr
  have had : ∃ k off, ad = some ⟨k, off, none⟩ := by obtain ⟨k, off, e, _⟩ := hr; exact ⟨k, off, e⟩
  obtain ⟨k, off, rfl⟩ := had
  have HL : Hid (zs.length = L) := hL
  clear hc hr hL
  go_enter Try.func79, Try.ntmps79
  go_wp2_with (go_at_call 60; refine (below_any b _ _ HC.out).mono ?_; rintro e w1 ⟨x, rfl, x0, x1, x2, m1⟩; obtain ⟨j, y, hj, hjl, hy, hcell⟩ := pick_after HR.out HL.out m1.2 x0 hne x1; subst hj; have M1 : Hid (Moved b w w1) := m1; have HY : Hid (y ∈ zs) := hy; clear m1 x1 x2 hy)
  go_returns
  exact ⟨_, rfl, HY.out, M1.out⟩

theorem spoil_any (b : Nat) (v : Int) (ad : Option Addr) (zs : List Int) (L cap : Nat) (w : World) (hc : Cursor w b) (hr : IntRow w b ad zs) (hL : zs.length = L) (hne : 1 ≤ L) (hmax : L ≤ 1000000) :
    Calls Try.prog 61 #[.pointer (some ⟨b, 0, none⟩), .int .i64 v, .slice ad L cap] w fun e w' => ∃ x : Int, e = .returned (.int .i64 x) ∧ (x = v ∨ x ∈ zs) ∧ Moved b w w' := by
  have HC : Hid (Cursor w b) := hc
  have HR : Hid (IntRow w b ad zs) := hr
  clear hc hr
  go_enter Try.func61, Try.ntmps61
  go_wp2_with (first | (go_at_call 78; refine (once_any b _ _ HC.out).mono ?_; rintro e w1 ⟨x, rfl, m1⟩; have M1 : Hid (Moved b w w1) := m1; cases x; clear m1) | (go_at_call 79; refine (pick_any b ad zs L _ _ M1.out.1 (HR.out.turns M1.out.2) hL hne hmax).mono ?_; rintro e w2 ⟨x, rfl, hx, m2⟩; have M2 : Hid (Moved b w w2) := M1.out.trans m2; have HX : Hid (x ∈ zs) := hx; clear m2 hx))
  · go_returns
    exact ⟨_, rfl, .inl rfl, M1.out⟩
  · go_returns
    exact ⟨_, rfl, .inr HX.out, M2.out⟩

end Go.Proofs.Ytmbdeafpfdeigaa

namespace Go.Proofs.Ytmbdeafpfdeigaa
open Go.ChangeShapes Go.WideShapes Go.ChangeAt Go.RowKit
set_option linter.unusedVariables false
set_option linter.unusedSimpArgs false

theorem new_end {w : World} {ad : Option Addr} {len cap : Nat} (hr : ByteRow w w.heap.size ad len) (hl : len ≤ 9223372036854775000) (h : Int) : Cursor (w.alloc (.cells #[.slice ad len cap, .int .i64 0, .int .i64 h] 111)) w.heap.size := by
  refine ⟨ad, len, cap, 0, h, ?_, Nat.zero_le _, hl, hr.turns (Turns.of_below ((Below.refl _ _).alloc (Nat.le_refl _) _))⟩
  unfold CurB
  show (w.heap.push _)[w.heap.size]? = _
  simp [curT]


set_option maxRecDepth 20000 in
theorem new_any (ad : Option Addr) (len cap : Nat) (w : World) (hl : len ≤ 9223372036854775000) (hr : ByteRow w w.heap.size ad len) :
    Calls Try.prog 52 #[.slice ad len cap] w fun e w' => e = .returned (.pointer (some ⟨w.heap.size, 0, none⟩)) ∧ Cursor w' w.heap.size ∧ Below w.heap.size w w' := by
  have HR : Hid (ByteRow w w.heap.size ad len) := hr
  rcases hr with hz | ⟨kb, off, rfl, hb, hkw, hcc⟩
  · subst hz
    go_enter Try.func52, Try.ntmps52
    go_wp2
    refine wp_loop_rounds 1 ?_
    rw [rounds_succ]
    go_wp2
    go_returns
    exact ⟨rfl, new_end HR.out hl _, by go_grown⟩
  · have HCC : Hid (∀ j, j < len → ∃ c : Int, 0 ≤ c ∧ c ≤ 255 ∧ w.cell? ⟨kb, off + j, none⟩ = some (.int .u8 c)) := hcc
    clear hb hkw hcc
    go_enter Try.func52, Try.ntmps52
    go_wp2
    go_loop [3, 4] (fun g i => ∃ (k : Nat) (h : Int), k ≤ len ∧ i = .int .i64 k ∧ g = .int .i64 h) (fun _ i => len - (intOf i).toNat)
    case atStart => exact ⟨0, _, Nat.zero_le _, rfl, rfl⟩
    case round =>
      obtain ⟨k, h, hk, rfl, rfl⟩ := hrel
      by_cases hlt : k < len
      · obtain ⟨c, c0, c1, hcell⟩ := HCC.out k hlt
        by_cases h4 : (k : Int) < 4000
        · go_wp2
          go_round
          case rel => exact ⟨k + 1, _, by omega, by go_num, rfl⟩
          case measure => simp [intOf]; omega
        · go_wp2
          go_returns
          exact ⟨rfl, new_end HR.out hl _, by go_grown⟩
      · go_wp2
        go_returns
        exact ⟨rfl, new_end HR.out hl _, by go_grown⟩

theorem moved_below {w w1 w2 : World} (h : Below w.heap.size w w1) (m : Moved w.heap.size w1 w2) : Below w.heap.size w w2 :=
  h.trans (m.2.below (Nat.le_refl _) h.size)

end Go.Proofs.Ytmbdeafpfdeigaa
