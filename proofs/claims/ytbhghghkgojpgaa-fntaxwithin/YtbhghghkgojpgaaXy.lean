/- The contract of the draw's next byte: from a cursor it answers a number from 0 to 255 and leaves a cursor; no other block is written. -/
import Derived.Test.YtbhghghkgojpgaaProg
import Derived.Test.YtbhghghkgojpgaaXt
import Derived.WalkLawsBesides
import Derived.Handy
import Derived.Outline
import Derived.Deep.QuietTactic
import Derived.BigQuiet
namespace Go.Proofs.Ytbhghghkgojpgaa
open Go.ChangeShapes Go.WideShapes Go.ChangeAt Go.RowKit
set_option linter.unusedVariables false
set_option linter.unusedSimpArgs false

theorem Turns.drewN {b : Nat} {a w : World} (h : Turns b a w) (q : Nat) : Turns b a (w.drewN q) := ⟨h.os, h.tape, h.output, h.size, h.block⟩
theorem CurB.drewN {w : World} {b : Nat} {s : Value} {n : Nat} {h : Int} (H : CurB w b s n h) (q : Nat) : CurB (w.drewN q) b s n h := H

/-- What a call that moves the cursor on leaves. -/
def Moved (b : Nat) (w w' : World) : Prop := Cursor w' b ∧ Turns b w w'

theorem moved_a {b : Nat} {ad : Option Addr} {len cap n : Nat} {h : Int} {w : World} (H : CurB w b (.slice ad len cap) n h) (hn : n ≤ len) (hl : len ≤ 9223372036854775000) (hr : ByteRow w b ad len) (g : Int) (q1 q2 : Nat) :
    Moved b w (((w.setCell ⟨b, 2, none⟩ (.int .i64 g)).drewN q1).drewN q2) := by
  have T : Turns b w (((w.setCell ⟨b, 2, none⟩ (.int .i64 g)).drewN q1).drewN q2) := (((Turns.refl b w).setCell 2 _).drewN _).drewN _
  exact ⟨⟨ad, len, cap, n, _, ((H.set2 g).drewN q1).drewN q2, hn, hl, hr.turns T⟩, T⟩

theorem moved_b {b : Nat} {ad : Option Addr} {len cap n : Nat} {h : Int} {w : World} (H : CurB w b (.slice ad len cap) n h) (hn : n < len) (hl : len ≤ 9223372036854775000) (hr : ByteRow w b ad len) (g : Int) (q1 : Nat) :
    Moved b w (((w.setCell ⟨b, 2, none⟩ (.int .i64 g)).drewN q1).setCell ⟨b, 1, none⟩ (.int .i64 ((n : Int) + 1))) := by
  have T : Turns b w (((w.setCell ⟨b, 2, none⟩ (.int .i64 g)).drewN q1).setCell ⟨b, 1, none⟩ (.int .i64 ((n : Int) + 1))) := (((Turns.refl b w).setCell 2 _).drewN _).setCell 1 _
  exact ⟨⟨ad, len, cap, n + 1, _, ((H.set2 g).drewN q1).set1 (n + 1), hn, hl, hr.turns T⟩, T⟩

theorem Moved.trans {b : Nat} {a c d : World} (h : Moved b a c) (k : Moved b c d) : Moved b a d := ⟨k.1, h.2.trans k.2⟩
theorem Moved.alloc {b : Nat} {a c : World} (h : Moved b a c) (o : Obj) : Moved b a (c.alloc o) := ⟨h.1.alloc o, h.2.alloc o⟩
theorem Moved.drew {b : Nat} {a c : World} (h : Moved b a c) : Moved b a c.drew := ⟨h.1.drew, h.2.drew⟩
theorem Moved.refl {b : Nat} {w : World} (h : Cursor w b) : Moved b w w := ⟨h, Turns.refl _ _⟩

theorem mod256 (x : Int) : 0 ≤ x % 256 ∧ x % 256 ≤ 255 := by omega

set_option maxHeartbeats 1000000 in
theorem byte_end (b : Nat) (ad : Option Addr) (len cap n : Nat) (h : Int) (w : World) (hc : CurB w b (.slice ad len cap) n h) (hn : n ≤ len) (hl : len ≤ 9223372036854775000) (hr : ByteRow w b ad len) (hge : len ≤ n) :
    Calls Try.prog 77 #[.pointer (some ⟨b, 0, none⟩)] w fun e w' => ∃ x : Int, e = .returned (.int .i64 x) ∧ 0 ≤ x ∧ x ≤ 255 ∧ Moved b w w' := by
  have HC : Hid (CurB w b (.slice ad len cap) n h) := hc
  have HR : Hid (ByteRow w b ad len) := hr
  have c0 := hc.c0
  have c1 := hc.c1
  have c2 := hc.c2
  have f1 := hc.fr 1
  have f2 := hc.fr 2
  have a255 := and255
  clear hc hr
  go_enter Try.func77, Try.ntmps77
  go_wp2
  go_quiet (fail)
  go_wp2
  go_quiet (fail)
  go_wp2
  go_returns
  exact ⟨_, rfl, (mod256 _).1, (mod256 _).2, moved_a HC.out hn hl HR.out _ _ _⟩

set_option maxHeartbeats 1000000 in
theorem byte_step (b : Nat) (k off : Nat) (len cap n : Nat) (h c : Int) (w : World) (hc : CurB w b (.slice (some ⟨k, off, none⟩) len cap) n h) (hl : len ≤ 9223372036854775000) (hr : ByteRow w b (some ⟨k, off, none⟩) len) (hlt : n < len) (hk : k ≠ b) (hkw : k < w.heap.size) (hcell : w.cell? ⟨k, off + n, none⟩ = some (.int .u8 c)) (hc0 : 0 ≤ c) (hc1 : c ≤ 255) :
    Calls Try.prog 77 #[.pointer (some ⟨b, 0, none⟩)] w fun e w' => ∃ x : Int, e = .returned (.int .i64 x) ∧ 0 ≤ x ∧ x ≤ 255 ∧ Moved b w w' := by
  have HC : Hid (CurB w b (.slice (some ⟨k, off, none⟩) len cap) n h) := hc
  have HR : Hid (ByteRow w b (some ⟨k, off, none⟩) len) := hr
  have c0 := hc.c0
  have c1 := hc.c1
  have c2 := hc.c2
  have f1 := hc.fr 1
  have f2 := hc.fr 2
  have a255 := and255
  clear hc hr
  go_enter Try.func77, Try.ntmps77
  go_wp2
  go_quiet (fail)
  go_wp2
  go_quiet (fail)
  go_wp2
  go_quiet (fail)
  go_wp2
  go_returns
  exact ⟨_, rfl, (mod256 _).1, (mod256 _).2, moved_b HC.out hlt hl HR.out _ _⟩

/-- The next byte of whatever cursor. -/
theorem byte_any (b : Nat) (w : World) (hc : Cursor w b) :
    Calls Try.prog 77 #[.pointer (some ⟨b, 0, none⟩)] w fun e w' => ∃ x : Int, e = .returned (.int .i64 x) ∧ 0 ≤ x ∧ x ≤ 255 ∧ Moved b w w' := by
  obtain ⟨ad, len, cap, n, h, H, h1, h2, h3⟩ := hc
  by_cases hlt : n < len
  · rcases h3 with h | ⟨k, off, e, hb, hk, hcc⟩
    · omega
    · subst e
      obtain ⟨c, c0, c1, hcell⟩ := hcc n hlt
      exact byte_step b k off len cap n h c w H h2 (.inr ⟨k, off, rfl, hb, hk, hcc⟩) hlt (Nat.ne_of_lt hb) hk hcell c0 c1
  · exact byte_end b ad len cap n h w H h1 h2 h3 (by omega)

end Go.Proofs.Ytbhghghkgojpgaa
