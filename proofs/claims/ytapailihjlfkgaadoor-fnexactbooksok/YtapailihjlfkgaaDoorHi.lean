/- Contracts of the program's chain: a number linked, a line's and an entry's numbers told. -/
import Derived.Test.YtapailihjlfkgaaDoorHp
import Derived.Test.YtapailihjlfkgaaDoorLq
namespace Go.Proofs.YtapailihjlfkgaaDoor
open Go.ChangeShapes Go.WideShapes Go.ChangeAt Go.RowKit
set_option linter.unusedVariables false
set_option linter.unusedSimpArgs false

def chC (s : Int × Bool) : Array Value := #[.int .i64 s.1, .bool s.2]

theorem link_any (B : Nat) (s : Int × Bool) (n : Int) (w : World) (hc : CB w B (chC s) 133) (h : HdR s.1) :
    Calls Tryd.prog 77 #[.pointer (some ⟨B, 0, none⟩), .int .i64 n] w fun e w' => e = .returned (.tuple #[]) ∧ CB w' B (chC (lk s n)) 133 ∧ But B w w' := by
  obtain ⟨hd, br⟩ := s
  have c0 := hc.cell 0
  have c1 := hc.cell 1
  have f0 := hc.fr 0
  have f1 := hc.fr 1
  have HC : Hid (CB w B (chC (hd, br)) 133) := hc
  obtain ⟨h0, h1⟩ := h
  simp [chC] at c0 c1
  simp only at h0 h1
  clear hc
  by_cases g : n < -549755813888
  · go_enter Tryd.func77, Tryd.ntmps77
    go_wp2
    go_returns
    refine ⟨rfl, ?_, (But.refl _ _).set _ _⟩
    have e : lk (hd, br) n = (hd, true) := by unfold lk; rw [if_pos (.inl g)]
    rw [e]
    exact HC.out.set 1 (.bool true)
  · by_cases g2 : 549755813888 ≤ n
    · go_enter Tryd.func77, Tryd.ntmps77
      go_wp2
      go_returns
      refine ⟨rfl, ?_, (But.refl _ _).set _ _⟩
      have e : lk (hd, br) n = (hd, true) := by unfold lk; rw [if_pos (.inr g2)]
      rw [e]
      exact HC.out.set 1 (.bool true)
    · have g3 : (0 : Int) ≤ hd * 1000003 := by omega
      have g4 : hd * 1000003 < 1099511627791 * 1000003 := by omega
      go_enter Tryd.func77, Tryd.ntmps77
      go_wp2
      go_returns
      refine ⟨rfl, ?_, (But.refl _ _).set _ _⟩
      have e : lk (hd, br) n = ((hd * 1000003 + n + 549755813888) % 1099511627791, br) := by unfold lk; rw [if_neg (by omega)]
      rw [e]
      have := HC.out.set 0 (.int .i64 ((hd * 1000003 + n + 549755813888) % 1099511627791))
      exact this

/-- The chain lies in block B. -/
def Ch (w : World) (B : Nat) (s : Int × Bool) : Prop := CB w B (chC s) 133 ∧ HdR s.1
theorem Ch.link {B : Nat} {s : Int × Bool} {w : World} (h : Ch w B s) (n : Int) :
    Calls Tryd.prog 77 #[.pointer (some ⟨B, 0, none⟩), .int .i64 n] w fun e w' => e = .returned (.tuple #[]) ∧ Ch w' B (lk s n) ∧ But B w w' :=
  (link_any B s n w h.1 h.2).mono fun e w' ⟨a, b, c⟩ => ⟨a, ⟨b, lk_range h.2⟩, c⟩
theorem Ch.alloc {B : Nat} {s : Int × Bool} {w : World} (h : Ch w B s) (o : Obj) : Ch (w.alloc o) B s := ⟨h.1.alloc o, h.2⟩
theorem Ch.lt {B : Nat} {s : Int × Bool} {w : World} (h : Ch w B s) : B < w.heap.size := h.1.lt
theorem Ch.below {B : Nat} {s : Int × Bool} {w w' : World} (h : Ch w B s) (k : Below w.heap.size w w') : Ch w' B s := ⟨h.1.below k h.1.lt, h.2⟩

theorem lks_snoc (s : Int × Bool) (l : List Int) (n : Int) : lks s (l ++ [n]) = lk (lks s l) n := by rw [lks_append]; rfl

theorem idx5 (la ld lc lm lb : Int) (k : Nat) (hk : k < 5) : ∃ x, (L5.nums ⟨la, ld, lc, lm, lb⟩).take (k + 1) = (L5.nums ⟨la, ld, lc, lm, lb⟩).take k ++ [x] ∧
    ∀ W, (Instr.index 192 (.agg #[.int .i64 la, .int .i64 ld, .int .i64 lc, .int .i64 lm, .int .i64 lb]) (.int .i64 (k : Int))).run Tryd.prog W = .ok (.int .i64 x) W := by
  have h6 : k = 0 ∨ k = 1 ∨ k = 2 ∨ k = 3 ∨ k = 4 := by omega
  rcases h6 with rfl | rfl | rfl | rfl | rfl
  · exact ⟨la, rfl, fun W => by kernel_rfl⟩
  · exact ⟨ld, rfl, fun W => by kernel_rfl⟩
  · exact ⟨lc, rfl, fun W => by kernel_rfl⟩
  · exact ⟨lm, rfl, fun W => by kernel_rfl⟩
  · exact ⟨lb, rfl, fun W => by kernel_rfl⟩

set_option maxRecDepth 20000 in
set_option maxHeartbeats 1000000 in
theorem tellLine_any (B : Nat) (s : Int × Bool) (l : L5) (w : World) (hc : Ch w B s) :
    Calls Tryd.prog 105 #[l.agg, .func (Fn.func 77) #[.pointer (some ⟨B, 0, none⟩)] #[]] w fun e w' => e = .returned (.tuple #[]) ∧ Ch w' B (lks s l.nums) ∧ But B w w' := by
  have HC : Hid (Ch w B s) := hc
  clear hc
  obtain ⟨la, ld, lc, lm, lb⟩ := l
  unfold L5.agg
  go_enter Tryd.func105, Tryd.ntmps105
  go_wp2
  go_loopw [17] (fun i wr => ∃ k : Nat, k ≤ 5 ∧ i = .int .i64 (k : Int) ∧ Ch wr B (lks s ((L5.nums ⟨la, ld, lc, lm, lb⟩).take k)) ∧ But B w wr) (fun i _ => 5 - (intOf i).toNat)
  case atStart => exact ⟨0, by omega, rfl, HC.out.alloc _, (But.refl _ _).alloc _⟩
  case round =>
    obtain ⟨k, hk, rfl, hC, hB⟩ := hrel
    have HB : Hid (But B w wr) := hB
    have HC2 : Hid (Ch wr B (lks s ((L5.nums ⟨la, ld, lc, lm, lb⟩).take k))) := hC
    clear hB hC
    by_cases hlt : k < 5
    · obtain ⟨x, hx, hi⟩ := idx5 la ld lc lm lb k hlt
      have HXX : Hid ((L5.nums ⟨la, ld, lc, lm, lb⟩).take (k + 1) = (L5.nums ⟨la, ld, lc, lm, lb⟩).take k ++ [x]) := hx
      clear hx
      go_wp2_with (go_at_call 77; refine (HC2.out.link _).mono ?_; rintro e w1 ⟨rfl, C1, b1⟩; have HX : Hid (Ch w1 B (lk (lks s ((L5.nums ⟨la, ld, lc, lm, lb⟩).take k)) x)) := C1; have HB1 : Hid (But B w w1) := HB.out.trans b1; clear C1 b1)
      go_roundw
      case rel => exact ⟨k + 1, by omega, by go_num, by rw [HXX.out, lks_snoc]; exact HX.out, HB1.out⟩
      case measure => simp [intOf]; omega
    · obtain rfl : k = 5 := by omega
      go_wp2
      go_returns
      exact ⟨rfl, HC2.out, HB.out⟩

def pre3 (d r : Int) (t : ByteArray) : List Int := [d, r, (t.size : Int)]

set_option maxRecDepth 20000 in
set_option maxHeartbeats 4000000 in
theorem tellEntry_any (B : Nat) (s : Int × Bool) (d r : Int) (t : ByteArray) (ad : Option Addr) (n cap : Nat) (ls : Nat → L5) (w : World) (ht : (t.size : Int) ≤ 40) (hn : (n : Int) ≤ 60) (hc : Ch w B s) (hl : LR w ad n ls) (hB : n = 0 ∨ ∀ k o q, ad = some ⟨k, o, q⟩ → k ≠ B) :
    Calls Tryd.prog 76 #[.agg #[.int .i64 d, .int .i64 r, .string t, .slice ad n cap], .func (Fn.func 77) #[.pointer (some ⟨B, 0, none⟩)] #[]] w fun e w' => e = .returned (.tuple #[]) ∧ Ch w' B (lks s (E4.nums ⟨d, r, t, n, ls⟩)) ∧ But B w w' := by
  have hne : w.heap.size ≠ B := by have := hc.lt; omega
  have HL : Hid (LR w ad n ls) := hl
  have HN : Hid (n = 0 ∨ ∀ k o q, ad = some ⟨k, o, q⟩ → k ≠ B) := hB
  have C : Ch (w.alloc (.cells #[.int .i64 d, .int .i64 r, .string t, .slice ad n cap] 37 (0, 0))) B s := hc.alloc _
  have X : CB (w.alloc (.cells #[.int .i64 d, .int .i64 r, .string t, .slice ad n cap] 37 (0, 0))) w.heap.size #[.int .i64 d, .int .i64 r, .string t, .slice ad n cap] 37 := CB.new _ _
  have bb : But B w (w.alloc (.cells #[.int .i64 d, .int .i64 r, .string t, .slice ad n cap] 37 (0, 0))) := (But.refl _ _).alloc _
  have k0 := X.cell 0
  have k1 := X.cell 1
  have k2 := X.cell 2
  have k3 := X.cell 3
  simp only [List.getElem?_toArray, List.getElem?_cons_zero, List.getElem?_cons_succ] at k0 k1 k2 k3
  clear hc hl hB
  go_enter Tryd.func76, Tryd.ntmps76
  go_wp2_with (go_at_call 77; refine (C.link _).mono ?_; rintro e w1 ⟨rfl, C1, b1⟩; replace X := X.but b1 hne; replace k0 := X.cell 0; replace k1 := X.cell 1; replace k2 := X.cell 2; replace k3 := X.cell 3; simp only [List.getElem?_toArray, List.getElem?_cons_zero, List.getElem?_cons_succ] at k0 k1 k2 k3; replace bb := bb.trans b1; replace C := C1; clear C1 b1)
  have HX : Hid (CB w1 w.heap.size #[.int .i64 d, .int .i64 r, .string t, .slice ad n cap] 37) := X
  have HC : Hid (Ch w1 B (lk (lk (lk s d) r) (t.size : Int))) := C
  have HB : Hid (But B w w1) := bb
  clear X C bb k0 k1 k2 k3
  go_loopw [23] (fun i wr => ∃ k : Nat, k ≤ t.size ∧ i = .int .i64 (k : Int) ∧ Ch wr B (lks (lks s (pre3 d r t)) (txtN t k)) ∧ CB wr w.heap.size #[.int .i64 d, .int .i64 r, .string t, .slice ad n cap] 37 ∧ But B w wr) (fun i _ => t.size - (intOf i).toNat)
  case atStart => exact ⟨0, Nat.zero_le _, rfl, HC.out, HX.out, HB.out⟩
  case round =>
    obtain ⟨k, hk, rfl, C, X, bb⟩ := hrel
    have k2 := X.cell 2
    have k3 := X.cell 3
    simp only [List.getElem?_toArray, List.getElem?_cons_zero, List.getElem?_cons_succ] at k2 k3
    have HX : Hid (CB wr w.heap.size #[.int .i64 d, .int .i64 r, .string t, .slice ad n cap] 37) := X
    have HC : Hid (Ch wr B (lks (lks s (pre3 d r t)) (txtN t k))) := C
    have HB : Hid (But B w wr) := bb
    clear X C bb
    by_cases hlt : k < t.size
    · have hb := byN_at t k hlt
      have HBY : Hid (byN t k = (t[k].toNat : Int)) := hb
      have hby := t[k].toNat_lt
      clear hb
      go_wp2_with (go_at_call 77; refine (HC.out.link _).mono ?_; rintro e w1 ⟨rfl, C1, b1⟩; have HC1 : Hid (Ch w1 B (lk (lks (lks s (pre3 d r t)) (txtN t k)) (byN t k))) := (by rw [HBY.out]; exact C1); have HX1 : Hid (CB w1 w.heap.size #[.int .i64 d, .int .i64 r, .string t, .slice ad n cap] 37) := HX.out.but b1 hne; have HB1 : Hid (But B w w1) := HB.out.trans b1; clear C1 b1)
      go_roundw
      case rel => exact ⟨k + 1, by omega, by go_num, by rw [txtN, lks_snoc]; exact HC1.out, HX1.out, HB1.out⟩
      case measure => simp [intOf]; omega
    · obtain rfl : k = t.size := by omega
      go_wp2_with (go_at_call 77; refine (HC.out.link _).mono ?_; rintro e w1 ⟨rfl, C1, b1⟩; have X1 := HX.out.but b1 hne; have m3 := X1.cell 3; simp only [List.getElem?_toArray, List.getElem?_cons_zero, List.getElem?_cons_succ] at m3; have HC1 : Hid (Ch w1 B (lk (lks (lks s (pre3 d r t)) (txtN t t.size)) (n : Int))) := C1; have HX1 : Hid (CB w1 w.heap.size #[.int .i64 d, .int .i64 r, .string t, .slice ad n cap] 37) := X1; have HB1 : Hid (But B w w1) := HB.out.trans b1; clear C1 b1 X1)
      go_loopw [42] (fun i wr => ∃ k : Nat, k ≤ n ∧ i = .int .i64 (k : Int) ∧ Ch wr B (lks (lk (lks (lks s (pre3 d r t)) (txtN t t.size)) (n : Int)) (lnsN ls k)) ∧ But B w wr) (fun i _ => n - (intOf i).toNat)
      case atStart => exact ⟨0, Nat.zero_le _, rfl, HC1.out, HB1.out⟩
      case round =>
        obtain ⟨k, hk, rfl, C, bb⟩ := hrel
        have HC : Hid (Ch wr B (lks (lk (lks (lks s (pre3 d r t)) (txtN t t.size)) (n : Int)) (lnsN ls k))) := C
        have HB : Hid (But B w wr) := bb
        by_cases hlt : k < n
        · have hL2 := HL.out.but bb HN.out
          obtain ⟨kb, off, rfl, hkb⟩ := hL2.addr (by omega)
          obtain ⟨c1, c2, c3, c4, c5⟩ := hL2.cell hlt
          clear hL2 C bb
          go_wp2_with (go_at_call 105; refine (tellLine_any B _ (ls k) _ (HC.out.alloc _)).mono ?_; rintro e w1 ⟨rfl, C1, b1⟩; have HC1 : Hid (Ch w1 B (lks (lks (lk (lks (lks s (pre3 d r t)) (txtN t t.size)) (n : Int)) (lnsN ls k)) (ls k).nums)) := C1; have HB1 : Hid (But B w w1) := (HB.out.alloc _).trans b1; clear C1 b1)
          go_roundw
          case rel => exact ⟨k + 1, by omega, by go_num, by rw [lnsN, lks_append]; exact HC1.out, HB1.out⟩
          case measure => simp [intOf]; omega
        · obtain rfl : k = n := by omega
          clear C bb
          go_wp2
          go_returns
          refine ⟨rfl, ?_, HB.out⟩
          have e : lks s (E4.nums ⟨d, r, t, k, ls⟩) = lks (lk (lks (lks s (pre3 d r t)) (txtN t t.size)) (k : Int)) (lnsN ls k) := by
            unfold E4.nums
            rw [lks_append, lks_append, lks_cons]; rfl
          rw [e]; exact HC.out

end Go.Proofs.YtapailihjlfkgaaDoor
