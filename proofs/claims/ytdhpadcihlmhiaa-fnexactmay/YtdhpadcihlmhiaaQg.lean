/- What one may do: the program's answer. -/
import Derived.Test.YtdhpadcihlmhiaaQf
namespace Go.Proofs.Ytdhpadcihlmhiaa
open Go.ChangeShapes Go.WideShapes Go.ChangeAt Go.RowKit
set_option linter.unusedVariables false
set_option linter.unusedSimpArgs false

def plB (x n : Int) : Bool := decide (0 ≤ x ∧ x < n)
theorem isPl_any (x n : Int) (w : World) : Calls Try.prog 26 #[.int .i64 x, .int .i64 n] w fun e w' => e = .returned (.bool (plB x n)) ∧ w' = w := by
  by_cases g : 0 ≤ x
  · by_cases g2 : x < n
    · have e : plB x n = true := decide_eq_true ⟨g, g2⟩
      rw [e]; clear e
      go_enter Try.func26, Try.ntmps26
      go_wp2
      go_returns
      exact ⟨rfl, rfl⟩
    · have e : plB x n = false := decide_eq_false (fun q => g2 q.2)
      rw [e]; clear e
      go_enter Try.func26, Try.ntmps26
      go_wp2
      go_returns
      exact ⟨rfl, rfl⟩
  · have e : plB x n = false := decide_eq_false (fun q => g q.1)
    rw [e]; clear e
    go_enter Try.func26, Try.ntmps26
    go_wp2
    go_returns
    exact ⟨rfl, rfl⟩
theorem isPl_eq {x n : Int} {v : Bool} {w : World} (h : plB x n = v) : Calls Try.prog 26 #[.int .i64 x, .int .i64 n] w fun e w' => e = .returned (.bool v) ∧ w' = w := h ▸ isPl_any x n w

/-- The four boxes of a call. -/
def boxed (w : World) (bp len : Nat) (who : Int) (s : ByteArray) (a : Int) : World := (((w.alloc (.cells #[.slice (some ⟨bp, 0, none⟩) len len] 41 (0, 0))).alloc (.cells #[.int .i64 who] 3 (0, 0))).alloc (.cells #[.string s] 9 (0, 0))).alloc (.cells #[.int .i64 a] 3 (0, 0))
theorem boxed_below (w : World) (bp len : Nat) (who : Int) (s : ByteArray) (a : Int) : Below w.heap.size w (boxed w bp len who s a) := ((((Below.refl _ _).alloc (Nat.le_refl _) _).alloc (by simp) _).alloc (by simp; omega) _).alloc (by simp; omega) _
set_option maxRecDepth 20000 in
set_option maxHeartbeats 4000000 in
theorem may_any (bp len : Nat) (c : Nat → PE) (bl : Nat → Nat) (sf : Nat → Option Addr) (who : Int) (s : ByteArray) (a : Int) (w0 w : World) (hpe : PeP len c) (hS : Sta w0 w bp len len c bl sf) (hI : SfI len len c bl sf) (hb : Below w0.heap.size w0 w) :
    Calls Try.prog 20 #[.slice (some ⟨bp, 0, none⟩) len len, .int .i64 who, .string s, .int .i64 a] w fun e w' => e = .returned (.bool (mayB len c who s a)) ∧ Below w.heap.size w w' := by
  have hlen : (len : Int) ≤ 40 := by have := hpe.1; omega
  have HBX := hid (boxed_below w bp len who s a)
  by_cases hin : 0 ≤ who ∧ who < (len : Int)
  rotate_left
  · have HV : Hid (mayB len c who s a = false) := mayB_f (by rintro ⟨_, u, e, hu, _⟩; exact hin ⟨by omega, by omega⟩)
    have HP : Hid (plB who (len : Int) = false) := decide_eq_false hin
    unfold boxed at HBX
    clear hpe hS hI hb hin
    go_enter Try.func20, Try.ntmps20
    go_wp2_with (go_at_call 26; refine (isPl_eq HP.out).mono ?_; rintro e w1 ⟨rfl, ew⟩; replace ew := ew.symm; subst ew)
    go_returns
    exact ⟨ret_bool HV.out.symm, HBX.out⟩
  have HP : Hid (plB who (len : Int) = true) := decide_eq_true hin
  obtain ⟨u, rfl⟩ : ∃ u : Nat, who = (u : Int) := ⟨who.toNat, by omega⟩
  have hu : u < len := by omega
  have hu2 : (u : Int) < (len : Int) := by omega
  obtain ⟨cs, hcb, hcz, hcs⟩ := hS.ppl
  have q0 : w.cell? ⟨bp, u, none⟩ = some (.pointer (some ⟨bl u, 0, none⟩)) := (hcb.cell u).trans (hcs u hu)
  obtain ⟨ra, rc, hcol, _⟩ := hS.col u hu
  unfold colC at hcol
  have a4 : w.cell? ⟨bl u, 4, none⟩ = some (.bool (c u).aw) := (hcol.cell 4).trans rfl
  have HM : Hid (MyI w0 (boxed w bp len (u : Int) s a) bp len c bl sf w.heap.size (w.heap.size + 1) (w.heap.size + 1 + 1) (w.heap.size + 1 + 1 + 1) u s a) :=
    ⟨hpe, hS.below HBX.out, hI, bel_on hb HBX.out, hu, (((CB.new _ _).alloc _).alloc _).alloc _, ((CB.newAt (by simp) _ _).alloc _).alloc _, (CB.newAt (by simp) _ _).alloc _, CB.newAt (by simp) _ _⟩
  have HPE := hid hpe
  clear hpe hS hI hb hin hcb hcz hcs hcol
  cases haw : (c u).aw
  rotate_left
  · rw [haw] at a4
    have HV : Hid (mayB len c (u : Int) s a = false) := mayB_f (by rintro ⟨_, u', e, _, q, _⟩; obtain rfl : u = u' := by omega
                                                                   rw [haw] at q; cases q)
    clear haw HM
    have q1 := keep_cell HBX.out q0
    have a1 := keep_cell HBX.out a4
    unfold boxed at HBX q1 a1
    go_enter Try.func20, Try.ntmps20
    go_wp2_with (go_at_call 26; refine (isPl_eq HP.out).mono ?_; rintro e w1 ⟨rfl, ew⟩; replace ew := ew.symm; subst ew)
    go_returns
    exact ⟨ret_bool HV.out.symm, HBX.out⟩
  rw [haw] at a4
  have HV : Hid (mayB len c (u : Int) s a = decide (0 ≤ fstF (gvB c u s a) len 0)) := mayB_u HPE.out hu haw
  clear haw
  have HC := hid (anyMay _ _ _ _ _ _ _ _ _ _ _ _ _ _ HM.out)
  have q1 := keep_cell HBX.out q0
  have a1 := keep_cell HBX.out a4
  unfold boxed at HBX HC q1 a1
  clear HM
  go_enter Try.func20, Try.ntmps20
  go_wp2_with (first
    | (go_at_call 26; refine (isPl_eq HP.out).mono ?_; rintro e w1 ⟨rfl, ew⟩; replace ew := ew.symm; subst ew)
    | (go_at_call 27; go_loud (refine HC.out.mono ?_; rintro e w2 ⟨rfl, b2⟩; rw [← HV.out]; have HB2 : Hid (Below w.heap.size w w2) := bel_on HBX.out b2; clear b2 HC)))
  go_returns
  exact ⟨rfl, HB2.out⟩

set_option maxRecDepth 20000 in
set_option maxHeartbeats 4000000 in
theorem implMay_any (ad : Option Addr) (len cap : Nat) (c : Nat → PE) (who : Int) (s : ByteArray) (a : Int) (w : World) (h : (len : Int) ≤ 1048576) (hs : PSz c) (hr : PEr w ad len c) :
    Calls Try.prog 11 #[.slice ad len cap, .int .i64 who, .string s, .int .i64 a] w fun e w' => e = .returned (.bool (mayB len c who s a)) ∧ Below w.heap.size w w' := by
  have HC := hid (staffOf_any ad len cap c w h hs hr)
  clear hs hr
  cases hb : peB len c
  · have HV : Hid (mayB len c who s a = false) := mayB_f fun q => by rw [peB_t q.1] at hb; cases hb
    have HE := hid hb
    clear hb
    go_enter Try.func11, Try.ntmps11
    go_wp2_with (go_at_call 17; go_loud (refine HC.out.mono ?_; rintro e w1 ⟨v, rfl, b1, _⟩; rw [HE.out]; have HB1 := hid b1; clear b1 HC))
    go_returns
    exact ⟨ret_bool HV.out.symm, HB1.out⟩
  have HPE : Hid (PeP len c) := peB_of hb
  have HE := hid hb
  clear hb
  go_enter Try.func11, Try.ntmps11
  go_wp2_with (first
    | (go_at_call 17; go_loud (refine HC.out.mono ?_; rintro e w1 ⟨v, rfl, b1, k1⟩; obtain ⟨bp, bl, sf, rfl, _, i1, i2⟩ := k1 HE.out; rw [HE.out]; have HB1 := hid b1; have HI1 := hid i1; have HI2 := hid i2; clear b1 HC i1 i2 k1))
    | (go_at_call 20; go_loud (refine (may_any _ _ c _ _ who s a w _ HPE.out HI1.out HI2.out HB1.out).mono ?_; rintro e w2 ⟨rfl, b2⟩; have HB2 : Hid (Below w.heap.size w w2) := bel_on HB1.out b2; clear b2)))
  go_returns
  exact ⟨rfl, HB2.out⟩
end Go.Proofs.Ytdhpadcihlmhiaa
