/- RateAt in the program: it tells 'rateO'. -/
import Derived.Test.YtidhnmodedbmgaaGc
namespace Go.Proofs.Ytidhnmodedbmgaa
open Go.ChangeShapes Go.WideShapes Go.ChangeAt Go.RowKit
set_option linter.unusedVariables false
set_option linter.unusedSimpArgs false

set_option maxHeartbeats 1000000 in
theorem implRateAt_any (ad : Option Addr) (len cap : Nat) (r : Nat → R4) (m p d : Int) (w : World) (h : (len : Int) ≤ 1048576) (hr : RR w ad len r) :
    Calls Try.prog 13 #[.slice ad len cap, .int .i64 m, .int .i64 p, .int .i64 d] w fun e w' => e = .returned (.tuple #[.int .i64 (oN (rateO m len r p d)), .int .i64 (oD (rateO m len r p d)), .bool (oB (rateO m len r p d))]) ∧ Below w.heap.size w w' := by
  cases hv : ratesB m len r
  · have HF : Hid (rateO m len r p d = none) := rateO_bad fun H => by rw [hv] at H; cases H.1
    go_enter Try.func13, Try.ntmps13
    go_wp2_with (first
      | (go_at_call 40; refine (tables_none _ _ _ r _ _ h hr hv).mono ?_; rintro e w1 ⟨rfl, b1⟩)
      | (go_at_call 42; refine (at_none _ _ _).mono ?_; rintro e w2 ⟨rfl, b2⟩; have HB2 : Hid (Below w.heap.size w w2) := bel_on b1 b2; clear b1 b2 hr))
    go_quiet (fail)
    go_wp2
    go_returns
    exact ⟨ret_o (.inr ⟨HF.out, rfl, rfl, rfl⟩), bdN (HB2.out.alloc HB2.out.size _) _⟩
  · obtain ⟨o, ho⟩ : ∃ o, rateO m len r p d = o := ⟨_, rfl⟩
    rw [ho]
    go_enter Try.func13, Try.ntmps13
    go_wp2_with (first
      | (go_at_call 40; refine (tables_ok _ _ _ r _ _ h hr hv).mono ?_; rintro e w1 ⟨B, F, rfl, hBB, hG, b1⟩)
      | (go_at_call 42; refine (at_ok _ _ _ B len F r _ hv hG).mono ?_; rintro e w2 ⟨⟨a1, b1', c1, x1, ok, rfl, hT⟩, b2⟩; have HB2 : Hid (Below w.heap.size w w2) := bel_on b1 b2; rw [ho] at hT; have HT : Hid (Told o c1 x1 ok) := hT; clear b1 b2 hr hG hT))
    go_quiet (fail)
    go_wp2
    go_returns
    exact ⟨ret_o HT.out, bdN (HB2.out.alloc HB2.out.size _) _⟩

end Go.Proofs.Ytidhnmodedbmgaa
