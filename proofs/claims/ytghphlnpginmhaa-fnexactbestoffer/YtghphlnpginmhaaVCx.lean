/- Convert in the model: it tells 'cv'. -/
import Derived.Test.YtghphlnpginmhaaVCw
namespace Go.Proofs.Ytghphlnpginmhaa.Rt
open Go.ChangeShapes Go.WideShapes Go.ChangeAt Go.RowKit
set_option linter.unusedVariables false
set_option linter.unusedSimpArgs false
theorem specRA_eq (ad : Option Addr) (len cap : Nat) (r : Nat → R4) (m p d : Int) {o : Option (Int × Int)} (w : World) (h : (len : Int) ≤ 1048576) (hr : RR w ad len r) (ho : rateO m len r p d = o) :
    Calls Try.prog 125 #[.slice ad len cap, .int .i64 m, .int .i64 p, .int .i64 d] w fun e w' => e = .returned (.tuple #[.int .i64 (oN o), .int .i64 (oD o), .bool (oB o)]) ∧ Below w.heap.size w w' := by
  subst ho; exact specRateAt_any ad len cap r m p d w h hr
theorem specMD_eq {a n d m x : Int} {v : Bool} (w : World) (h1 : mdV a n d m = x) (h2 : mdB a n d m = v) :
    Calls Try.prog 83 #[.int .i64 a, .int .i64 n, .int .i64 d, .int .i64 m] w fun e w' => e = .returned (.tuple #[.int .i64 x, .bool v]) ∧ w' = w := by
  subst h1 h2; exact specMulDiv_any a n d m w
theorem oN_s (v : Int × Int) : oN (some v) = v.1 := rfl
theorem oD_s (v : Int × Int) : oD (some v) = v.2 := rfl
theorem oB_s (v : Int × Int) : oB (some v) = true := rfl
theorem oB_n : oB none = false := rfl
set_option maxRecDepth 4000 in
set_option maxHeartbeats 4000000 in
theorem specConvert_any (ad : Option Addr) (len cap : Nat) (r : Nat → R4) (m a p q d : Int) (w : World) (h : (len : Int) ≤ 1048576) (hr : RR w ad len r) :
    Calls Try.prog 68 #[.slice ad len cap, .int .i64 m, .int .i64 a, .int .i64 p, .int .i64 q, .int .i64 d] w fun e w' => e = .returned (.tuple #[.int .i64 (cN (cvO m len r a p q d)), .bool (cB (cvO m len r a p q d))]) ∧ Below w.heap.size w w' := by
  have HR : Hid (RR w ad len r) := hr
  have tk1 : True := trivial
  have tk2 : True := trivial
  have s1 := oN_s
  have s2 := oD_s
  have s3 := oB_s
  have s4 := oB_n
  clear hr
  unfold cvO
  cases ho1 : rateO m len r p d with
  | none =>
    obtain ⟨o2, ho2⟩ : ∃ o, rateO m len r q d = o := ⟨_, rfl⟩
    rw [ho2]
    have HC : Hid (cv none o2 a p q = none) := cv_n1
    go_enter Try.func68, Try.ntmps68
    go_wp2_with (first | (go_at_call 125; have := tk1; clear tk1; refine (specRA_eq _ _ _ r m p d _ h HR.out ho1).mono ?_; rintro e w2 ⟨rfl, bb⟩; have HR2 : Hid (RR w2 ad len r) := HR.out.below bb; have HB2 : Hid (Below w.heap.size w w2) := bb; clear bb) | (go_at_call 125; refine (specRA_eq _ _ _ r m q d _ h HR2.out ho2).mono ?_; rintro e w3 ⟨rfl, bb3⟩; have HB3 : Hid (Below w.heap.size w w3) := bel_on HB2.out bb3; clear bb3) | (go_at_call 82; refine (l1Amount_any _ _).mono ?_; rintro e w6 ⟨rfl, ew⟩; replace ew := ew.symm; subst ew))
    go_returns
    exact ⟨ret_c (by rw [HC.out]; rfl) (by rw [HC.out]; rfl), HB3.out⟩
  | some v1 =>
    obtain ⟨n1, d1⟩ := v1
    cases ho2 : rateO m len r q d with
    | none =>
      have HC : Hid (cv (some (n1, d1)) none a p q = none) := cv_n2
      go_enter Try.func68, Try.ntmps68
      go_wp2_with (first | (go_at_call 125; have := tk1; clear tk1; refine (specRA_eq _ _ _ r m p d _ h HR.out ho1).mono ?_; rintro e w2 ⟨rfl, bb⟩; have HR2 : Hid (RR w2 ad len r) := HR.out.below bb; have HB2 : Hid (Below w.heap.size w w2) := bb; clear bb) | (go_at_call 125; refine (specRA_eq _ _ _ r m q d _ h HR2.out ho2).mono ?_; rintro e w3 ⟨rfl, bb3⟩; have HB3 : Hid (Below w.heap.size w w3) := bel_on HB2.out bb3; clear bb3) | (go_at_call 82; refine (l1Amount_any _ _).mono ?_; rintro e w6 ⟨rfl, ew⟩; replace ew := ew.symm; subst ew))
      go_returns
      exact ⟨ret_c (by rw [HC.out]; rfl) (by rw [HC.out]; rfl), HB3.out⟩
    | some v2 =>
      obtain ⟨n2, d2⟩ := v2
      cases ha : inB a (-100000000000) 100000000000
      · have HC : Hid (cv (some (n1, d1)) (some (n2, d2)) a p q = none) := cv_amt ha
        go_enter Try.func68, Try.ntmps68
        go_wp2_with (first | (go_at_call 125; have := tk1; clear tk1; refine (specRA_eq _ _ _ r m p d _ h HR.out ho1).mono ?_; rintro e w2 ⟨rfl, bb⟩; have HR2 : Hid (RR w2 ad len r) := HR.out.below bb; have HB2 : Hid (Below w.heap.size w w2) := bb; clear bb) | (go_at_call 125; refine (specRA_eq _ _ _ r m q d _ h HR2.out ho2).mono ?_; rintro e w3 ⟨rfl, bb3⟩; have HB3 : Hid (Below w.heap.size w w3) := bel_on HB2.out bb3; clear bb3) | (go_at_call 82; refine (l1Amt_eq _ ha).mono ?_; rintro e w6 ⟨rfl, ew⟩; replace ew := ew.symm; subst ew))
        go_returns
        exact ⟨ret_c (by rw [HC.out]; rfl) (by rw [HC.out]; rfl), HB3.out⟩
      · by_cases hpq : p = q
        · have HC : Hid (cv (some (n1, d1)) (some (n2, d2)) a p q = some a) := cv_same ha hpq
          have ep : (p == q) = true := by simpa using hpq
          clear hpq
          go_enter Try.func68, Try.ntmps68
          go_wp2_with (first | (go_at_call 125; have := tk1; clear tk1; refine (specRA_eq _ _ _ r m p d _ h HR.out ho1).mono ?_; rintro e w2 ⟨rfl, bb⟩; have HR2 : Hid (RR w2 ad len r) := HR.out.below bb; have HB2 : Hid (Below w.heap.size w w2) := bb; clear bb) | (go_at_call 125; refine (specRA_eq _ _ _ r m q d _ h HR2.out ho2).mono ?_; rintro e w3 ⟨rfl, bb3⟩; have HB3 : Hid (Below w.heap.size w w3) := bel_on HB2.out bb3; clear bb3) | (go_at_call 82; refine (l1Amt_eq _ ha).mono ?_; rintro e w6 ⟨rfl, ew⟩; replace ew := ew.symm; subst ew))
          go_returns
          exact ⟨ret_c (by rw [HC.out]; rfl) (by rw [HC.out]; rfl), HB3.out⟩
        · have ep : (p == q) = false := by simpa using hpq
          by_cases hp0 : p = 0
          · have hq0 : q ≠ 0 := fun e => hpq (hp0.trans e.symm)
            have hone : (n1, d1) = (1, 1) := by subst hp0; exact rateO_zero ho1
            have eo : (p == 0) = true := by simpa using hp0
            have eq0 : (q == 0) = false := by simpa using hq0
            obtain ⟨y, hy⟩ : ∃ y, mdV a d2 n2 3 = y := ⟨_, rfl⟩
            obtain ⟨v, h2⟩ : ∃ v, mdB a d2 n2 3 = v := ⟨_, rfl⟩
            have HC : Hid (cN (cv (some (n1, d1)) (some (n2, d2)) a p q) = y ∧ cB (cv (some (n1, d1)) (some (n2, d2)) a p q) = v) := by
              have k := md_11 ha
              rw [hone]
              have := cv_end (v1 := (1, 1)) (v2 := (n2, d2)) ha hpq k.1 k.2
              rw [← hy, ← h2]; exact this
            clear hpq hp0 hq0 hone tk2
            go_enter Try.func68, Try.ntmps68
            go_wp2_with (first | (go_at_call 125; have := tk1; clear tk1; refine (specRA_eq _ _ _ r m p d _ h HR.out ho1).mono ?_; rintro e w2 ⟨rfl, bb⟩; have HR2 : Hid (RR w2 ad len r) := HR.out.below bb; have HB2 : Hid (Below w.heap.size w w2) := bb; clear bb) | (go_at_call 125; refine (specRA_eq _ _ _ r m q d _ h HR2.out ho2).mono ?_; rintro e w3 ⟨rfl, bb3⟩; have HB3 : Hid (Below w.heap.size w w3) := bel_on HB2.out bb3; clear bb3) | (go_at_call 82; refine (l1Amt_eq _ ha).mono ?_; rintro e w6 ⟨rfl, ew⟩; replace ew := ew.symm; subst ew) | (go_at_call 83; refine (specMD_eq _ hy h2).mono ?_; rintro e w8 ⟨rfl, ew⟩; replace ew := ew.symm; subst ew))
            go_returns
            exact ⟨ret_c HC.out.1.symm HC.out.2.symm, HB3.out⟩
          · have eo : (p == 0) = false := by simpa using hp0
            obtain ⟨x, hx⟩ : ∃ x, mdV a n1 d1 3 = x := ⟨_, rfl⟩
            cases h1 : mdB a n1 d1 3
            · have HC : Hid (cv (some (n1, d1)) (some (n2, d2)) a p q = none) := cv_bad ha hpq h1
              clear hpq hp0
              go_enter Try.func68, Try.ntmps68
              go_wp2_with (first | (go_at_call 125; have := tk1; clear tk1; refine (specRA_eq _ _ _ r m p d _ h HR.out ho1).mono ?_; rintro e w2 ⟨rfl, bb⟩; have HR2 : Hid (RR w2 ad len r) := HR.out.below bb; have HB2 : Hid (Below w.heap.size w w2) := bb; clear bb) | (go_at_call 125; refine (specRA_eq _ _ _ r m q d _ h HR2.out ho2).mono ?_; rintro e w3 ⟨rfl, bb3⟩; have HB3 : Hid (Below w.heap.size w w3) := bel_on HB2.out bb3; clear bb3) | (go_at_call 82; refine (l1Amt_eq _ ha).mono ?_; rintro e w6 ⟨rfl, ew⟩; replace ew := ew.symm; subst ew) | (go_at_call 83; have := tk2; clear tk2; refine (specMD_eq _ hx h1).mono ?_; rintro e w7 ⟨rfl, ew⟩; replace ew := ew.symm; subst ew))
              go_returns
              exact ⟨ret_c (by rw [HC.out]; rfl) (by rw [HC.out]; rfl), HB3.out⟩
            · by_cases hq0 : q = 0
              · have hone : (n2, d2) = (1, 1) := by subst hq0; exact rateO_zero ho2
                have eq0 : (q == 0) = true := by simpa using hq0
                have HC : Hid (cN (cv (some (n1, d1)) (some (n2, d2)) a p q) = x ∧ cB (cv (some (n1, d1)) (some (n2, d2)) a p q) = true) := by
                  rw [hone]
                  have := cv_end (v1 := (n1, d1)) (v2 := (1, 1)) ha hpq h1 hx
                  have k := md_11 (a := x) (by rw [← hx]; exact md_amt h1)
                  rw [k.1, k.2] at this; exact this
                clear hpq hp0 hq0 hone
                go_enter Try.func68, Try.ntmps68
                go_wp2_with (first | (go_at_call 125; have := tk1; clear tk1; refine (specRA_eq _ _ _ r m p d _ h HR.out ho1).mono ?_; rintro e w2 ⟨rfl, bb⟩; have HR2 : Hid (RR w2 ad len r) := HR.out.below bb; have HB2 : Hid (Below w.heap.size w w2) := bb; clear bb) | (go_at_call 125; refine (specRA_eq _ _ _ r m q d _ h HR2.out ho2).mono ?_; rintro e w3 ⟨rfl, bb3⟩; have HB3 : Hid (Below w.heap.size w w3) := bel_on HB2.out bb3; clear bb3) | (go_at_call 82; refine (l1Amt_eq _ ha).mono ?_; rintro e w6 ⟨rfl, ew⟩; replace ew := ew.symm; subst ew) | (go_at_call 83; have := tk2; clear tk2; refine (specMD_eq _ hx h1).mono ?_; rintro e w7 ⟨rfl, ew⟩; replace ew := ew.symm; subst ew))
                go_returns
                exact ⟨ret_c HC.out.1.symm HC.out.2.symm, HB3.out⟩
              · have eq0 : (q == 0) = false := by simpa using hq0
                obtain ⟨y, hy⟩ : ∃ y, mdV x d2 n2 3 = y := ⟨_, rfl⟩
                obtain ⟨v, h2⟩ : ∃ v, mdB x d2 n2 3 = v := ⟨_, rfl⟩
                have HC : Hid (cN (cv (some (n1, d1)) (some (n2, d2)) a p q) = y ∧ cB (cv (some (n1, d1)) (some (n2, d2)) a p q) = v) := by
                  rw [← hy, ← h2]; exact cv_end ha hpq h1 hx
                clear hpq hp0 hq0
                go_enter Try.func68, Try.ntmps68
                go_wp2_with (first | (go_at_call 125; have := tk1; clear tk1; refine (specRA_eq _ _ _ r m p d _ h HR.out ho1).mono ?_; rintro e w2 ⟨rfl, bb⟩; have HR2 : Hid (RR w2 ad len r) := HR.out.below bb; have HB2 : Hid (Below w.heap.size w w2) := bb; clear bb) | (go_at_call 125; refine (specRA_eq _ _ _ r m q d _ h HR2.out ho2).mono ?_; rintro e w3 ⟨rfl, bb3⟩; have HB3 : Hid (Below w.heap.size w w3) := bel_on HB2.out bb3; clear bb3) | (go_at_call 82; refine (l1Amt_eq _ ha).mono ?_; rintro e w6 ⟨rfl, ew⟩; replace ew := ew.symm; subst ew) | (go_at_call 83; have := tk2; clear tk2; refine (specMD_eq _ hx h1).mono ?_; rintro e w7 ⟨rfl, ew⟩; replace ew := ew.symm; subst ew) | (go_at_call 83; refine (specMD_eq _ hy h2).mono ?_; rintro e w8 ⟨rfl, ew⟩; replace ew := ew.symm; subst ew))
                go_returns
                exact ⟨ret_c HC.out.1.symm HC.out.2.symm, HB3.out⟩
end Go.Proofs.Ytghphlnpginmhaa.Rt
