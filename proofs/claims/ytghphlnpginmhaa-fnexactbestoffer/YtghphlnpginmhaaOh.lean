/- An offer that is right: the program's and the model's OfferOk answer 'ofB'. -/
import Derived.Test.YtghphlnpginmhaaOg
namespace Go.Proofs.Ytghphlnpginmhaa
open Go.ChangeShapes Go.WideShapes Go.ChangeAt Go.RowKit
set_option linter.unusedVariables false
set_option linter.unusedSimpArgs false

theorem specName_eq (s : ByteArray) (v : Bool) (w : World) (hs : s.size ≤ maxLen) (h : nameB s = v) : Calls Try.prog 86 #[.string s] w fun e w' => e = .returned (.bool v) ∧ w' = w := by
  subst h; exact specName_any s w hs
theorem cell_new {w : World} {o : Obj} {a : Addr} {v : Value} (h : w.cell? a = some v) : (w.alloc o).cell? a = some v := by simp [World.cell?_alloc_some, h]
noncomputable def ofB (o : OF) (curs : Int) : Bool := inB curs 1 20 && (inB o.cur 0 (curs - 1) && (nameB o.who && (nameB o.item && (inB o.fst 0 40000 && (inB o.lst 0 40000 && (decide (o.fst ≤ o.lst) && (inB o.lea 1 1000000 && scB o.rn o.rz o.lea)))))))

set_option maxRecDepth 20000 in
set_option maxHeartbeats 8000000 in
theorem implOffer_any (who item : ByteArray) (cur fst lst lea : Int) (ra : Option Addr) (n rc : Nat) (z : Nat → SC2) (curs : Int) (w : World) (hwho : who.size ≤ maxLen) (hitem : item.size ≤ maxLen) (h : (n : Int) ≤ 1048576) (hr : SCr w ra n z) :
    Calls Try.prog 24 #[.agg #[.string who, .string item, .int .i64 cur, .int .i64 fst, .int .i64 lst, .int .i64 lea, .slice ra n rc], .int .i64 curs] w fun e w' => e = .returned (.bool (ofB ⟨who, item, cur, fst, lst, lea, n, z⟩ curs)) ∧ Below w.heap.size w w' := by
  have HR : Hid (SCr w ra n z) := hr
  have HW : Hid (who.size ≤ maxLen) := hwho
  have HI : Hid (item.size ≤ maxLen) := hitem
  clear hr hwho hitem
  cases hcu : inB curs 1 20
  · have HV : Hid (false = ofB ⟨who, item, cur, fst, lst, lea, n, z⟩ curs) := hid (by simp [ofB, hcu])
    have tk : True := trivial
    go_enter Try.func24, Try.ntmps24
    go_wp2_with (first | (go_at_call 89; refine (isCurC_any _ _).mono ?_; rintro e w1 ⟨rfl, rfl⟩) | (go_at_call 90; refine (isPlace_any _ _ _).mono ?_; rintro e w1 ⟨rfl, rfl⟩) | (go_at_call 91; first | (clear tk; refine (implName_any who _ HW.out).mono ?_; rintro e w1 ⟨rfl, rfl⟩) | (refine (implName_any item _ HI.out).mono ?_; rintro e w1 ⟨rfl, rfl⟩)) | (go_at_call 92; refine (isDay_any _ _).mono ?_; rintro e w1 ⟨rfl, rfl⟩) | (go_at_call 93; refine (isQtyA_any _ _).mono ?_; rintro e w1 ⟨rfl, rfl⟩) | (go_at_call 94; refine HSC.out.mono ?_; rintro e w1 ⟨rfl, b1⟩))
    go_returns
    exact ⟨ret_bool HV.out, by go_grown⟩
  cases hcr : inB cur 0 (curs - 1)
  · have HV : Hid (false = ofB ⟨who, item, cur, fst, lst, lea, n, z⟩ curs) := hid (by simp [ofB, hcr])
    have tk : True := trivial
    go_enter Try.func24, Try.ntmps24
    go_wp2_with (first | (go_at_call 89; refine (isCurC_any _ _).mono ?_; rintro e w1 ⟨rfl, rfl⟩) | (go_at_call 90; refine (isPlace_any _ _ _).mono ?_; rintro e w1 ⟨rfl, rfl⟩) | (go_at_call 91; first | (clear tk; refine (implName_any who _ HW.out).mono ?_; rintro e w1 ⟨rfl, rfl⟩) | (refine (implName_any item _ HI.out).mono ?_; rintro e w1 ⟨rfl, rfl⟩)) | (go_at_call 92; refine (isDay_any _ _).mono ?_; rintro e w1 ⟨rfl, rfl⟩) | (go_at_call 93; refine (isQtyA_any _ _).mono ?_; rintro e w1 ⟨rfl, rfl⟩) | (go_at_call 94; refine HSC.out.mono ?_; rintro e w1 ⟨rfl, b1⟩))
    go_returns
    exact ⟨ret_bool HV.out, by go_grown⟩
  cases hn1 : nameB who
  · have HV : Hid (false = ofB ⟨who, item, cur, fst, lst, lea, n, z⟩ curs) := hid (by simp [ofB, hn1])
    have tk : True := trivial
    go_enter Try.func24, Try.ntmps24
    go_wp2_with (first | (go_at_call 89; refine (isCurC_any _ _).mono ?_; rintro e w1 ⟨rfl, rfl⟩) | (go_at_call 90; refine (isPlace_any _ _ _).mono ?_; rintro e w1 ⟨rfl, rfl⟩) | (go_at_call 91; first | (clear tk; refine (implName_any who _ HW.out).mono ?_; rintro e w1 ⟨rfl, rfl⟩) | (refine (implName_any item _ HI.out).mono ?_; rintro e w1 ⟨rfl, rfl⟩)) | (go_at_call 92; refine (isDay_any _ _).mono ?_; rintro e w1 ⟨rfl, rfl⟩) | (go_at_call 93; refine (isQtyA_any _ _).mono ?_; rintro e w1 ⟨rfl, rfl⟩) | (go_at_call 94; refine HSC.out.mono ?_; rintro e w1 ⟨rfl, b1⟩))
    go_returns
    exact ⟨ret_bool HV.out, by go_grown⟩
  cases hn2 : nameB item
  · have HV : Hid (false = ofB ⟨who, item, cur, fst, lst, lea, n, z⟩ curs) := hid (by simp [ofB, hn2])
    have tk : True := trivial
    go_enter Try.func24, Try.ntmps24
    go_wp2_with (first | (go_at_call 89; refine (isCurC_any _ _).mono ?_; rintro e w1 ⟨rfl, rfl⟩) | (go_at_call 90; refine (isPlace_any _ _ _).mono ?_; rintro e w1 ⟨rfl, rfl⟩) | (go_at_call 91; first | (clear tk; refine (implName_any who _ HW.out).mono ?_; rintro e w1 ⟨rfl, rfl⟩) | (refine (implName_any item _ HI.out).mono ?_; rintro e w1 ⟨rfl, rfl⟩)) | (go_at_call 92; refine (isDay_any _ _).mono ?_; rintro e w1 ⟨rfl, rfl⟩) | (go_at_call 93; refine (isQtyA_any _ _).mono ?_; rintro e w1 ⟨rfl, rfl⟩) | (go_at_call 94; refine HSC.out.mono ?_; rintro e w1 ⟨rfl, b1⟩))
    go_returns
    exact ⟨ret_bool HV.out, by go_grown⟩
  cases hf : inB fst 0 40000
  · have HV : Hid (false = ofB ⟨who, item, cur, fst, lst, lea, n, z⟩ curs) := hid (by simp [ofB, hf])
    have tk : True := trivial
    go_enter Try.func24, Try.ntmps24
    go_wp2_with (first | (go_at_call 89; refine (isCurC_any _ _).mono ?_; rintro e w1 ⟨rfl, rfl⟩) | (go_at_call 90; refine (isPlace_any _ _ _).mono ?_; rintro e w1 ⟨rfl, rfl⟩) | (go_at_call 91; first | (clear tk; refine (implName_any who _ HW.out).mono ?_; rintro e w1 ⟨rfl, rfl⟩) | (refine (implName_any item _ HI.out).mono ?_; rintro e w1 ⟨rfl, rfl⟩)) | (go_at_call 92; refine (isDay_any _ _).mono ?_; rintro e w1 ⟨rfl, rfl⟩) | (go_at_call 93; refine (isQtyA_any _ _).mono ?_; rintro e w1 ⟨rfl, rfl⟩) | (go_at_call 94; refine HSC.out.mono ?_; rintro e w1 ⟨rfl, b1⟩))
    go_returns
    exact ⟨ret_bool HV.out, by go_grown⟩
  cases hl : inB lst 0 40000
  · have HV : Hid (false = ofB ⟨who, item, cur, fst, lst, lea, n, z⟩ curs) := hid (by simp [ofB, hl])
    have tk : True := trivial
    go_enter Try.func24, Try.ntmps24
    go_wp2_with (first | (go_at_call 89; refine (isCurC_any _ _).mono ?_; rintro e w1 ⟨rfl, rfl⟩) | (go_at_call 90; refine (isPlace_any _ _ _).mono ?_; rintro e w1 ⟨rfl, rfl⟩) | (go_at_call 91; first | (clear tk; refine (implName_any who _ HW.out).mono ?_; rintro e w1 ⟨rfl, rfl⟩) | (refine (implName_any item _ HI.out).mono ?_; rintro e w1 ⟨rfl, rfl⟩)) | (go_at_call 92; refine (isDay_any _ _).mono ?_; rintro e w1 ⟨rfl, rfl⟩) | (go_at_call 93; refine (isQtyA_any _ _).mono ?_; rintro e w1 ⟨rfl, rfl⟩) | (go_at_call 94; refine HSC.out.mono ?_; rintro e w1 ⟨rfl, b1⟩))
    go_returns
    exact ⟨ret_bool HV.out, by go_grown⟩
  cases hle : decide (fst ≤ lst)
  · have HV : Hid (false = ofB ⟨who, item, cur, fst, lst, lea, n, z⟩ curs) := hid (by simp [ofB, hle])
    have hle2 : lst < fst := by have := of_decide_eq_false hle; omega
    clear hle
    have tk : True := trivial
    go_enter Try.func24, Try.ntmps24
    go_wp2_with (first | (go_at_call 89; refine (isCurC_any _ _).mono ?_; rintro e w1 ⟨rfl, rfl⟩) | (go_at_call 90; refine (isPlace_any _ _ _).mono ?_; rintro e w1 ⟨rfl, rfl⟩) | (go_at_call 91; first | (clear tk; refine (implName_any who _ HW.out).mono ?_; rintro e w1 ⟨rfl, rfl⟩) | (refine (implName_any item _ HI.out).mono ?_; rintro e w1 ⟨rfl, rfl⟩)) | (go_at_call 92; refine (isDay_any _ _).mono ?_; rintro e w1 ⟨rfl, rfl⟩) | (go_at_call 93; refine (isQtyA_any _ _).mono ?_; rintro e w1 ⟨rfl, rfl⟩) | (go_at_call 94; refine HSC.out.mono ?_; rintro e w1 ⟨rfl, b1⟩))
    go_returns
    exact ⟨ret_bool HV.out, by go_grown⟩
  cases hq : inB lea 1 1000000
  · have HV : Hid (false = ofB ⟨who, item, cur, fst, lst, lea, n, z⟩ curs) := hid (by simp [ofB, hq])
    have hle2 : fst ≤ lst := of_decide_eq_true hle
    clear hle
    have tk : True := trivial
    go_enter Try.func24, Try.ntmps24
    go_wp2_with (first | (go_at_call 89; refine (isCurC_any _ _).mono ?_; rintro e w1 ⟨rfl, rfl⟩) | (go_at_call 90; refine (isPlace_any _ _ _).mono ?_; rintro e w1 ⟨rfl, rfl⟩) | (go_at_call 91; first | (clear tk; refine (implName_any who _ HW.out).mono ?_; rintro e w1 ⟨rfl, rfl⟩) | (refine (implName_any item _ HI.out).mono ?_; rintro e w1 ⟨rfl, rfl⟩)) | (go_at_call 92; refine (isDay_any _ _).mono ?_; rintro e w1 ⟨rfl, rfl⟩) | (go_at_call 93; refine (isQtyA_any _ _).mono ?_; rintro e w1 ⟨rfl, rfl⟩) | (go_at_call 94; refine HSC.out.mono ?_; rintro e w1 ⟨rfl, b1⟩))
    go_returns
    exact ⟨ret_bool HV.out, by go_grown⟩
  have HV : Hid (scB n z lea = ofB ⟨who, item, cur, fst, lst, lea, n, z⟩ curs) := hid (by simp [ofB, hcu, hcr, hn1, hn2, hf, hl, hle, hq])
  have hle2 : fst ≤ lst := of_decide_eq_true hle
  clear hle
  have tk : True := trivial
  have HSC : Hid (Calls Try.prog 94 #[.slice ra n rc, .int .i64 lea] (w.alloc (.cells #[.string who, .string item, .int .i64 cur, .int .i64 fst, .int .i64 lst, .int .i64 lea, .slice ra n rc] 34 (0, 0))) fun e w' => e = .returned (.bool (scB n z lea)) ∧ Below (w.alloc (.cells #[.string who, .string item, .int .i64 cur, .int .i64 fst, .int .i64 lst, .int .i64 lea, .slice ra n rc] 34 (0, 0))).heap.size (w.alloc (.cells #[.string who, .string item, .int .i64 cur, .int .i64 fst, .int .i64 lst, .int .i64 lea, .slice ra n rc] 34 (0, 0))) w') := areScales_any _ _ _ _ _ _ h (HR.out.alloc _)
  go_enter Try.func24, Try.ntmps24
  go_wp2_with (first | (go_at_call 89; refine (isCurC_any _ _).mono ?_; rintro e w1 ⟨rfl, rfl⟩) | (go_at_call 90; refine (isPlace_any _ _ _).mono ?_; rintro e w1 ⟨rfl, rfl⟩) | (go_at_call 91; first | (clear tk; refine (implName_any who _ HW.out).mono ?_; rintro e w1 ⟨rfl, rfl⟩) | (refine (implName_any item _ HI.out).mono ?_; rintro e w1 ⟨rfl, rfl⟩)) | (go_at_call 92; refine (isDay_any _ _).mono ?_; rintro e w1 ⟨rfl, rfl⟩) | (go_at_call 93; refine (isQtyA_any _ _).mono ?_; rintro e w1 ⟨rfl, rfl⟩) | (go_at_call 94; refine HSC.out.mono ?_; rintro e w1 ⟨rfl, b1⟩))
  go_returns
  exact ⟨ret_bool HV.out, bel_on ((Below.refl _ _).alloc (Nat.le_refl _) _) b1⟩
set_option maxRecDepth 20000 in
set_option maxHeartbeats 8000000 in
theorem specOffer_any (who item : ByteArray) (cur fst lst lea : Int) (ra : Option Addr) (n rc : Nat) (z : Nat → SC2) (curs : Int) (w : World) (hwho : who.size ≤ maxLen) (hitem : item.size ≤ maxLen) (h : (n : Int) ≤ 1048576) (hr : SCr w ra n z) :
    Calls Try.prog 22 #[.agg #[.string who, .string item, .int .i64 cur, .int .i64 fst, .int .i64 lst, .int .i64 lea, .slice ra n rc], .int .i64 curs] w fun e w' => e = .returned (.bool (ofB ⟨who, item, cur, fst, lst, lea, n, z⟩ curs)) ∧ Below w.heap.size w w' := by
  have HR : Hid (SCr w ra n z) := hr
  have HW : Hid (who.size ≤ maxLen) := hwho
  have HI : Hid (item.size ≤ maxLen) := hitem
  clear hr hwho hitem
  cases hn1 : nameB who
  · have HV : Hid (false = ofB ⟨who, item, cur, fst, lst, lea, n, z⟩ curs) := hid (by simp [ofB, hn1])
    go_enter Try.func22, Try.ntmps22
    go_wp2
    have hC : CB (w.alloc (.cells #[.string who, .string item, .int .i64 cur, .int .i64 fst, .int .i64 lst, .int .i64 lea, .slice ra n rc] 34 (0, 0))) w.heap.size #[.string who, .string item, .int .i64 cur, .int .i64 fst, .int .i64 lst, .int .i64 lea, .slice ra n rc] 34 := CB.new _ _
    have hB : Below w.heap.size w (w.alloc (.cells #[.string who, .string item, .int .i64 cur, .int .i64 fst, .int .i64 lst, .int .i64 lea, .slice ra n rc] 34 (0, 0))) := (Below.refl _ _).alloc (Nat.le_refl _) _
    generalize w.alloc (.cells #[.string who, .string item, .int .i64 cur, .int .i64 fst, .int .i64 lst, .int .i64 lea, .slice ra n rc] 34 (0, 0)) = W0 at hC hB ⊢
    have b0 := (hC.cell 0).trans rfl
    have b1 := (hC.cell 1).trans rfl
    have b2 := (hC.cell 2).trans rfl
    have b3 := (hC.cell 3).trans rfl
    have b4 := (hC.cell 4).trans rfl
    have b5 := (hC.cell 5).trans rfl
    have b6 := (hC.cell 6).trans rfl
    have HB : Hid (Below w.heap.size w W0) := hB
    have HC0 : Hid (CB W0 w.heap.size #[.string who, .string item, .int .i64 cur, .int .i64 fst, .int .i64 lst, .int .i64 lea, .slice ra n rc] 34) := hC
    clear hC hB
    simp only [List.append]
    go_quiet (first | (go_at_call_of 86 who; exact Calls.quiet_of_same (specName_eq who _ _ HW.out hn1)) | (go_at_call_of 86 item; exact Calls.quiet_of_same (specName_eq item _ _ HI.out hn2)) | (go_at_call_of 67 cur; exact Calls.quiet_of_same (l1In_eq cur 0 (curs - 1) _ _ hcr)) | (go_at_call_of 67 curs; exact Calls.quiet_of_same (l1In_eq curs 1 20 _ _ hcu)) | (go_at_call_of 67 lea; exact Calls.quiet_of_same (l1In_eq lea 1 1000000 _ _ hq)) | (go_at_call_of 67 n; exact Calls.quiet_of_same (l1In_eq (n : Int) 1 12 _ _ hnn)) | (go_at_call_of 87 fst; exact Calls.quiet_of_same (l2Day_eq fst _ _ hf)) | (go_at_call_of 87 lst; exact Calls.quiet_of_same (l2Day_eq lst _ _ hl)))
    go_wp2
    go_returns
    exact ⟨ret_bool HV.out, bd_N HB.out _⟩
  cases hn2 : nameB item
  · have HV : Hid (false = ofB ⟨who, item, cur, fst, lst, lea, n, z⟩ curs) := hid (by simp [ofB, hn2])
    go_enter Try.func22, Try.ntmps22
    go_wp2
    have hC : CB (w.alloc (.cells #[.string who, .string item, .int .i64 cur, .int .i64 fst, .int .i64 lst, .int .i64 lea, .slice ra n rc] 34 (0, 0))) w.heap.size #[.string who, .string item, .int .i64 cur, .int .i64 fst, .int .i64 lst, .int .i64 lea, .slice ra n rc] 34 := CB.new _ _
    have hB : Below w.heap.size w (w.alloc (.cells #[.string who, .string item, .int .i64 cur, .int .i64 fst, .int .i64 lst, .int .i64 lea, .slice ra n rc] 34 (0, 0))) := (Below.refl _ _).alloc (Nat.le_refl _) _
    generalize w.alloc (.cells #[.string who, .string item, .int .i64 cur, .int .i64 fst, .int .i64 lst, .int .i64 lea, .slice ra n rc] 34 (0, 0)) = W0 at hC hB ⊢
    have b0 := (hC.cell 0).trans rfl
    have b1 := (hC.cell 1).trans rfl
    have b2 := (hC.cell 2).trans rfl
    have b3 := (hC.cell 3).trans rfl
    have b4 := (hC.cell 4).trans rfl
    have b5 := (hC.cell 5).trans rfl
    have b6 := (hC.cell 6).trans rfl
    have HB : Hid (Below w.heap.size w W0) := hB
    have HC0 : Hid (CB W0 w.heap.size #[.string who, .string item, .int .i64 cur, .int .i64 fst, .int .i64 lst, .int .i64 lea, .slice ra n rc] 34) := hC
    clear hC hB
    simp only [List.append]
    go_quiet (first | (go_at_call_of 86 who; exact Calls.quiet_of_same (specName_eq who _ _ HW.out hn1)) | (go_at_call_of 86 item; exact Calls.quiet_of_same (specName_eq item _ _ HI.out hn2)) | (go_at_call_of 67 cur; exact Calls.quiet_of_same (l1In_eq cur 0 (curs - 1) _ _ hcr)) | (go_at_call_of 67 curs; exact Calls.quiet_of_same (l1In_eq curs 1 20 _ _ hcu)) | (go_at_call_of 67 lea; exact Calls.quiet_of_same (l1In_eq lea 1 1000000 _ _ hq)) | (go_at_call_of 67 n; exact Calls.quiet_of_same (l1In_eq (n : Int) 1 12 _ _ hnn)) | (go_at_call_of 87 fst; exact Calls.quiet_of_same (l2Day_eq fst _ _ hf)) | (go_at_call_of 87 lst; exact Calls.quiet_of_same (l2Day_eq lst _ _ hl)))
    go_wp2
    go_returns
    exact ⟨ret_bool HV.out, bd_N HB.out _⟩
  cases hcu : inB curs 1 20
  · have HV : Hid (false = ofB ⟨who, item, cur, fst, lst, lea, n, z⟩ curs) := hid (by simp [ofB, hcu])
    go_enter Try.func22, Try.ntmps22
    go_wp2
    have hC : CB (w.alloc (.cells #[.string who, .string item, .int .i64 cur, .int .i64 fst, .int .i64 lst, .int .i64 lea, .slice ra n rc] 34 (0, 0))) w.heap.size #[.string who, .string item, .int .i64 cur, .int .i64 fst, .int .i64 lst, .int .i64 lea, .slice ra n rc] 34 := CB.new _ _
    have hB : Below w.heap.size w (w.alloc (.cells #[.string who, .string item, .int .i64 cur, .int .i64 fst, .int .i64 lst, .int .i64 lea, .slice ra n rc] 34 (0, 0))) := (Below.refl _ _).alloc (Nat.le_refl _) _
    generalize w.alloc (.cells #[.string who, .string item, .int .i64 cur, .int .i64 fst, .int .i64 lst, .int .i64 lea, .slice ra n rc] 34 (0, 0)) = W0 at hC hB ⊢
    have b0 := (hC.cell 0).trans rfl
    have b1 := (hC.cell 1).trans rfl
    have b2 := (hC.cell 2).trans rfl
    have b3 := (hC.cell 3).trans rfl
    have b4 := (hC.cell 4).trans rfl
    have b5 := (hC.cell 5).trans rfl
    have b6 := (hC.cell 6).trans rfl
    have HB : Hid (Below w.heap.size w W0) := hB
    have HC0 : Hid (CB W0 w.heap.size #[.string who, .string item, .int .i64 cur, .int .i64 fst, .int .i64 lst, .int .i64 lea, .slice ra n rc] 34) := hC
    clear hC hB
    simp only [List.append]
    go_quiet (first | (go_at_call_of 86 who; exact Calls.quiet_of_same (specName_eq who _ _ HW.out hn1)) | (go_at_call_of 86 item; exact Calls.quiet_of_same (specName_eq item _ _ HI.out hn2)) | (go_at_call_of 67 cur; exact Calls.quiet_of_same (l1In_eq cur 0 (curs - 1) _ _ hcr)) | (go_at_call_of 67 curs; exact Calls.quiet_of_same (l1In_eq curs 1 20 _ _ hcu)) | (go_at_call_of 67 lea; exact Calls.quiet_of_same (l1In_eq lea 1 1000000 _ _ hq)) | (go_at_call_of 67 n; exact Calls.quiet_of_same (l1In_eq (n : Int) 1 12 _ _ hnn)) | (go_at_call_of 87 fst; exact Calls.quiet_of_same (l2Day_eq fst _ _ hf)) | (go_at_call_of 87 lst; exact Calls.quiet_of_same (l2Day_eq lst _ _ hl)))
    go_wp2
    go_returns
    exact ⟨ret_bool HV.out, bd_N HB.out _⟩
  cases hcr : inB cur 0 (curs - 1)
  · have HV : Hid (false = ofB ⟨who, item, cur, fst, lst, lea, n, z⟩ curs) := hid (by simp [ofB, hcr])
    have hcu2 := inB_t hcu
    have hwc : IntKind.i64.wrap (curs - 1) = curs - 1 := IntWalk.i64_in _ ⟨by omega, by omega⟩
    go_enter Try.func22, Try.ntmps22
    go_wp2
    have hC : CB (w.alloc (.cells #[.string who, .string item, .int .i64 cur, .int .i64 fst, .int .i64 lst, .int .i64 lea, .slice ra n rc] 34 (0, 0))) w.heap.size #[.string who, .string item, .int .i64 cur, .int .i64 fst, .int .i64 lst, .int .i64 lea, .slice ra n rc] 34 := CB.new _ _
    have hB : Below w.heap.size w (w.alloc (.cells #[.string who, .string item, .int .i64 cur, .int .i64 fst, .int .i64 lst, .int .i64 lea, .slice ra n rc] 34 (0, 0))) := (Below.refl _ _).alloc (Nat.le_refl _) _
    generalize w.alloc (.cells #[.string who, .string item, .int .i64 cur, .int .i64 fst, .int .i64 lst, .int .i64 lea, .slice ra n rc] 34 (0, 0)) = W0 at hC hB ⊢
    have b0 := (hC.cell 0).trans rfl
    have b1 := (hC.cell 1).trans rfl
    have b2 := (hC.cell 2).trans rfl
    have b3 := (hC.cell 3).trans rfl
    have b4 := (hC.cell 4).trans rfl
    have b5 := (hC.cell 5).trans rfl
    have b6 := (hC.cell 6).trans rfl
    have HB : Hid (Below w.heap.size w W0) := hB
    have HC0 : Hid (CB W0 w.heap.size #[.string who, .string item, .int .i64 cur, .int .i64 fst, .int .i64 lst, .int .i64 lea, .slice ra n rc] 34) := hC
    clear hC hB
    simp only [List.append]
    go_quiet (first | (go_at_call_of 86 who; exact Calls.quiet_of_same (specName_eq who _ _ HW.out hn1)) | (go_at_call_of 86 item; exact Calls.quiet_of_same (specName_eq item _ _ HI.out hn2)) | (go_at_call_of 67 cur; exact Calls.quiet_of_same (l1In_eq cur 0 (curs - 1) _ _ hcr)) | (go_at_call_of 67 curs; exact Calls.quiet_of_same (l1In_eq curs 1 20 _ _ hcu)) | (go_at_call_of 67 lea; exact Calls.quiet_of_same (l1In_eq lea 1 1000000 _ _ hq)) | (go_at_call_of 67 n; exact Calls.quiet_of_same (l1In_eq (n : Int) 1 12 _ _ hnn)) | (go_at_call_of 87 fst; exact Calls.quiet_of_same (l2Day_eq fst _ _ hf)) | (go_at_call_of 87 lst; exact Calls.quiet_of_same (l2Day_eq lst _ _ hl)))
    go_wp2
    go_returns
    exact ⟨ret_bool HV.out, bd_N HB.out _⟩
  cases hf : inB fst 0 40000
  · have HV : Hid (false = ofB ⟨who, item, cur, fst, lst, lea, n, z⟩ curs) := hid (by simp [ofB, hf])
    have hcu2 := inB_t hcu
    have hwc : IntKind.i64.wrap (curs - 1) = curs - 1 := IntWalk.i64_in _ ⟨by omega, by omega⟩
    go_enter Try.func22, Try.ntmps22
    go_wp2
    have hC : CB (w.alloc (.cells #[.string who, .string item, .int .i64 cur, .int .i64 fst, .int .i64 lst, .int .i64 lea, .slice ra n rc] 34 (0, 0))) w.heap.size #[.string who, .string item, .int .i64 cur, .int .i64 fst, .int .i64 lst, .int .i64 lea, .slice ra n rc] 34 := CB.new _ _
    have hB : Below w.heap.size w (w.alloc (.cells #[.string who, .string item, .int .i64 cur, .int .i64 fst, .int .i64 lst, .int .i64 lea, .slice ra n rc] 34 (0, 0))) := (Below.refl _ _).alloc (Nat.le_refl _) _
    generalize w.alloc (.cells #[.string who, .string item, .int .i64 cur, .int .i64 fst, .int .i64 lst, .int .i64 lea, .slice ra n rc] 34 (0, 0)) = W0 at hC hB ⊢
    have b0 := (hC.cell 0).trans rfl
    have b1 := (hC.cell 1).trans rfl
    have b2 := (hC.cell 2).trans rfl
    have b3 := (hC.cell 3).trans rfl
    have b4 := (hC.cell 4).trans rfl
    have b5 := (hC.cell 5).trans rfl
    have b6 := (hC.cell 6).trans rfl
    have HB : Hid (Below w.heap.size w W0) := hB
    have HC0 : Hid (CB W0 w.heap.size #[.string who, .string item, .int .i64 cur, .int .i64 fst, .int .i64 lst, .int .i64 lea, .slice ra n rc] 34) := hC
    clear hC hB
    simp only [List.append]
    go_quiet (first | (go_at_call_of 86 who; exact Calls.quiet_of_same (specName_eq who _ _ HW.out hn1)) | (go_at_call_of 86 item; exact Calls.quiet_of_same (specName_eq item _ _ HI.out hn2)) | (go_at_call_of 67 cur; exact Calls.quiet_of_same (l1In_eq cur 0 (curs - 1) _ _ hcr)) | (go_at_call_of 67 curs; exact Calls.quiet_of_same (l1In_eq curs 1 20 _ _ hcu)) | (go_at_call_of 67 lea; exact Calls.quiet_of_same (l1In_eq lea 1 1000000 _ _ hq)) | (go_at_call_of 67 n; exact Calls.quiet_of_same (l1In_eq (n : Int) 1 12 _ _ hnn)) | (go_at_call_of 87 fst; exact Calls.quiet_of_same (l2Day_eq fst _ _ hf)) | (go_at_call_of 87 lst; exact Calls.quiet_of_same (l2Day_eq lst _ _ hl)))
    go_wp2
    go_returns
    exact ⟨ret_bool HV.out, bd_N HB.out _⟩
  cases hl : inB lst 0 40000
  · have HV : Hid (false = ofB ⟨who, item, cur, fst, lst, lea, n, z⟩ curs) := hid (by simp [ofB, hl])
    have hcu2 := inB_t hcu
    have hwc : IntKind.i64.wrap (curs - 1) = curs - 1 := IntWalk.i64_in _ ⟨by omega, by omega⟩
    go_enter Try.func22, Try.ntmps22
    go_wp2
    have hC : CB (w.alloc (.cells #[.string who, .string item, .int .i64 cur, .int .i64 fst, .int .i64 lst, .int .i64 lea, .slice ra n rc] 34 (0, 0))) w.heap.size #[.string who, .string item, .int .i64 cur, .int .i64 fst, .int .i64 lst, .int .i64 lea, .slice ra n rc] 34 := CB.new _ _
    have hB : Below w.heap.size w (w.alloc (.cells #[.string who, .string item, .int .i64 cur, .int .i64 fst, .int .i64 lst, .int .i64 lea, .slice ra n rc] 34 (0, 0))) := (Below.refl _ _).alloc (Nat.le_refl _) _
    generalize w.alloc (.cells #[.string who, .string item, .int .i64 cur, .int .i64 fst, .int .i64 lst, .int .i64 lea, .slice ra n rc] 34 (0, 0)) = W0 at hC hB ⊢
    have b0 := (hC.cell 0).trans rfl
    have b1 := (hC.cell 1).trans rfl
    have b2 := (hC.cell 2).trans rfl
    have b3 := (hC.cell 3).trans rfl
    have b4 := (hC.cell 4).trans rfl
    have b5 := (hC.cell 5).trans rfl
    have b6 := (hC.cell 6).trans rfl
    have HB : Hid (Below w.heap.size w W0) := hB
    have HC0 : Hid (CB W0 w.heap.size #[.string who, .string item, .int .i64 cur, .int .i64 fst, .int .i64 lst, .int .i64 lea, .slice ra n rc] 34) := hC
    clear hC hB
    simp only [List.append]
    go_quiet (first | (go_at_call_of 86 who; exact Calls.quiet_of_same (specName_eq who _ _ HW.out hn1)) | (go_at_call_of 86 item; exact Calls.quiet_of_same (specName_eq item _ _ HI.out hn2)) | (go_at_call_of 67 cur; exact Calls.quiet_of_same (l1In_eq cur 0 (curs - 1) _ _ hcr)) | (go_at_call_of 67 curs; exact Calls.quiet_of_same (l1In_eq curs 1 20 _ _ hcu)) | (go_at_call_of 67 lea; exact Calls.quiet_of_same (l1In_eq lea 1 1000000 _ _ hq)) | (go_at_call_of 67 n; exact Calls.quiet_of_same (l1In_eq (n : Int) 1 12 _ _ hnn)) | (go_at_call_of 87 fst; exact Calls.quiet_of_same (l2Day_eq fst _ _ hf)) | (go_at_call_of 87 lst; exact Calls.quiet_of_same (l2Day_eq lst _ _ hl)))
    go_wp2
    go_returns
    exact ⟨ret_bool HV.out, bd_N HB.out _⟩
  cases hle : decide (fst ≤ lst)
  · have HV : Hid (false = ofB ⟨who, item, cur, fst, lst, lea, n, z⟩ curs) := hid (by simp [ofB, hle])
    have hle2 : decide (lst < fst) = true := by have := of_decide_eq_false hle; simp; omega
    clear hle
    have hcu2 := inB_t hcu
    have hwc : IntKind.i64.wrap (curs - 1) = curs - 1 := IntWalk.i64_in _ ⟨by omega, by omega⟩
    go_enter Try.func22, Try.ntmps22
    go_wp2
    have hC : CB (w.alloc (.cells #[.string who, .string item, .int .i64 cur, .int .i64 fst, .int .i64 lst, .int .i64 lea, .slice ra n rc] 34 (0, 0))) w.heap.size #[.string who, .string item, .int .i64 cur, .int .i64 fst, .int .i64 lst, .int .i64 lea, .slice ra n rc] 34 := CB.new _ _
    have hB : Below w.heap.size w (w.alloc (.cells #[.string who, .string item, .int .i64 cur, .int .i64 fst, .int .i64 lst, .int .i64 lea, .slice ra n rc] 34 (0, 0))) := (Below.refl _ _).alloc (Nat.le_refl _) _
    generalize w.alloc (.cells #[.string who, .string item, .int .i64 cur, .int .i64 fst, .int .i64 lst, .int .i64 lea, .slice ra n rc] 34 (0, 0)) = W0 at hC hB ⊢
    have b0 := (hC.cell 0).trans rfl
    have b1 := (hC.cell 1).trans rfl
    have b2 := (hC.cell 2).trans rfl
    have b3 := (hC.cell 3).trans rfl
    have b4 := (hC.cell 4).trans rfl
    have b5 := (hC.cell 5).trans rfl
    have b6 := (hC.cell 6).trans rfl
    have HB : Hid (Below w.heap.size w W0) := hB
    have HC0 : Hid (CB W0 w.heap.size #[.string who, .string item, .int .i64 cur, .int .i64 fst, .int .i64 lst, .int .i64 lea, .slice ra n rc] 34) := hC
    clear hC hB
    simp only [List.append]
    go_quiet (first | (go_at_call_of 86 who; exact Calls.quiet_of_same (specName_eq who _ _ HW.out hn1)) | (go_at_call_of 86 item; exact Calls.quiet_of_same (specName_eq item _ _ HI.out hn2)) | (go_at_call_of 67 cur; exact Calls.quiet_of_same (l1In_eq cur 0 (curs - 1) _ _ hcr)) | (go_at_call_of 67 curs; exact Calls.quiet_of_same (l1In_eq curs 1 20 _ _ hcu)) | (go_at_call_of 67 lea; exact Calls.quiet_of_same (l1In_eq lea 1 1000000 _ _ hq)) | (go_at_call_of 67 n; exact Calls.quiet_of_same (l1In_eq (n : Int) 1 12 _ _ hnn)) | (go_at_call_of 87 fst; exact Calls.quiet_of_same (l2Day_eq fst _ _ hf)) | (go_at_call_of 87 lst; exact Calls.quiet_of_same (l2Day_eq lst _ _ hl)))
    go_wp2
    go_returns
    exact ⟨ret_bool HV.out, bd_N HB.out _⟩
  cases hq : inB lea 1 1000000
  · have HV : Hid (false = ofB ⟨who, item, cur, fst, lst, lea, n, z⟩ curs) := hid (by simp [ofB, hq])
    have hle2 : decide (lst < fst) = false := by have := of_decide_eq_true hle; simp; omega
    clear hle
    have hcu2 := inB_t hcu
    have hwc : IntKind.i64.wrap (curs - 1) = curs - 1 := IntWalk.i64_in _ ⟨by omega, by omega⟩
    go_enter Try.func22, Try.ntmps22
    go_wp2
    have hC : CB (w.alloc (.cells #[.string who, .string item, .int .i64 cur, .int .i64 fst, .int .i64 lst, .int .i64 lea, .slice ra n rc] 34 (0, 0))) w.heap.size #[.string who, .string item, .int .i64 cur, .int .i64 fst, .int .i64 lst, .int .i64 lea, .slice ra n rc] 34 := CB.new _ _
    have hB : Below w.heap.size w (w.alloc (.cells #[.string who, .string item, .int .i64 cur, .int .i64 fst, .int .i64 lst, .int .i64 lea, .slice ra n rc] 34 (0, 0))) := (Below.refl _ _).alloc (Nat.le_refl _) _
    generalize w.alloc (.cells #[.string who, .string item, .int .i64 cur, .int .i64 fst, .int .i64 lst, .int .i64 lea, .slice ra n rc] 34 (0, 0)) = W0 at hC hB ⊢
    have b0 := (hC.cell 0).trans rfl
    have b1 := (hC.cell 1).trans rfl
    have b2 := (hC.cell 2).trans rfl
    have b3 := (hC.cell 3).trans rfl
    have b4 := (hC.cell 4).trans rfl
    have b5 := (hC.cell 5).trans rfl
    have b6 := (hC.cell 6).trans rfl
    have HB : Hid (Below w.heap.size w W0) := hB
    have HC0 : Hid (CB W0 w.heap.size #[.string who, .string item, .int .i64 cur, .int .i64 fst, .int .i64 lst, .int .i64 lea, .slice ra n rc] 34) := hC
    clear hC hB
    simp only [List.append]
    go_quiet (first | (go_at_call_of 86 who; exact Calls.quiet_of_same (specName_eq who _ _ HW.out hn1)) | (go_at_call_of 86 item; exact Calls.quiet_of_same (specName_eq item _ _ HI.out hn2)) | (go_at_call_of 67 cur; exact Calls.quiet_of_same (l1In_eq cur 0 (curs - 1) _ _ hcr)) | (go_at_call_of 67 curs; exact Calls.quiet_of_same (l1In_eq curs 1 20 _ _ hcu)) | (go_at_call_of 67 lea; exact Calls.quiet_of_same (l1In_eq lea 1 1000000 _ _ hq)) | (go_at_call_of 67 n; exact Calls.quiet_of_same (l1In_eq (n : Int) 1 12 _ _ hnn)) | (go_at_call_of 87 fst; exact Calls.quiet_of_same (l2Day_eq fst _ _ hf)) | (go_at_call_of 87 lst; exact Calls.quiet_of_same (l2Day_eq lst _ _ hl)))
    go_wp2
    go_returns
    exact ⟨ret_bool HV.out, bd_N HB.out _⟩
  cases hnn : inB (n : Int) 1 12
  · have HV : Hid (false = ofB ⟨who, item, cur, fst, lst, lea, n, z⟩ curs) := hid (by have : scB n z lea = false := scB_f (fun H => inB_f hnn ⟨by have := H.1; omega, by have := H.2.1; omega⟩); simp [ofB, this])
    have hle2 : decide (lst < fst) = false := by have := of_decide_eq_true hle; simp; omega
    clear hle
    have hcu2 := inB_t hcu
    have hwc : IntKind.i64.wrap (curs - 1) = curs - 1 := IntWalk.i64_in _ ⟨by omega, by omega⟩
    go_enter Try.func22, Try.ntmps22
    go_wp2
    have hC : CB (w.alloc (.cells #[.string who, .string item, .int .i64 cur, .int .i64 fst, .int .i64 lst, .int .i64 lea, .slice ra n rc] 34 (0, 0))) w.heap.size #[.string who, .string item, .int .i64 cur, .int .i64 fst, .int .i64 lst, .int .i64 lea, .slice ra n rc] 34 := CB.new _ _
    have hB : Below w.heap.size w (w.alloc (.cells #[.string who, .string item, .int .i64 cur, .int .i64 fst, .int .i64 lst, .int .i64 lea, .slice ra n rc] 34 (0, 0))) := (Below.refl _ _).alloc (Nat.le_refl _) _
    generalize w.alloc (.cells #[.string who, .string item, .int .i64 cur, .int .i64 fst, .int .i64 lst, .int .i64 lea, .slice ra n rc] 34 (0, 0)) = W0 at hC hB ⊢
    have b0 := (hC.cell 0).trans rfl
    have b1 := (hC.cell 1).trans rfl
    have b2 := (hC.cell 2).trans rfl
    have b3 := (hC.cell 3).trans rfl
    have b4 := (hC.cell 4).trans rfl
    have b5 := (hC.cell 5).trans rfl
    have b6 := (hC.cell 6).trans rfl
    have HB : Hid (Below w.heap.size w W0) := hB
    have HC0 : Hid (CB W0 w.heap.size #[.string who, .string item, .int .i64 cur, .int .i64 fst, .int .i64 lst, .int .i64 lea, .slice ra n rc] 34) := hC
    clear hC hB
    simp only [List.append]
    go_quiet (first | (go_at_call_of 86 who; exact Calls.quiet_of_same (specName_eq who _ _ HW.out hn1)) | (go_at_call_of 86 item; exact Calls.quiet_of_same (specName_eq item _ _ HI.out hn2)) | (go_at_call_of 67 cur; exact Calls.quiet_of_same (l1In_eq cur 0 (curs - 1) _ _ hcr)) | (go_at_call_of 67 curs; exact Calls.quiet_of_same (l1In_eq curs 1 20 _ _ hcu)) | (go_at_call_of 67 lea; exact Calls.quiet_of_same (l1In_eq lea 1 1000000 _ _ hq)) | (go_at_call_of 67 n; exact Calls.quiet_of_same (l1In_eq (n : Int) 1 12 _ _ hnn)) | (go_at_call_of 87 fst; exact Calls.quiet_of_same (l2Day_eq fst _ _ hf)) | (go_at_call_of 87 lst; exact Calls.quiet_of_same (l2Day_eq lst _ _ hl)))
    go_wp2
    go_returns
    exact ⟨ret_bool HV.out, bd_N HB.out _⟩
  have HOF : Hid (scB n z lea = ofB ⟨who, item, cur, fst, lst, lea, n, z⟩ curs) := hid (by simp [ofB, hn1, hn2, hcu, hcr, hf, hl, hle, hq])
  have hle2 : decide (lst < fst) = false := by have := of_decide_eq_true hle; simp; omega
  clear hle
  have hcu2 := inB_t hcu
  have hwc : IntKind.i64.wrap (curs - 1) = curs - 1 := IntWalk.i64_in _ ⟨by omega, by omega⟩
  have hnb := inB_t hnn
  obtain ⟨kb, off, rfl, hkb⟩ := HR.out.addr (by omega)
  obtain ⟨a0, a1⟩ := HR.out.cell (j := 0) (by omega)
  obtain ⟨x, hx⟩ : ∃ x, (z 0).from_ = x := ⟨_, rfl⟩
  rw [hx] at a0
  have HXX : Hid ((z 0).from_ = x) := hx
  simp only [Nat.zero_mul, Nat.add_zero] at a0
  clear a1 hx
  by_cases hxl : x = lea
  · have HL : Hid ((z 0).from_ = lea) := hid (HXX.out.trans hxl)
    have hxe := eq_t hxl
    have hxn : (x != lea) = false := by simp [hxl]
    clear hxl
    go_enter Try.func22, Try.ntmps22
    go_wp2
    have hC : CB (w.alloc (.cells #[.string who, .string item, .int .i64 cur, .int .i64 fst, .int .i64 lst, .int .i64 lea, .slice (some ⟨kb, off, none⟩) n rc] 34 (0, 0))) w.heap.size #[.string who, .string item, .int .i64 cur, .int .i64 fst, .int .i64 lst, .int .i64 lea, .slice (some ⟨kb, off, none⟩) n rc] 34 := CB.new _ _
    have hB : Below w.heap.size w (w.alloc (.cells #[.string who, .string item, .int .i64 cur, .int .i64 fst, .int .i64 lst, .int .i64 lea, .slice (some ⟨kb, off, none⟩) n rc] 34 (0, 0))) := (Below.refl _ _).alloc (Nat.le_refl _) _
    have a0 := cell_new (o := .cells #[.string who, .string item, .int .i64 cur, .int .i64 fst, .int .i64 lst, .int .i64 lea, .slice (some ⟨kb, off, none⟩) n rc] 34 (0, 0)) a0
    generalize w.alloc (.cells #[.string who, .string item, .int .i64 cur, .int .i64 fst, .int .i64 lst, .int .i64 lea, .slice (some ⟨kb, off, none⟩) n rc] 34 (0, 0)) = W0 at hC hB a0 ⊢
    have b0 := (hC.cell 0).trans rfl
    have b1 := (hC.cell 1).trans rfl
    have b2 := (hC.cell 2).trans rfl
    have b3 := (hC.cell 3).trans rfl
    have b4 := (hC.cell 4).trans rfl
    have b5 := (hC.cell 5).trans rfl
    have b6 := (hC.cell 6).trans rfl
    have HB : Hid (Below w.heap.size w W0) := hB
    have HC0 : Hid (CB W0 w.heap.size #[.string who, .string item, .int .i64 cur, .int .i64 fst, .int .i64 lst, .int .i64 lea, .slice (some ⟨kb, off, none⟩) n rc] 34) := hC
    clear hC hB
    simp only [List.append]
    go_quiet (first | (go_at_call_of 86 who; exact Calls.quiet_of_same (specName_eq who _ _ HW.out hn1)) | (go_at_call_of 86 item; exact Calls.quiet_of_same (specName_eq item _ _ HI.out hn2)) | (go_at_call_of 67 cur; exact Calls.quiet_of_same (l1In_eq cur 0 (curs - 1) _ _ hcr)) | (go_at_call_of 67 curs; exact Calls.quiet_of_same (l1In_eq curs 1 20 _ _ hcu)) | (go_at_call_of 67 lea; exact Calls.quiet_of_same (l1In_eq lea 1 1000000 _ _ hq)) | (go_at_call_of 67 n; exact Calls.quiet_of_same (l1In_eq (n : Int) 1 12 _ _ hnn)) | (go_at_call_of 87 fst; exact Calls.quiet_of_same (l2Day_eq fst _ _ hf)) | (go_at_call_of 87 lst; exact Calls.quiet_of_same (l2Day_eq lst _ _ hl)))
    go_wp2
    clear hnn hq hl hf hcr hcu hn1 hn2 b0 b1 b2 b3 b4 b5 b6 a0 hle2 hxn hxe hwc
    go_loopw [5] (fun i wr => ∃ (k : Nat), k ≤ n ∧ i = .int .i64 (k : Int) ∧ Hid ((∀ j, j < k → scOk z j = true) ∧ Below w.heap.size w wr) ∧ CB wr w.heap.size #[.string who, .string item, .int .i64 cur, .int .i64 fst, .int .i64 lst, .int .i64 lea, .slice (some ⟨kb, off, none⟩) n rc] 34) (fun i _ => n - (intOf i).toNat)
    case atStart => exact ⟨0, Nat.zero_le _, rfl, ⟨fun j hj => by omega, bd_N HB.out _⟩, HC0.out⟩
    case round =>
      obtain ⟨k, hk, rfl, HH, HC⟩ := hrel
      have b6 := (HC.cell 6).trans rfl
      have HC2 : Hid (CB wr w.heap.size #[.string who, .string item, .int .i64 cur, .int .i64 fst, .int .i64 lst, .int .i64 lea, .slice (some ⟨kb, off, none⟩) n rc] 34) := HC
      clear HC
      obtain ⟨W, rfl⟩ : ∃ x, x = wr := ⟨wr, rfl⟩
      by_cases hlt : k < n
      · have hlt2 : (k : Int) < (n : Int) := by omega
        have k0 := (HR.out.below HH.out.2).cell hlt
        obtain ⟨e, he⟩ : ∃ e, z k = e := ⟨_, rfl⟩
        rw [he] at k0
        obtain ⟨f, p⟩ := e
        have HX : Hid (z k = ⟨f, p⟩) := he
        obtain ⟨c0, c1⟩ := k0
        simp only at c0 c1
        clear he
        cases hqq : inB f 0 1000000
        · have HV : Hid (scB n z lea = false) := hid (scB_bad hlt (sc_q HX.out hqq))
          go_wp2
          go_quiet (first | (go_at_call 81; exact Calls.quiet_of_same (l12Qty_eq _ _ _ hqq)) | (go_at_call 80; exact Calls.quiet_of_same (l12Price_eq _ _ _ hpp)))
          go_wp2
          go_returns
          exact ⟨ret_bool (HV.out.symm.trans HOF.out), bd_N HH.out.2 _⟩
        cases hpp : inB p 0 100000
        · have HV : Hid (scB n z lea = false) := hid (scB_bad hlt (sc_p HX.out hpp))
          go_wp2
          go_quiet (first | (go_at_call 81; exact Calls.quiet_of_same (l12Qty_eq _ _ _ hqq)) | (go_at_call 80; exact Calls.quiet_of_same (l12Price_eq _ _ _ hpp)))
          go_wp2
          go_returns
          exact ⟨ret_bool (HV.out.symm.trans HOF.out), bd_N HH.out.2 _⟩
        by_cases h0 : k = 0
        · have HG : Hid (∀ j, j < k + 1 → scOk z j = true) := hid (sc_step HH.out.1 (by subst h0; exact sc_0 HX.out hqq hpp))
          have hz1 : decide (0 < k) = false := by simp [h0]
          have hz2 : decide ((0 : Int) < (k : Int)) = false := by simp [h0]
          clear h0
          go_wp2
          go_quiet (first | (go_at_call 81; exact Calls.quiet_of_same (l12Qty_eq _ _ _ hqq)) | (go_at_call 80; exact Calls.quiet_of_same (l12Price_eq _ _ _ hpp)))
          go_wp2
          go_roundw
          case rel => exact ⟨k + 1, by omega, by go_num, ⟨HG.out, bd_N HH.out.2 _⟩, HC2.out⟩
          case measure => simp [intOf]; omega
        obtain ⟨m, hm⟩ : ∃ m, k = m + 1 := ⟨k - 1, by omega⟩
        have HM : Hid (k = m + 1) := hm
        have hwm : IntKind.i64.wrap ((k : Int) - 1) = (m : Int) := by rw [show (k : Int) - 1 = (m : Int) by omega]; exact IntWalk.i64_in _ ⟨by omega, by omega⟩
        have hz1 : decide (0 < k) = true := by simp; omega
        have hz2 : decide ((0 : Int) < (k : Int)) = true := by simp; omega
        have hmn : (m : Int) < (n : Int) := by omega
        have hm0 : (0 : Int) ≤ (m : Int) := by omega
        obtain ⟨d0, d1⟩ := (HR.out.below HH.out.2).cell (j := m) (by omega)
        obtain ⟨g, hg⟩ : ∃ g, (z m).from_ = g := ⟨_, rfl⟩
        have HGm : Hid ((z m).from_ = g) := hg
        rw [hg] at d0
        clear hg hm d1 h0
        by_cases hfg : f ≤ g
        · have HV : Hid (scB n z lea = false) := hid (scB_bad hlt (sc_o HX.out HM.out (by rw [HGm.out]; exact hfg)))
          have hd : decide (f ≤ g) = true := decide_eq_true hfg
          go_wp2
          go_quiet (first | (go_at_call 81; exact Calls.quiet_of_same (l12Qty_eq _ _ _ hqq)) | (go_at_call 80; exact Calls.quiet_of_same (l12Price_eq _ _ _ hpp)))
          go_wp2
          go_returns
          exact ⟨ret_bool (HV.out.symm.trans HOF.out), bd_N HH.out.2 _⟩
        · have HG : Hid (∀ j, j < k + 1 → scOk z j = true) := hid (sc_step HH.out.1 (sc_1 HX.out HM.out hqq hpp (by rw [HGm.out]; omega)))
          have hd : decide (f ≤ g) = false := decide_eq_false hfg
          clear hfg
          go_wp2
          go_quiet (first | (go_at_call 81; exact Calls.quiet_of_same (l12Qty_eq _ _ _ hqq)) | (go_at_call 80; exact Calls.quiet_of_same (l12Price_eq _ _ _ hpp)))
          go_wp2
          go_roundw
          case rel => exact ⟨k + 1, by omega, by go_num, ⟨HG.out, bd_N HH.out.2 _⟩, HC2.out⟩
          case measure => simp [intOf]; omega
      · obtain rfl : k = n := by omega
        have lkk : ¬ (k : Int) < (k : Int) := by omega
        have HV : Hid (scB k z lea = true) := hid (scB_t ⟨by omega, by omega, HL.out, HH.out.1⟩)
        go_wp2
        go_returns
        exact ⟨ret_bool (HV.out.symm.trans HOF.out), HH.out.2⟩
  · have HV : Hid (scB n z lea = false) := hid (scB_f fun H => hxl (HXX.out.symm.trans H.2.2.1))
    have hxe := eq_f hxl
    have hxn : (x != lea) = true := by simp [hxl]
    clear hxl
    go_enter Try.func22, Try.ntmps22
    go_wp2
    have hC : CB (w.alloc (.cells #[.string who, .string item, .int .i64 cur, .int .i64 fst, .int .i64 lst, .int .i64 lea, .slice (some ⟨kb, off, none⟩) n rc] 34 (0, 0))) w.heap.size #[.string who, .string item, .int .i64 cur, .int .i64 fst, .int .i64 lst, .int .i64 lea, .slice (some ⟨kb, off, none⟩) n rc] 34 := CB.new _ _
    have hB : Below w.heap.size w (w.alloc (.cells #[.string who, .string item, .int .i64 cur, .int .i64 fst, .int .i64 lst, .int .i64 lea, .slice (some ⟨kb, off, none⟩) n rc] 34 (0, 0))) := (Below.refl _ _).alloc (Nat.le_refl _) _
    have a0 := cell_new (o := .cells #[.string who, .string item, .int .i64 cur, .int .i64 fst, .int .i64 lst, .int .i64 lea, .slice (some ⟨kb, off, none⟩) n rc] 34 (0, 0)) a0
    generalize w.alloc (.cells #[.string who, .string item, .int .i64 cur, .int .i64 fst, .int .i64 lst, .int .i64 lea, .slice (some ⟨kb, off, none⟩) n rc] 34 (0, 0)) = W0 at hC hB a0 ⊢
    have b0 := (hC.cell 0).trans rfl
    have b1 := (hC.cell 1).trans rfl
    have b2 := (hC.cell 2).trans rfl
    have b3 := (hC.cell 3).trans rfl
    have b4 := (hC.cell 4).trans rfl
    have b5 := (hC.cell 5).trans rfl
    have b6 := (hC.cell 6).trans rfl
    have HB : Hid (Below w.heap.size w W0) := hB
    have HC0 : Hid (CB W0 w.heap.size #[.string who, .string item, .int .i64 cur, .int .i64 fst, .int .i64 lst, .int .i64 lea, .slice (some ⟨kb, off, none⟩) n rc] 34) := hC
    clear hC hB
    simp only [List.append]
    go_quiet (first | (go_at_call_of 86 who; exact Calls.quiet_of_same (specName_eq who _ _ HW.out hn1)) | (go_at_call_of 86 item; exact Calls.quiet_of_same (specName_eq item _ _ HI.out hn2)) | (go_at_call_of 67 cur; exact Calls.quiet_of_same (l1In_eq cur 0 (curs - 1) _ _ hcr)) | (go_at_call_of 67 curs; exact Calls.quiet_of_same (l1In_eq curs 1 20 _ _ hcu)) | (go_at_call_of 67 lea; exact Calls.quiet_of_same (l1In_eq lea 1 1000000 _ _ hq)) | (go_at_call_of 67 n; exact Calls.quiet_of_same (l1In_eq (n : Int) 1 12 _ _ hnn)) | (go_at_call_of 87 fst; exact Calls.quiet_of_same (l2Day_eq fst _ _ hf)) | (go_at_call_of 87 lst; exact Calls.quiet_of_same (l2Day_eq lst _ _ hl)))
    go_wp2
    go_returns
    exact ⟨ret_bool (HV.out.symm.trans HOF.out), bd_N HB.out _⟩
end Go.Proofs.Ytghphlnpginmhaa
