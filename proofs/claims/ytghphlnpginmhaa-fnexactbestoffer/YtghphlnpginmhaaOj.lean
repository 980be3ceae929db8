/- What a quantity of an offer costs: the program's and the model's OfferPrice answer 'opV' and 'opB'. -/
import Derived.Test.YtghphlnpginmhaaOh
namespace Go.Proofs.Ytghphlnpginmhaa
open Go.ChangeShapes Go.WideShapes Go.ChangeAt Go.RowKit
set_option linter.unusedVariables false
set_option linter.unusedSimpArgs false

def prF (z : Nat → SC2) (q : Int) : Nat → Int
  | 0 => 0
  | k + 1 => if (z k).from_ ≤ q then (z k).price else prF z q k
theorem prF_t {z : Nat → SC2} {q f p : Int} {k : Nat} (hz : z k = ⟨f, p⟩) (h : f ≤ q) : prF z q (k + 1) = p := by unfold prF; rw [hz]; exact if_pos h
theorem prF_f {z : Nat → SC2} {q f p : Int} {k : Nat} (hz : z k = ⟨f, p⟩) (h : ¬ f ≤ q) : prF z q (k + 1) = prF z q k := by conv => lhs; unfold prF
                                                                                                                            rw [hz]; exact if_neg h
theorem scOk_p {z : Nat → SC2} {i : Nat} (h : scOk z i = true) : 0 ≤ (z i).price ∧ (z i).price ≤ 100000 := by
  unfold scOk at h; simp only [Bool.and_eq_true] at h; exact inB_t h.2.1
theorem prF_bd {z : Nat → SC2} {q : Int} : ∀ {n : Nat}, (∀ i, i < n → scOk z i = true) → 0 ≤ prF z q n ∧ prF z q n ≤ 100000
  | 0, _ => by unfold prF; omega
  | n + 1, h => by
    unfold prF
    split
    · exact scOk_p (h n (by omega))
    · exact prF_bd (fun i hi => h i (by omega))
noncomputable def opB (o : OF) (curs q : Int) : Bool := ofB o curs && (inB q 0 1000000 && decide (o.lea ≤ q))
noncomputable def opV (o : OF) (curs q : Int) : Int := if opB o curs q = true then q * prF o.rz q o.rn else 0
theorem op_no {o : OF} {curs q : Int} (h : opB o curs q = false) : opV o curs q = 0 := by unfold opV; rw [h]; exact if_neg (by decide)
theorem op_yes {o : OF} {curs q : Int} (h : opB o curs q = true) : opV o curs q = q * prF o.rz q o.rn := if_pos h
theorem mulq_bd {a b A B : Int} (h1 : 0 ≤ a) (h2 : a ≤ A) (h3 : 0 ≤ b) (h4 : b ≤ B) : 0 ≤ a * b ∧ a * b ≤ A * B := ⟨Int.mul_nonneg h1 h3, Int.mul_le_mul h2 h4 h3 (by omega)⟩
theorem ofB_sc {o : OF} {curs : Int} (h : ofB o curs = true) : ScP o.rn o.rz o.lea := by
  unfold ofB at h; simp only [Bool.and_eq_true] at h; exact scB_p h.2.2.2.2.2.2.2.2
theorem box_bl {w w1 : World} {bs : Array Value} {s : TypeId} (b : Below (w.alloc (.cells bs s (0, 0))).heap.size (w.alloc (.cells bs s (0, 0))) w1) : CB w1 w.heap.size bs s ∧ Below w.heap.size w w1 :=
  ⟨(CB.new bs s).below b (by simp), bel_on ((Below.refl _ _).alloc (Nat.le_refl _) _) b⟩
theorem ret_ib {a b : Int} {c d : Bool} (h : a = b) (k : c = d) : Ending.returned (.tuple #[.int .i64 a, .bool c]) = .returned (.tuple #[.int .i64 b, .bool d]) := by rw [h, k]

set_option maxRecDepth 20000 in
set_option maxHeartbeats 4000000 in
theorem priceFor_any (who item : ByteArray) (cur fst lst lea : Int) (ra : Option Addr) (n rc : Nat) (z : Nat → SC2) (q : Int) (w : World) (h : (n : Int) ≤ 1048576) (hr : SCr w ra n z) :
    Calls Try.prog 70 #[.agg #[.string who, .string item, .int .i64 cur, .int .i64 fst, .int .i64 lst, .int .i64 lea, .slice ra n rc], .int .i64 q] w fun e w' => e = .returned (.int .i64 (prF z q n)) ∧ Below w.heap.size w w' := by
  have HR : Hid (SCr w ra n z) := hr
  clear hr
  go_enter Try.func70, Try.ntmps70
  go_wp2
  go_loopw [5, 11] (fun p i wr => ∃ (k : Nat), k ≤ n ∧ i = .int .i64 (k : Int) ∧ (∃ P, p = .int .i64 P ∧ Hid (P = prF z q k)) ∧ Hid (Below w.heap.size w wr)) (fun _ i _ => n - (intOf i).toNat)
  case atStart => exact ⟨0, Nat.zero_le _, rfl, ⟨0, rfl, rfl⟩, (Below.refl _ _).alloc (Nat.le_refl _) _⟩
  case round =>
    obtain ⟨k, hk, rfl, ⟨P, rfl, HP⟩, HH⟩ := hrel
    by_cases hlt : k < n
    · have hlt2 : (k : Int) < (n : Int) := by omega
      obtain ⟨kb, off, rfl, hkb⟩ := HR.out.addr (by omega)
      have k0 := (HR.out.below HH.out).cell hlt
      obtain ⟨e, he⟩ : ∃ e, z k = e := ⟨_, rfl⟩
      rw [he] at k0
      obtain ⟨f, p⟩ := e
      have HX : Hid (z k = ⟨f, p⟩) := he
      obtain ⟨c0, c1⟩ := k0
      simp only at c0 c1
      clear he
      by_cases hf : f ≤ q
      · have HN : Hid (p = prF z q (k + 1)) := hid (prF_t HX.out hf).symm
        go_wp2
        go_roundw
        case rel => exact ⟨k + 1, by omega, by go_num, ⟨_, rfl, HN⟩, bel_on HH.out (by go_grown)⟩
        case measure => simp [intOf]; omega
      · have HN : Hid (P = prF z q (k + 1)) := hid (HP.out.trans (prF_f HX.out hf).symm)
        go_wp2
        go_roundw
        case rel => exact ⟨k + 1, by omega, by go_num, ⟨_, rfl, HN⟩, bel_on HH.out (by go_grown)⟩
        case measure => simp [intOf]; omega
    · obtain rfl : k = n := by omega
      have lkk : ¬ (k : Int) < (k : Int) := by omega
      go_wp2
      go_returns
      exact ⟨ret_i HP.out, HH.out⟩

set_option maxRecDepth 20000 in
set_option maxHeartbeats 8000000 in
theorem implPrice_any (who item : ByteArray) (cur fst lst lea : Int) (ra : Option Addr) (n rc : Nat) (z : Nat → SC2) (curs q : Int) (w : World) (hwho : who.size ≤ maxLen) (hitem : item.size ≤ maxLen) (h : (n : Int) ≤ 1048576) (hr : SCr w ra n z) :
    Calls Try.prog 16 #[.agg #[.string who, .string item, .int .i64 cur, .int .i64 fst, .int .i64 lst, .int .i64 lea, .slice ra n rc], .int .i64 curs, .int .i64 q] w fun e w' => e = .returned (.tuple #[.int .i64 (opV ⟨who, item, cur, fst, lst, lea, n, z⟩ curs q), .bool (opB ⟨who, item, cur, fst, lst, lea, n, z⟩ curs q)]) ∧ Below w.heap.size w w' := by
  have HR : Hid (SCr w ra n z) := hr
  cases hok : ofB ⟨who, item, cur, fst, lst, lea, n, z⟩ curs
  · have HV : Hid (opB ⟨who, item, cur, fst, lst, lea, n, z⟩ curs q = false) := hid (by simp [opB, hok])
    have HOK : Hid (Calls Try.prog 24 #[.agg #[.string who, .string item, .int .i64 cur, .int .i64 fst, .int .i64 lst, .int .i64 lea, .slice ra n rc], .int .i64 curs] (w.alloc (.cells #[.string who, .string item, .int .i64 cur, .int .i64 fst, .int .i64 lst, .int .i64 lea, .slice ra n rc] 34 (0, 0))) fun e w' => e = .returned (.bool false) ∧ Below (w.alloc (.cells #[.string who, .string item, .int .i64 cur, .int .i64 fst, .int .i64 lst, .int .i64 lea, .slice ra n rc] 34 (0, 0))).heap.size (w.alloc (.cells #[.string who, .string item, .int .i64 cur, .int .i64 fst, .int .i64 lst, .int .i64 lea, .slice ra n rc] 34 (0, 0))) w') := hid (by rw [← hok]; exact implOffer_any who item cur fst lst lea ra n rc z curs _ hwho hitem h (hr.alloc _))
    clear hr hwho hitem hok
    go_enter Try.func16, Try.ntmps16
    go_wp2_with (first | (go_at_call 24; refine HOK.out.mono ?_; rintro e w1 ⟨rfl, b1⟩; obtain ⟨C1, B1⟩ := box_bl b1; have x0 := (C1.cell 0).trans rfl; have x1 := (C1.cell 1).trans rfl; have x2 := (C1.cell 2).trans rfl; have x3 := (C1.cell 3).trans rfl; have x4 := (C1.cell 4).trans rfl; have x5 := (C1.cell 5).trans rfl; have x6 := (C1.cell 6).trans rfl; have HB1 : Hid (Below w.heap.size w w1) := B1; have HC1 : Hid (CB w1 w.heap.size #[.string who, .string item, .int .i64 cur, .int .i64 fst, .int .i64 lst, .int .i64 lea, .slice ra n rc] 34) := C1; clear C1 B1 b1 HOK) | (go_at_call 69; refine (isQty_any _ _).mono ?_; rintro e w2 ⟨rfl, ew⟩; replace ew := ew.symm; subst ew) | (go_at_call 70; refine (priceFor_any who item cur fst lst lea ra n rc z q _ h (HR.out.below HB1.out)).mono ?_; rintro e w3 ⟨rfl, b3⟩; rw [HP.out]; have HB3 : Hid (Below w.heap.size w w3) := bel_on HB1.out b3; clear b3))
    go_returns
    exact ⟨ret_ib (op_no HV.out).symm HV.out.symm, HB1.out⟩
  have HSP : Hid (ScP n z lea) := hid (ofB_sc hok)
  have HOK : Hid (Calls Try.prog 24 #[.agg #[.string who, .string item, .int .i64 cur, .int .i64 fst, .int .i64 lst, .int .i64 lea, .slice ra n rc], .int .i64 curs] (w.alloc (.cells #[.string who, .string item, .int .i64 cur, .int .i64 fst, .int .i64 lst, .int .i64 lea, .slice ra n rc] 34 (0, 0))) fun e w' => e = .returned (.bool true) ∧ Below (w.alloc (.cells #[.string who, .string item, .int .i64 cur, .int .i64 fst, .int .i64 lst, .int .i64 lea, .slice ra n rc] 34 (0, 0))).heap.size (w.alloc (.cells #[.string who, .string item, .int .i64 cur, .int .i64 fst, .int .i64 lst, .int .i64 lea, .slice ra n rc] 34 (0, 0))) w') := hid (by rw [← hok]; exact implOffer_any who item cur fst lst lea ra n rc z curs _ hwho hitem h (hr.alloc _))
  have HO : Hid (ofB ⟨who, item, cur, fst, lst, lea, n, z⟩ curs = true) := hok
  clear hr hwho hitem hok
  cases hq : inB q 0 1000000
  · have HV : Hid (opB ⟨who, item, cur, fst, lst, lea, n, z⟩ curs q = false) := hid (by simp [opB, hq])
    go_enter Try.func16, Try.ntmps16
    go_wp2_with (first | (go_at_call 24; refine HOK.out.mono ?_; rintro e w1 ⟨rfl, b1⟩; obtain ⟨C1, B1⟩ := box_bl b1; have x0 := (C1.cell 0).trans rfl; have x1 := (C1.cell 1).trans rfl; have x2 := (C1.cell 2).trans rfl; have x3 := (C1.cell 3).trans rfl; have x4 := (C1.cell 4).trans rfl; have x5 := (C1.cell 5).trans rfl; have x6 := (C1.cell 6).trans rfl; have HB1 : Hid (Below w.heap.size w w1) := B1; have HC1 : Hid (CB w1 w.heap.size #[.string who, .string item, .int .i64 cur, .int .i64 fst, .int .i64 lst, .int .i64 lea, .slice ra n rc] 34) := C1; clear C1 B1 b1 HOK) | (go_at_call 69; refine (isQty_any _ _).mono ?_; rintro e w2 ⟨rfl, ew⟩; replace ew := ew.symm; subst ew) | (go_at_call 70; refine (priceFor_any who item cur fst lst lea ra n rc z q _ h (HR.out.below HB1.out)).mono ?_; rintro e w3 ⟨rfl, b3⟩; rw [HP.out]; have HB3 : Hid (Below w.heap.size w w3) := bel_on HB1.out b3; clear b3))
    go_returns
    exact ⟨ret_ib (op_no HV.out).symm HV.out.symm, HB1.out⟩
  by_cases hl : q < lea
  · have HV : Hid (opB ⟨who, item, cur, fst, lst, lea, n, z⟩ curs q = false) := hid (by simp [opB]; intro _ _; omega)
    go_enter Try.func16, Try.ntmps16
    go_wp2_with (first | (go_at_call 24; refine HOK.out.mono ?_; rintro e w1 ⟨rfl, b1⟩; obtain ⟨C1, B1⟩ := box_bl b1; have x0 := (C1.cell 0).trans rfl; have x1 := (C1.cell 1).trans rfl; have x2 := (C1.cell 2).trans rfl; have x3 := (C1.cell 3).trans rfl; have x4 := (C1.cell 4).trans rfl; have x5 := (C1.cell 5).trans rfl; have x6 := (C1.cell 6).trans rfl; have HB1 : Hid (Below w.heap.size w w1) := B1; have HC1 : Hid (CB w1 w.heap.size #[.string who, .string item, .int .i64 cur, .int .i64 fst, .int .i64 lst, .int .i64 lea, .slice ra n rc] 34) := C1; clear C1 B1 b1 HOK) | (go_at_call 69; refine (isQty_any _ _).mono ?_; rintro e w2 ⟨rfl, ew⟩; replace ew := ew.symm; subst ew) | (go_at_call 70; refine (priceFor_any who item cur fst lst lea ra n rc z q _ h (HR.out.below HB1.out)).mono ?_; rintro e w3 ⟨rfl, b3⟩; rw [HP.out]; have HB3 : Hid (Below w.heap.size w w3) := bel_on HB1.out b3; clear b3))
    go_returns
    exact ⟨ret_ib (op_no HV.out).symm HV.out.symm, HB1.out⟩
  have hl2 : lea ≤ q := by omega
  have HV : Hid (opB ⟨who, item, cur, fst, lst, lea, n, z⟩ curs q = true) := hid (by simp [opB, HO.out, hq]; exact hl2)
  have hq2 := inB_t hq
  clear hl
  obtain ⟨P, hP⟩ : ∃ P, prF z q n = P := ⟨_, rfl⟩
  have HP : Hid (prF z q n = P) := hP
  have hPb := prF_bd (q := q) HSP.out.2.2.2
  rw [hP] at hPb
  clear hP
  have hm := mulq_bd hq2.1 hq2.2 hPb.1 hPb.2
  have hw : IntKind.i64.wrap (q * P) = q * P := IntWalk.i64_in _ ⟨by omega, by omega⟩
  have HE : Hid (opV ⟨who, item, cur, fst, lst, lea, n, z⟩ curs q = q * P) := hid (by rw [op_yes HV.out]; exact congrArg (fun x => q * x) HP.out)
  go_enter Try.func16, Try.ntmps16
  go_wp2_with (first | (go_at_call 24; refine HOK.out.mono ?_; rintro e w1 ⟨rfl, b1⟩; obtain ⟨C1, B1⟩ := box_bl b1; have x0 := (C1.cell 0).trans rfl; have x1 := (C1.cell 1).trans rfl; have x2 := (C1.cell 2).trans rfl; have x3 := (C1.cell 3).trans rfl; have x4 := (C1.cell 4).trans rfl; have x5 := (C1.cell 5).trans rfl; have x6 := (C1.cell 6).trans rfl; have HB1 : Hid (Below w.heap.size w w1) := B1; have HC1 : Hid (CB w1 w.heap.size #[.string who, .string item, .int .i64 cur, .int .i64 fst, .int .i64 lst, .int .i64 lea, .slice ra n rc] 34) := C1; clear C1 B1 b1 HOK) | (go_at_call 69; refine (isQty_any _ _).mono ?_; rintro e w2 ⟨rfl, ew⟩; replace ew := ew.symm; subst ew) | (go_at_call 70; refine (priceFor_any who item cur fst lst lea ra n rc z q _ h (HR.out.below HB1.out)).mono ?_; rintro e w3 ⟨rfl, b3⟩; rw [HP.out]; have HB3 : Hid (Below w.heap.size w w3) := bel_on HB1.out b3; clear b3))
  go_returns
  exact ⟨ret_ib HE.out.symm HV.out.symm, HB3.out⟩

set_option maxRecDepth 20000 in
set_option maxHeartbeats 8000000 in
theorem specPrice_any (who item : ByteArray) (cur fst lst lea : Int) (ra : Option Addr) (n rc : Nat) (z : Nat → SC2) (curs q : Int) (w : World) (hwho : who.size ≤ maxLen) (hitem : item.size ≤ maxLen) (h : (n : Int) ≤ 1048576) (hr : SCr w ra n z) :
    Calls Try.prog 26 #[.agg #[.string who, .string item, .int .i64 cur, .int .i64 fst, .int .i64 lst, .int .i64 lea, .slice ra n rc], .int .i64 curs, .int .i64 q] w fun e w' => e = .returned (.tuple #[.int .i64 (opV ⟨who, item, cur, fst, lst, lea, n, z⟩ curs q), .bool (opB ⟨who, item, cur, fst, lst, lea, n, z⟩ curs q)]) ∧ Below w.heap.size w w' := by
  have HR : Hid (SCr w ra n z) := hr
  cases hok : ofB ⟨who, item, cur, fst, lst, lea, n, z⟩ curs
  · have HV : Hid (opB ⟨who, item, cur, fst, lst, lea, n, z⟩ curs q = false) := hid (by simp [opB, hok])
    have HOK : Hid (Calls Try.prog 22 #[.agg #[.string who, .string item, .int .i64 cur, .int .i64 fst, .int .i64 lst, .int .i64 lea, .slice ra n rc], .int .i64 curs] (w.alloc (.cells #[.string who, .string item, .int .i64 cur, .int .i64 fst, .int .i64 lst, .int .i64 lea, .slice ra n rc] 34 (0, 0))) fun e w' => e = .returned (.bool false) ∧ Below (w.alloc (.cells #[.string who, .string item, .int .i64 cur, .int .i64 fst, .int .i64 lst, .int .i64 lea, .slice ra n rc] 34 (0, 0))).heap.size (w.alloc (.cells #[.string who, .string item, .int .i64 cur, .int .i64 fst, .int .i64 lst, .int .i64 lea, .slice ra n rc] 34 (0, 0))) w') := hid (by rw [← hok]; exact specOffer_any who item cur fst lst lea ra n rc z curs _ hwho hitem h (hr.alloc _))
    clear hr hwho hitem hok
    go_enter Try.func26, Try.ntmps26
    go_wp2_with (first | (go_at_call 22; refine HOK.out.mono ?_; rintro e w1 ⟨rfl, b1⟩; obtain ⟨C1, B1⟩ := box_bl b1; have x0 := (C1.cell 0).trans rfl; have x1 := (C1.cell 1).trans rfl; have x2 := (C1.cell 2).trans rfl; have x3 := (C1.cell 3).trans rfl; have x4 := (C1.cell 4).trans rfl; have x5 := (C1.cell 5).trans rfl; have x6 := (C1.cell 6).trans rfl; have HB1 : Hid (Below w.heap.size w w1) := B1; have HC1 : Hid (CB w1 w.heap.size #[.string who, .string item, .int .i64 cur, .int .i64 fst, .int .i64 lst, .int .i64 lea, .slice ra n rc] 34) := C1; clear C1 B1 b1 HOK) | (go_at_call 81; refine (l12Qty_any _ _).mono ?_; rintro e w2 ⟨rfl, ew⟩; replace ew := ew.symm; subst ew))
    go_returns
    exact ⟨ret_ib (op_no HV.out).symm HV.out.symm, HB1.out⟩
  have HSP : Hid (ScP n z lea) := hid (ofB_sc hok)
  have HOK : Hid (Calls Try.prog 22 #[.agg #[.string who, .string item, .int .i64 cur, .int .i64 fst, .int .i64 lst, .int .i64 lea, .slice ra n rc], .int .i64 curs] (w.alloc (.cells #[.string who, .string item, .int .i64 cur, .int .i64 fst, .int .i64 lst, .int .i64 lea, .slice ra n rc] 34 (0, 0))) fun e w' => e = .returned (.bool true) ∧ Below (w.alloc (.cells #[.string who, .string item, .int .i64 cur, .int .i64 fst, .int .i64 lst, .int .i64 lea, .slice ra n rc] 34 (0, 0))).heap.size (w.alloc (.cells #[.string who, .string item, .int .i64 cur, .int .i64 fst, .int .i64 lst, .int .i64 lea, .slice ra n rc] 34 (0, 0))) w') := hid (by rw [← hok]; exact specOffer_any who item cur fst lst lea ra n rc z curs _ hwho hitem h (hr.alloc _))
  have HO : Hid (ofB ⟨who, item, cur, fst, lst, lea, n, z⟩ curs = true) := hok
  clear hr hwho hitem hok
  cases hq : inB q 0 1000000
  · have HV : Hid (opB ⟨who, item, cur, fst, lst, lea, n, z⟩ curs q = false) := hid (by simp [opB, hq])
    go_enter Try.func26, Try.ntmps26
    go_wp2_with (first | (go_at_call 22; refine HOK.out.mono ?_; rintro e w1 ⟨rfl, b1⟩; obtain ⟨C1, B1⟩ := box_bl b1; have x0 := (C1.cell 0).trans rfl; have x1 := (C1.cell 1).trans rfl; have x2 := (C1.cell 2).trans rfl; have x3 := (C1.cell 3).trans rfl; have x4 := (C1.cell 4).trans rfl; have x5 := (C1.cell 5).trans rfl; have x6 := (C1.cell 6).trans rfl; have HB1 : Hid (Below w.heap.size w w1) := B1; have HC1 : Hid (CB w1 w.heap.size #[.string who, .string item, .int .i64 cur, .int .i64 fst, .int .i64 lst, .int .i64 lea, .slice ra n rc] 34) := C1; clear C1 B1 b1 HOK) | (go_at_call 81; refine (l12Qty_any _ _).mono ?_; rintro e w2 ⟨rfl, ew⟩; replace ew := ew.symm; subst ew))
    go_returns
    exact ⟨ret_ib (op_no HV.out).symm HV.out.symm, HB1.out⟩
  by_cases hl : q < lea
  · have HV : Hid (opB ⟨who, item, cur, fst, lst, lea, n, z⟩ curs q = false) := hid (by simp [opB]; intro _ _; omega)
    go_enter Try.func26, Try.ntmps26
    go_wp2_with (first | (go_at_call 22; refine HOK.out.mono ?_; rintro e w1 ⟨rfl, b1⟩; obtain ⟨C1, B1⟩ := box_bl b1; have x0 := (C1.cell 0).trans rfl; have x1 := (C1.cell 1).trans rfl; have x2 := (C1.cell 2).trans rfl; have x3 := (C1.cell 3).trans rfl; have x4 := (C1.cell 4).trans rfl; have x5 := (C1.cell 5).trans rfl; have x6 := (C1.cell 6).trans rfl; have HB1 : Hid (Below w.heap.size w w1) := B1; have HC1 : Hid (CB w1 w.heap.size #[.string who, .string item, .int .i64 cur, .int .i64 fst, .int .i64 lst, .int .i64 lea, .slice ra n rc] 34) := C1; clear C1 B1 b1 HOK) | (go_at_call 81; refine (l12Qty_any _ _).mono ?_; rintro e w2 ⟨rfl, ew⟩; replace ew := ew.symm; subst ew))
    go_returns
    exact ⟨ret_ib (op_no HV.out).symm HV.out.symm, HB1.out⟩
  have hl2 : lea ≤ q := by omega
  have HV : Hid (opB ⟨who, item, cur, fst, lst, lea, n, z⟩ curs q = true) := hid (by simp [opB, HO.out, hq]; exact hl2)
  have hq2 := inB_t hq
  clear hl
  obtain ⟨P, hP⟩ : ∃ P, prF z q n = P := ⟨_, rfl⟩
  have HP : Hid (prF z q n = P) := hP
  have hPb := prF_bd (q := q) HSP.out.2.2.2
  rw [hP] at hPb
  clear hP
  have hm := mulq_bd hq2.1 hq2.2 hPb.1 hPb.2
  have hw : IntKind.i64.wrap (q * P) = q * P := IntWalk.i64_in _ ⟨by omega, by omega⟩
  have HE : Hid (opV ⟨who, item, cur, fst, lst, lea, n, z⟩ curs q = q * P) := hid (by rw [op_yes HV.out]; exact congrArg (fun x => q * x) HP.out)
  obtain ⟨hm1, hm2⟩ := hm
  go_enter Try.func26, Try.ntmps26
  go_wp2_with (first | (go_at_call 22; refine HOK.out.mono ?_; rintro e w1 ⟨rfl, b1⟩; obtain ⟨C1, B1⟩ := box_bl b1; have x0 := (C1.cell 0).trans rfl; have x1 := (C1.cell 1).trans rfl; have x2 := (C1.cell 2).trans rfl; have x3 := (C1.cell 3).trans rfl; have x4 := (C1.cell 4).trans rfl; have x5 := (C1.cell 5).trans rfl; have x6 := (C1.cell 6).trans rfl; have HB1 : Hid (Below w.heap.size w w1) := B1; have HC1 : Hid (CB w1 w.heap.size #[.string who, .string item, .int .i64 cur, .int .i64 fst, .int .i64 lst, .int .i64 lea, .slice ra n rc] 34) := C1; clear C1 B1 b1 HOK) | (go_at_call 81; refine (l12Qty_any _ _).mono ?_; rintro e w2 ⟨rfl, ew⟩; replace ew := ew.symm; subst ew))
  clear x0 x1 x2 x3 x4 x5 x6
  obtain ⟨wa, rfl⟩ : ∃ x, x = w1 := ⟨w1, rfl⟩
  go_loopw [8, 9] (fun p i wr => ∃ (k : Nat), k ≤ n ∧ i = .int .i64 (k : Int) ∧ (∃ P, p = .int .i64 P ∧ Hid (P = prF z q k)) ∧ Hid (Below w.heap.size w wr) ∧ CB wr w.heap.size #[.string who, .string item, .int .i64 cur, .int .i64 fst, .int .i64 lst, .int .i64 lea, .slice ra n rc] 34) (fun _ i _ => n - (intOf i).toNat)
  case atStart => exact ⟨0, Nat.zero_le _, rfl, ⟨0, rfl, rfl⟩, HB1, HC1.out⟩
  case round =>
    obtain ⟨k, hk, rfl, ⟨P', rfl, HP'⟩, HH, HC⟩ := hrel
    have b6 := (HC.cell 6).trans rfl
    have HC2 : Hid (CB wr w.heap.size #[.string who, .string item, .int .i64 cur, .int .i64 fst, .int .i64 lst, .int .i64 lea, .slice ra n rc] 34) := HC
    clear HC
    by_cases hlt : k < n
    · have hlt2 : (k : Int) < (n : Int) := by omega
      obtain ⟨kb, off, rfl, hkb⟩ := HR.out.addr (by omega)
      have k0 := (HR.out.below HH.out).cell hlt
      obtain ⟨e, he⟩ : ∃ e, z k = e := ⟨_, rfl⟩
      rw [he] at k0
      obtain ⟨f, p⟩ := e
      have HX : Hid (z k = ⟨f, p⟩) := he
      obtain ⟨c0, c1⟩ := k0
      simp only at c0 c1
      clear he
      by_cases hf : f ≤ q
      · have HN : Hid (p = prF z q (k + 1)) := hid (prF_t HX.out hf).symm
        go_wp2
        go_roundw
        case rel => exact ⟨k + 1, by omega, by go_num, ⟨_, rfl, HN⟩, HH, HC2.out⟩
        case measure => simp [intOf]; omega
      · have HN : Hid (P' = prF z q (k + 1)) := hid (HP'.out.trans (prF_f HX.out hf).symm)
        go_wp2
        go_roundw
        case rel => exact ⟨k + 1, by omega, by go_num, ⟨_, rfl, HN⟩, HH, HC2.out⟩
        case measure => simp [intOf]; omega
    · obtain rfl : k = n := by omega
      have lkk : ¬ (k : Int) < (k : Int) := by omega
      obtain rfl : P' = P := HP'.out.trans HP.out
      go_wp2
      go_returns
      exact ⟨ret_ib HE.out.symm HV.out.symm, HH.out⟩

end Go.Proofs.Ytghphlnpginmhaa
