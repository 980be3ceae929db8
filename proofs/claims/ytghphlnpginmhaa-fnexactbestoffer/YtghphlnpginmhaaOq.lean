/- The best offer: what an offer costs in the house's own, and the least of them; the program's side. -/
import Derived.Test.YtghphlnpginmhaaOj
import Derived.Test.YtghphlnpginmhaaVCx
namespace Go.Proofs.Ytghphlnpginmhaa
open Go.ChangeShapes Go.WideShapes Go.ChangeAt Go.RowKit
set_option linter.unusedVariables false
set_option linter.unusedSimpArgs false

/-- The tables of rates that are right, or none. -/
def TbP (w : World) (cnt : Int) (mp : Option Nat) (m : Int) (nq : Nat) (rs : Nat → R4) : Prop :=
  (Rt.ratesB m nq rs = true ∧ cnt = m ∧ ∃ B F, mp = some B ∧ Rt.GT Try.prog w B nq F (fun q => Rt.tabL q (Rt.rl nq rs))) ∨ (Rt.ratesB m nq rs = false ∧ cnt = 0 ∧ mp = none)
theorem TbP.below {w w' : World} {cnt : Int} {mp : Option Nat} {m : Int} {nq : Nat} {rs : Nat → R4} (h : TbP w cnt mp m nq rs) (b : Below w.heap.size w w') : TbP w' cnt mp m nq rs := by
  rcases h with ⟨h1, h2, B, F, h3, h4⟩ | h
  · exact .inl ⟨h1, h2, B, F, h3, h4.below b⟩
  · exact .inr h
theorem conv_any {w : World} {cnt : Int} {mp : Option Nat} {m : Int} {nq : Nat} {rs : Nat → R4} (a p q d : Int) (h : TbP w cnt mp m nq rs) :
    Calls Try.prog 71 #[.agg #[.int .i64 cnt, .map mp], .int .i64 a, .int .i64 p, .int .i64 q, .int .i64 d] w fun e w' => e = .returned (.tuple #[.int .i64 (Rt.cN (Rt.cvO m nq rs a p q d)), .bool (Rt.cB (Rt.cvO m nq rs a p q d))]) ∧ Below w.heap.size w w' := by
  rcases h with ⟨h1, rfl, B, F, rfl, h4⟩ | ⟨hv, rfl, rfl⟩
  · exact Rt.convert_ok cnt a p q d B nq F rs w h1 h4
  · have hF : Rt.cvO m nq rs a p q d = none := by
      have : Rt.rateO m nq rs p d = none := Rt.rateO_bad fun H => by rw [hv] at H; cases H.1
      unfold Rt.cvO; rw [this]; rfl
    rw [hF]
    exact Rt.convert_none a p q d w
/-- May the offer be taken at all? -/
noncomputable def tkB (o : OF) (curs : Int) (item : ByteArray) (qty day : Int) : Bool := opB o curs qty && (decide (o.item = item) && inB day o.fst o.lst)
noncomputable def coO (o : OF) (nq : Nat) (rs : Nat → R4) (curs : Int) (qty day : Int) : Option Int := Rt.cvO curs nq rs (opV o curs qty) o.cur 0 day
noncomputable def coB (o : OF) (nq : Nat) (rs : Nat → R4) (curs : Int) (item : ByteArray) (qty day : Int) : Bool := tkB o curs item qty day && Rt.cB (coO o nq rs curs qty day)
noncomputable def coV (o : OF) (nq : Nat) (rs : Nat → R4) (curs : Int) (item : ByteArray) (qty day : Int) : Int := if tkB o curs item qty day = true then Rt.cN (coO o nq rs curs qty day) else 0
theorem co_no {o : OF} {nq : Nat} {rs : Nat → R4} {curs : Int} {item : ByteArray} {qty day : Int} (h : tkB o curs item qty day = false) : coV o nq rs curs item qty day = 0 ∧ coB o nq rs curs item qty day = false := by
  unfold coV coB; rw [h]; exact ⟨if_neg (by decide), rfl⟩
theorem co_yes {o : OF} {nq : Nat} {rs : Nat → R4} {curs : Int} {item : ByteArray} {qty day : Int} (h : tkB o curs item qty day = true) : coV o nq rs curs item qty day = Rt.cN (coO o nq rs curs qty day) ∧ coB o nq rs curs item qty day = Rt.cB (coO o nq rs curs qty day) := by
  unfold coV coB; rw [h]; exact ⟨if_pos rfl, rfl⟩
theorem holds_any (who it : ByteArray) (cur fst lst lea : Int) (ra : Option Addr) (n rc : Nat) (d : Int) (w : World) : Calls Try.prog 124 #[.agg #[.string who, .string it, .int .i64 cur, .int .i64 fst, .int .i64 lst, .int .i64 lea, .slice ra n rc], .int .i64 d] w fun e w' => e = .returned (.bool (inB d fst lst)) ∧ Below w.heap.size w w' := by
  go_enter Try.func124, Try.ntmps124
  go_wp2
  all_goals go_returns
  all_goals exact ⟨ret_bool (by unfold inB; rw [Bool.eq_iff_iff]; simp; try omega), by go_grown⟩
theorem lists_t {s t : ByteArray} (h : s = t) : (s.toList == t.toList) = true := by subst h; simp
theorem lists_f {s t : ByteArray} (h : s ≠ t) : (s.toList == t.toList) = false := by
  rw [Bool.eq_false_iff]
  intro g
  simp only [beq_iff_eq, ByteArray.toList_eq] at g
  exact h (by cases s; cases t; simp_all)
theorem two_bo {w w1 : World} {bs cs : Array Value} {s t : TypeId} (b : Below ((w.alloc (.cells bs s (0, 0))).alloc (.cells cs t (0, 0))).heap.size ((w.alloc (.cells bs s (0, 0))).alloc (.cells cs t (0, 0))) w1) :
    CB w1 w.heap.size bs s ∧ CB w1 (w.heap.size + 1) cs t ∧ Below w.heap.size w w1 := by
  refine ⟨?_, ?_, ?_⟩
  · exact ((CB.new bs s).alloc _).below b (by simp; omega)
  · exact (CB.newAt (by simp) cs t).below b (by simp)
  · exact bel_on (((Below.refl _ _).alloc (Nat.le_refl _) _).alloc (by simp) _) b

set_option maxRecDepth 20000 in
set_option maxHeartbeats 8000000 in
theorem costOf_any (who it : ByteArray) (cur fst lst lea : Int) (ra : Option Addr) (n rc : Nat) (z : Nat → SC2) (cnt : Int) (mp : Option Nat) (nq : Nat) (rs : Nat → R4) (curs : Int) (item : ByteArray) (qty day : Int) (w : World) (hwho : who.size ≤ maxLen) (hit : it.size ≤ maxLen) (h : (n : Int) ≤ 1048576) (hr : SCr w ra n z) (hT : TbP w cnt mp curs nq rs) :
    Calls Try.prog 66 #[.agg #[.int .i64 cnt, .map mp, .int .i64 curs, .string item, .int .i64 qty, .int .i64 day], .agg #[.string who, .string it, .int .i64 cur, .int .i64 fst, .int .i64 lst, .int .i64 lea, .slice ra n rc]] w fun e w' => e = .returned (.tuple #[.int .i64 (coV ⟨who, it, cur, fst, lst, lea, n, z⟩ nq rs curs item qty day), .bool (coB ⟨who, it, cur, fst, lst, lea, n, z⟩ nq rs curs item qty day)]) ∧ Below w.heap.size w w' := by
  have HT : Hid (TbP w cnt mp curs nq rs) := hT
  obtain ⟨PV, hP⟩ : ∃ P, opV ⟨who, it, cur, fst, lst, lea, n, z⟩ curs qty = P := ⟨_, rfl⟩
  cases hk : opB ⟨who, it, cur, fst, lst, lea, n, z⟩ curs qty
  · have HV : Hid (tkB ⟨who, it, cur, fst, lst, lea, n, z⟩ curs item qty day = false) := hid (by simp [tkB, hk])
    have HPR : Hid (Calls Try.prog 16 #[.agg #[.string who, .string it, .int .i64 cur, .int .i64 fst, .int .i64 lst, .int .i64 lea, .slice ra n rc], .int .i64 curs, .int .i64 qty] ((w.alloc (.cells #[.int .i64 cnt, .map mp, .int .i64 curs, .string item, .int .i64 qty, .int .i64 day] 112 (0, 0))).alloc (.cells #[.string who, .string it, .int .i64 cur, .int .i64 fst, .int .i64 lst, .int .i64 lea, .slice ra n rc] 34 (0, 0))) fun e w' => e = .returned (.tuple #[.int .i64 PV, .bool false]) ∧ Below ((w.alloc (.cells #[.int .i64 cnt, .map mp, .int .i64 curs, .string item, .int .i64 qty, .int .i64 day] 112 (0, 0))).alloc (.cells #[.string who, .string it, .int .i64 cur, .int .i64 fst, .int .i64 lst, .int .i64 lea, .slice ra n rc] 34 (0, 0))).heap.size ((w.alloc (.cells #[.int .i64 cnt, .map mp, .int .i64 curs, .string item, .int .i64 qty, .int .i64 day] 112 (0, 0))).alloc (.cells #[.string who, .string it, .int .i64 cur, .int .i64 fst, .int .i64 lst, .int .i64 lea, .slice ra n rc] 34 (0, 0))) w') := hid (by rw [← hP, ← hk]; exact implPrice_any who it cur fst lst lea ra n rc z curs qty _ hwho hit h ((hr.alloc _).alloc _))
    clear hr hT hwho hit hk hP
    go_enter Try.func66, Try.ntmps66
    go_wp2_with (first | (go_at_call 16; refine HPR.out.mono ?_; rintro e w1 ⟨rfl, b1⟩; obtain ⟨C0, C1, B1⟩ := two_bo b1; have x0 := (C0.cell 0).trans rfl; have x1 := (C0.cell 1).trans rfl; have x2 := (C0.cell 2).trans rfl; have x3 := (C0.cell 3).trans rfl; have x4 := (C0.cell 4).trans rfl; have x5 := (C0.cell 5).trans rfl; have y0 := (C1.cell 0).trans rfl; have y1 := (C1.cell 1).trans rfl; have y2 := (C1.cell 2).trans rfl; have y3 := (C1.cell 3).trans rfl; have y4 := (C1.cell 4).trans rfl; have y5 := (C1.cell 5).trans rfl; have y6 := (C1.cell 6).trans rfl; have HQ1 : Hid (CB w1 w.heap.size #[.int .i64 cnt, .map mp, .int .i64 curs, .string item, .int .i64 qty, .int .i64 day] 112) := C0; have HO1 : Hid (CB w1 (w.heap.size + 1) #[.string who, .string it, .int .i64 cur, .int .i64 fst, .int .i64 lst, .int .i64 lea, .slice ra n rc] 34) := C1; have HB1 : Hid (Below w.heap.size w w1) := B1; clear C0 C1 B1 b1 HPR) | (go_at_call 124; refine (holds_any who it cur fst lst lea ra n rc day _).mono ?_; rintro e w2 ⟨rfl, b2⟩; have C0 := HQ1.out.below b2 HQ1.out.lt; have C1 := HO1.out.below b2 HO1.out.lt; replace x0 := (C0.cell 0).trans rfl; replace x1 := (C0.cell 1).trans rfl; replace x2 := (C0.cell 2).trans rfl; replace x3 := (C0.cell 3).trans rfl; replace x4 := (C0.cell 4).trans rfl; replace x5 := (C0.cell 5).trans rfl; replace y0 := (C1.cell 0).trans rfl; replace y1 := (C1.cell 1).trans rfl; replace y2 := (C1.cell 2).trans rfl; replace y3 := (C1.cell 3).trans rfl; replace y4 := (C1.cell 4).trans rfl; replace y5 := (C1.cell 5).trans rfl; replace y6 := (C1.cell 6).trans rfl; have HB2 : Hid (Below w.heap.size w w2) := bel_on HB1.out b2; clear C0 C1 b2) | (go_at_call 71; go_loud (refine (conv_any _ _ _ _ (HT.out.below HB2.out)).mono ?_; rintro e w3 ⟨rfl, b3⟩; have HB3 : Hid (Below w.heap.size w w3) := bel_on HB2.out b3; clear b3)))
    go_returns
    exact ⟨ret_ib (co_no HV.out).1.symm (co_no HV.out).2.symm, HB1.out⟩
  have HPR : Hid (Calls Try.prog 16 #[.agg #[.string who, .string it, .int .i64 cur, .int .i64 fst, .int .i64 lst, .int .i64 lea, .slice ra n rc], .int .i64 curs, .int .i64 qty] ((w.alloc (.cells #[.int .i64 cnt, .map mp, .int .i64 curs, .string item, .int .i64 qty, .int .i64 day] 112 (0, 0))).alloc (.cells #[.string who, .string it, .int .i64 cur, .int .i64 fst, .int .i64 lst, .int .i64 lea, .slice ra n rc] 34 (0, 0))) fun e w' => e = .returned (.tuple #[.int .i64 PV, .bool true]) ∧ Below ((w.alloc (.cells #[.int .i64 cnt, .map mp, .int .i64 curs, .string item, .int .i64 qty, .int .i64 day] 112 (0, 0))).alloc (.cells #[.string who, .string it, .int .i64 cur, .int .i64 fst, .int .i64 lst, .int .i64 lea, .slice ra n rc] 34 (0, 0))).heap.size ((w.alloc (.cells #[.int .i64 cnt, .map mp, .int .i64 curs, .string item, .int .i64 qty, .int .i64 day] 112 (0, 0))).alloc (.cells #[.string who, .string it, .int .i64 cur, .int .i64 fst, .int .i64 lst, .int .i64 lea, .slice ra n rc] 34 (0, 0))) w') := hid (by rw [← hP, ← hk]; exact implPrice_any who it cur fst lst lea ra n rc z curs qty _ hwho hit h ((hr.alloc _).alloc _))
  have HPV : Hid (opV ⟨who, it, cur, fst, lst, lea, n, z⟩ curs qty = PV) := hP
  have HK : Hid (opB ⟨who, it, cur, fst, lst, lea, n, z⟩ curs qty = true) := hk
  clear hr hT hwho hit hk hP
  by_cases hi : it = item
  · have li := lists_t hi
    cases hd : inB day fst lst
    · have HV : Hid (tkB ⟨who, it, cur, fst, lst, lea, n, z⟩ curs item qty day = false) := hid (by simp [tkB, hd])
      clear hi
      go_enter Try.func66, Try.ntmps66
      go_wp2_with (first | (go_at_call 16; refine HPR.out.mono ?_; rintro e w1 ⟨rfl, b1⟩; obtain ⟨C0, C1, B1⟩ := two_bo b1; have x0 := (C0.cell 0).trans rfl; have x1 := (C0.cell 1).trans rfl; have x2 := (C0.cell 2).trans rfl; have x3 := (C0.cell 3).trans rfl; have x4 := (C0.cell 4).trans rfl; have x5 := (C0.cell 5).trans rfl; have y0 := (C1.cell 0).trans rfl; have y1 := (C1.cell 1).trans rfl; have y2 := (C1.cell 2).trans rfl; have y3 := (C1.cell 3).trans rfl; have y4 := (C1.cell 4).trans rfl; have y5 := (C1.cell 5).trans rfl; have y6 := (C1.cell 6).trans rfl; have HQ1 : Hid (CB w1 w.heap.size #[.int .i64 cnt, .map mp, .int .i64 curs, .string item, .int .i64 qty, .int .i64 day] 112) := C0; have HO1 : Hid (CB w1 (w.heap.size + 1) #[.string who, .string it, .int .i64 cur, .int .i64 fst, .int .i64 lst, .int .i64 lea, .slice ra n rc] 34) := C1; have HB1 : Hid (Below w.heap.size w w1) := B1; clear C0 C1 B1 b1 HPR) | (go_at_call 124; refine (holds_any who it cur fst lst lea ra n rc day _).mono ?_; rintro e w2 ⟨rfl, b2⟩; have C0 := HQ1.out.below b2 HQ1.out.lt; have C1 := HO1.out.below b2 HO1.out.lt; replace x0 := (C0.cell 0).trans rfl; replace x1 := (C0.cell 1).trans rfl; replace x2 := (C0.cell 2).trans rfl; replace x3 := (C0.cell 3).trans rfl; replace x4 := (C0.cell 4).trans rfl; replace x5 := (C0.cell 5).trans rfl; replace y0 := (C1.cell 0).trans rfl; replace y1 := (C1.cell 1).trans rfl; replace y2 := (C1.cell 2).trans rfl; replace y3 := (C1.cell 3).trans rfl; replace y4 := (C1.cell 4).trans rfl; replace y5 := (C1.cell 5).trans rfl; replace y6 := (C1.cell 6).trans rfl; have HB2 : Hid (Below w.heap.size w w2) := bel_on HB1.out b2; clear C0 C1 b2) | (go_at_call 71; go_loud (refine (conv_any _ _ _ _ (HT.out.below HB2.out)).mono ?_; rintro e w3 ⟨rfl, b3⟩; have HB3 : Hid (Below w.heap.size w w3) := bel_on HB2.out b3; clear b3)))
      go_returns
      exact ⟨ret_ib (co_no HV.out).1.symm (co_no HV.out).2.symm, HB2.out⟩
    · have HV : Hid (tkB ⟨who, it, cur, fst, lst, lea, n, z⟩ curs item qty day = true) := hid (by unfold tkB; rw [HK.out]; simp [hd, hi])
      have HE : Hid (coO ⟨who, it, cur, fst, lst, lea, n, z⟩ nq rs curs qty day = Rt.cvO curs nq rs PV cur 0 day) := hid (by unfold coO; rw [HPV.out])
      clear hi
      go_enter Try.func66, Try.ntmps66
      go_wp2_with (first | (go_at_call 16; refine HPR.out.mono ?_; rintro e w1 ⟨rfl, b1⟩; obtain ⟨C0, C1, B1⟩ := two_bo b1; have x0 := (C0.cell 0).trans rfl; have x1 := (C0.cell 1).trans rfl; have x2 := (C0.cell 2).trans rfl; have x3 := (C0.cell 3).trans rfl; have x4 := (C0.cell 4).trans rfl; have x5 := (C0.cell 5).trans rfl; have y0 := (C1.cell 0).trans rfl; have y1 := (C1.cell 1).trans rfl; have y2 := (C1.cell 2).trans rfl; have y3 := (C1.cell 3).trans rfl; have y4 := (C1.cell 4).trans rfl; have y5 := (C1.cell 5).trans rfl; have y6 := (C1.cell 6).trans rfl; have HQ1 : Hid (CB w1 w.heap.size #[.int .i64 cnt, .map mp, .int .i64 curs, .string item, .int .i64 qty, .int .i64 day] 112) := C0; have HO1 : Hid (CB w1 (w.heap.size + 1) #[.string who, .string it, .int .i64 cur, .int .i64 fst, .int .i64 lst, .int .i64 lea, .slice ra n rc] 34) := C1; have HB1 : Hid (Below w.heap.size w w1) := B1; clear C0 C1 B1 b1 HPR) | (go_at_call 124; refine (holds_any who it cur fst lst lea ra n rc day _).mono ?_; rintro e w2 ⟨rfl, b2⟩; have C0 := HQ1.out.below b2 HQ1.out.lt; have C1 := HO1.out.below b2 HO1.out.lt; replace x0 := (C0.cell 0).trans rfl; replace x1 := (C0.cell 1).trans rfl; replace x2 := (C0.cell 2).trans rfl; replace x3 := (C0.cell 3).trans rfl; replace x4 := (C0.cell 4).trans rfl; replace x5 := (C0.cell 5).trans rfl; replace y0 := (C1.cell 0).trans rfl; replace y1 := (C1.cell 1).trans rfl; replace y2 := (C1.cell 2).trans rfl; replace y3 := (C1.cell 3).trans rfl; replace y4 := (C1.cell 4).trans rfl; replace y5 := (C1.cell 5).trans rfl; replace y6 := (C1.cell 6).trans rfl; have HB2 : Hid (Below w.heap.size w w2) := bel_on HB1.out b2; clear C0 C1 b2) | (go_at_call 71; go_loud (refine (conv_any _ _ _ _ (HT.out.below HB2.out)).mono ?_; rintro e w3 ⟨rfl, b3⟩; have HB3 : Hid (Below w.heap.size w w3) := bel_on HB2.out b3; clear b3)))
      go_returns
      exact ⟨ret_ib (by rw [(co_yes HV.out).1, HE.out]) (by rw [(co_yes HV.out).2, HE.out]), HB3.out⟩
  · have li := lists_f hi
    have HV : Hid (tkB ⟨who, it, cur, fst, lst, lea, n, z⟩ curs item qty day = false) := hid (by simp [tkB, hi])
    clear hi
    go_enter Try.func66, Try.ntmps66
    go_wp2_with (first | (go_at_call 16; refine HPR.out.mono ?_; rintro e w1 ⟨rfl, b1⟩; obtain ⟨C0, C1, B1⟩ := two_bo b1; have x0 := (C0.cell 0).trans rfl; have x1 := (C0.cell 1).trans rfl; have x2 := (C0.cell 2).trans rfl; have x3 := (C0.cell 3).trans rfl; have x4 := (C0.cell 4).trans rfl; have x5 := (C0.cell 5).trans rfl; have y0 := (C1.cell 0).trans rfl; have y1 := (C1.cell 1).trans rfl; have y2 := (C1.cell 2).trans rfl; have y3 := (C1.cell 3).trans rfl; have y4 := (C1.cell 4).trans rfl; have y5 := (C1.cell 5).trans rfl; have y6 := (C1.cell 6).trans rfl; have HQ1 : Hid (CB w1 w.heap.size #[.int .i64 cnt, .map mp, .int .i64 curs, .string item, .int .i64 qty, .int .i64 day] 112) := C0; have HO1 : Hid (CB w1 (w.heap.size + 1) #[.string who, .string it, .int .i64 cur, .int .i64 fst, .int .i64 lst, .int .i64 lea, .slice ra n rc] 34) := C1; have HB1 : Hid (Below w.heap.size w w1) := B1; clear C0 C1 B1 b1 HPR) | (go_at_call 124; refine (holds_any who it cur fst lst lea ra n rc day _).mono ?_; rintro e w2 ⟨rfl, b2⟩; have C0 := HQ1.out.below b2 HQ1.out.lt; have C1 := HO1.out.below b2 HO1.out.lt; replace x0 := (C0.cell 0).trans rfl; replace x1 := (C0.cell 1).trans rfl; replace x2 := (C0.cell 2).trans rfl; replace x3 := (C0.cell 3).trans rfl; replace x4 := (C0.cell 4).trans rfl; replace x5 := (C0.cell 5).trans rfl; replace y0 := (C1.cell 0).trans rfl; replace y1 := (C1.cell 1).trans rfl; replace y2 := (C1.cell 2).trans rfl; replace y3 := (C1.cell 3).trans rfl; replace y4 := (C1.cell 4).trans rfl; replace y5 := (C1.cell 5).trans rfl; replace y6 := (C1.cell 6).trans rfl; have HB2 : Hid (Below w.heap.size w w2) := bel_on HB1.out b2; clear C0 C1 b2) | (go_at_call 71; go_loud (refine (conv_any _ _ _ _ (HT.out.below HB2.out)).mono ?_; rintro e w3 ⟨rfl, b3⟩; have HB3 : Hid (Below w.heap.size w w3) := bel_on HB2.out b3; clear b3)))
    go_returns
    exact ⟨ret_ib (co_no HV.out).1.symm (co_no HV.out).2.symm, HB1.out⟩

/-- The best of the first k offers: its place (-1: none) and what it costs. -/
def bF (B : Nat → Bool) (V : Nat → Int) : Nat → Int × Int
  | 0 => (-1, 0)
  | k + 1 => if B k = true ∧ ((bF B V k).1 = -1 ∨ V k < (bF B V k).2) then ((k : Int), V k) else bF B V k
theorem bF_t {B : Nat → Bool} {V : Nat → Int} {k : Nat} (h : B k = true) (g : (bF B V k).1 = -1 ∨ V k < (bF B V k).2) : bF B V (k + 1) = ((k : Int), V k) := if_pos ⟨h, g⟩
theorem bF_f {B : Nat → Bool} {V : Nat → Int} {k : Nat} (h : ¬ (B k = true ∧ ((bF B V k).1 = -1 ∨ V k < (bF B V k).2))) : bF B V (k + 1) = bF B V k := if_neg h
theorem bF_ge (B : Nat → Bool) (V : Nat → Int) : ∀ k, -1 ≤ (bF B V k).1
  | 0 => by unfold bF; simp
  | k + 1 => by
    unfold bF
    split
    · simp only; omega
    · exact bF_ge B V k
theorem ret_ii {a b c d : Int} (h : a = b) (k : c = d) : Ending.returned (.tuple #[.int .i64 a, .int .i64 c]) = .returned (.tuple #[.int .i64 b, .int .i64 d]) := by rw [h, k]
set_option maxRecDepth 20000 in
set_option maxHeartbeats 8000000 in
theorem leastBy_any (ad : Option Addr) (len cap : Nat) (c : Nat → OF) (cnt : Int) (mp : Option Nat) (nq : Nat) (rs : Nat → R4) (curs : Int) (item : ByteArray) (qty day : Int) (w : World) (hl : (len : Int) ≤ 1048576) (hrn : ∀ j, j < len → ((c j).rn : Int) ≤ 1048576) (hz : ∀ j, (c j).who.size ≤ maxLen ∧ (c j).item.size ≤ maxLen) (hr : OFr w ad len c) (hT : TbP w cnt mp curs nq rs) :
    Calls Try.prog 65 #[.slice ad len cap, .func (Fn.func 66) #[.agg #[.int .i64 cnt, .map mp, .int .i64 curs, .string item, .int .i64 qty, .int .i64 day]] #[]] w fun e w' => e = .returned (.tuple #[.int .i64 (bF (fun j => coB (c j) nq rs curs item qty day) (fun j => coV (c j) nq rs curs item qty day) len).1, .int .i64 (bF (fun j => coB (c j) nq rs curs item qty day) (fun j => coV (c j) nq rs curs item qty day) len).2]) ∧ Below w.heap.size w w' := by
  have HR : Hid (OFr w ad len c) := hr
  have HT : Hid (TbP w cnt mp curs nq rs) := hT
  have HZ : Hid (∀ j, (c j).who.size ≤ maxLen ∧ (c j).item.size ≤ maxLen) := hz
  have HRN : Hid (∀ j, j < len → ((c j).rn : Int) ≤ 1048576) := hrn
  clear hr hT hz hrn
  obtain ⟨BB, hBB⟩ : ∃ B, (fun j => coB (c j) nq rs curs item qty day) = B := ⟨_, rfl⟩
  obtain ⟨VV, hVV⟩ : ∃ V, (fun j => coV (c j) nq rs curs item qty day) = V := ⟨_, rfl⟩
  have HBB : Hid (∀ j, coB (c j) nq rs curs item qty day = BB j) := hid (fun j => by rw [← hBB])
  have HVV : Hid (∀ j, coV (c j) nq rs curs item qty day = VV j) := hid (fun j => by rw [← hVV])
  rw [hBB, hVV]
  clear hBB hVV
  go_enter Try.func65, Try.ntmps65
  go_wp2
  go_loopw [6, 7, 14] (fun p l i wr => ∃ (k : Nat) (P V : Int), k ≤ len ∧ i = .int .i64 (k : Int) ∧ p = .int .i64 P ∧ l = .int .i64 V ∧ Hid (bF BB VV k = (P, V)) ∧ Hid (Below w.heap.size w wr)) (fun _ _ i _ => len - (intOf i).toNat)
  case atStart => exact ⟨0, -1, 0, Nat.zero_le _, rfl, rfl, rfl, rfl, Below.refl _ _⟩
  case round =>
    obtain ⟨k, P, V, hk, rfl, rfl, rfl, HP, HB⟩ := hrel
    obtain ⟨wo, rfl⟩ : ∃ x, x = wr := ⟨wr, rfl⟩
    by_cases hlt : k < len
    · have hlt2 : (k : Int) < (len : Int) := by omega
      obtain ⟨kb, off, rfl, hkb⟩ := HR.out.addr (by omega)
      obtain ⟨ra, rc, hrc, c0, c1, c2, c3, c4, c5, c6, hsr⟩ := (HR.out.below HB.out).cell hlt
      have hzk := HZ.out k
      have hnk := HRN.out k hlt
      have hBk := HBB.out k
      have hVk := HVV.out k
      obtain ⟨ck, hck⟩ : ∃ x, c k = x := ⟨_, rfl⟩
      rw [hck] at c0 c1 c2 c3 c4 c5 c6 hsr hzk hnk hBk hVk
      obtain ⟨who, it, cur, fst, lst, lea, n, z⟩ := ck
      simp only at c0 c1 c2 c3 c4 c5 c6 hsr hzk hnk
      obtain ⟨b, hb⟩ : ∃ b, BB k = b := ⟨_, rfl⟩
      obtain ⟨v, hv⟩ : ∃ v, VV k = v := ⟨_, rfl⟩
      rw [hb] at hBk
      rw [hv] at hVk
      have HCO : Hid (∀ W, Below wo.heap.size wo W → Calls Try.prog 66 #[.agg #[.int .i64 cnt, .map mp, .int .i64 curs, .string item, .int .i64 qty, .int .i64 day], .agg #[.string who, .string it, .int .i64 cur, .int .i64 fst, .int .i64 lst, .int .i64 lea, .slice ra n rc]] W fun e w' => e = .returned (.tuple #[.int .i64 v, .bool b]) ∧ Below W.heap.size W w') := hid (fun W hW => by
        rw [← hBk, ← hVk]
        exact costOf_any who it cur fst lst lea ra n rc z cnt mp nq rs curs item qty day W hzk.1 hzk.2 hnk (hsr.below hW) (HT.out.below (bel_on HB.out hW)))
      have Hb : Hid (BB k = b) := hb
      have Hv : Hid (VV k = v) := hv
      have hPg := bF_ge BB VV k
      rw [HP.out] at hPg
      simp only at hPg
      clear hck hsr hzk hBk hVk hb hv hnk
      cases b
      · have HN : Hid (bF BB VV (k + 1) = (P, V)) := hid (by rw [bF_f (fun h => by have := h.1; rw [Hb.out] at this; cases this)]; exact HP.out)
        go_wp2_with (go_at_call 66; refine (HCO.out _ (by go_grown)).mono ?_; rintro e w1 ⟨rfl, b1⟩; have HB1 : Hid (Below w.heap.size w w1) := bel_on (bel_on HB.out (by go_grown)) b1; clear b1)
        go_roundw
        case rel => exact ⟨k + 1, P, V, by omega, by go_num, rfl, rfl, HN, HB1⟩
        case measure => simp [intOf]; omega
      · by_cases h1 : P = -1
        · have HN : Hid (bF BB VV (k + 1) = ((k : Int), v)) := hid (by rw [bF_t Hb.out (.inl (by rw [HP.out]; exact h1)), Hv.out])
          have e1 := eq_t h1
          clear h1
          go_wp2_with (go_at_call 66; refine (HCO.out _ (by go_grown)).mono ?_; rintro e w1 ⟨rfl, b1⟩; have HB1 : Hid (Below w.heap.size w w1) := bel_on (bel_on HB.out (by go_grown)) b1; clear b1)
          go_roundw
          case rel => exact ⟨k + 1, (k : Int), v, by omega, by go_num, rfl, rfl, HN, HB1⟩
          case measure => simp [intOf]; omega
        · have e1 := eq_f h1
          by_cases h2 : v < V
          · have HN : Hid (bF BB VV (k + 1) = ((k : Int), v)) := hid (by rw [bF_t Hb.out (.inr (by rw [HP.out, Hv.out]; exact h2)), Hv.out])
            clear h1
            go_wp2_with (go_at_call 66; refine (HCO.out _ (by go_grown)).mono ?_; rintro e w1 ⟨rfl, b1⟩; have HB1 : Hid (Below w.heap.size w w1) := bel_on (bel_on HB.out (by go_grown)) b1; clear b1)
            go_roundw
            case rel => exact ⟨k + 1, (k : Int), v, by omega, by go_num, rfl, rfl, HN, HB1⟩
            case measure => simp [intOf]; omega
          · have HN : Hid (bF BB VV (k + 1) = (P, V)) := hid (by
              rw [bF_f (fun h => by rcases h.2 with q | q <;> rw [HP.out] at q; (exact h1 q); (rw [Hv.out] at q; exact h2 q))]; exact HP.out)
            clear h1
            go_wp2_with (go_at_call 66; refine (HCO.out _ (by go_grown)).mono ?_; rintro e w1 ⟨rfl, b1⟩; have HB1 : Hid (Below w.heap.size w w1) := bel_on (bel_on HB.out (by go_grown)) b1; clear b1)
            go_roundw
            case rel => exact ⟨k + 1, P, V, by omega, by go_num, rfl, rfl, HN, HB1⟩
            case measure => simp [intOf]; omega
    · obtain rfl : k = len := by omega
      have lkk : ¬ (k : Int) < (k : Int) := by omega
      go_wp2
      go_returns
      exact ⟨ret_ii (by rw [HP.out]) (by rw [HP.out]), HB.out⟩

end Go.Proofs.Ytghphlnpginmhaa
