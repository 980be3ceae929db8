/- Instalments: plain, and those of the program. -/
import Derived.Test.YtlhgmdmbjpaakaaDoorIc
import Derived.Test.YtlhgmdmbjpaakaaDoorRq
import Derived.Test.YtlhgmdmbjpaakaaDoorZW
import Derived.Test.YtlhgmdmbjpaakaaDoorAe
import Derived.Test.YtlhgmdmbjpaakaaDoorMj
import Derived.Test.YtlhgmdmbjpaakaaDoorMm
namespace Go.Proofs.YtlhgmdmbjpaakaaDoor
open Go Go.ChangeShapes Go.WideShapes Go.ChangeAt Go.RowKit
set_option linter.unusedVariables false
set_option linter.unusedSimpArgs false

theorem md_abs (a num den m : Int) : -100000000000 ≤ mdV a num den m ∧ mdV a num den m ≤ 100000000000 := by
  by_cases h : MdOk a num den m
  · by_cases g : -100000000000 ≤ dv (a * num) den m ∧ dv (a * num) den m ≤ 100000000000
    · rw [(md_in h g.1 g.2).2]; exact g
    · rw [(md_out g).2]; omega
  · rw [(md_bad h).2]; omega
def ones : Nat → Int := fun _ => 1
theorem sm_ones : ∀ n : Nat, Sh.sm ones n = (n : Int)
  | 0 => rfl
  | n + 1 => by show Sh.sm ones n + 1 = _; rw [sm_ones n]; omega
theorem sh_ok {a : Int} {n : Nat} (ha : 1 ≤ a ∧ a ≤ 100000000000) (hn : 1 ≤ n ∧ n ≤ 120) : Sh.ShOk a n ones := ⟨by omega, by omega, fun j _ => by show (0 : Int) ≤ 1 ∧ (1 : Int) ≤ 10000000; omega, by rw [sm_ones]; omega⟩
/-- The parts. -/
noncomputable def ptF (a : Int) (n : Nat) : Nat → Int := Sh.shV a n ones
theorem pt_bd {a : Int} {n : Nat} (ha : 1 ≤ a ∧ a ≤ 100000000000) (hn : 1 ≤ n ∧ n ≤ 120) {j : Nat} (hj : j < n) : 0 ≤ ptF a n j ∧ ptF a n j ≤ a := by
  have h := (Sh.shV_facts (sh_ok ha hn)).2.1 j hj
  rw [sm_ones] at h
  obtain ⟨P, hP⟩ : ∃ P, ptF a n j = P := ⟨_, rfl⟩
  unfold ptF at hP ⊢
  rw [hP] at h ⊢
  have ho : ones j = 1 := rfl
  rw [ho, Int.mul_one] at h
  have hN : (1 : Int) ≤ (n : Int) := by omega
  constructor
  · rcases Int.lt_or_le P 0 with q | q
    · have : P * (n : Int) ≤ -1 * (n : Int) := Int.mul_le_mul_of_nonneg_right (by omega) (by omega)
      omega
    · exact q
  · rcases Int.lt_or_le a P with q | q
    · have h1 : (a + 1) * (n : Int) ≤ P * (n : Int) := Int.mul_le_mul_of_nonneg_right (by omega) (by omega)
      have h2 : a * 1 ≤ a * (n : Int) := Int.mul_le_mul_of_nonneg_left hN (by omega)
      rw [Int.add_mul, Int.one_mul] at h1
      omega
    · exact q
/-- What is left behind k parts. -/
def lfS (p : Nat → Int) (a : Int) : Nat → Int
  | 0 => a
  | k + 1 => lfS p a k - p k
noncomputable def inF (a : Int) (n : Nat) (r f : Int) (i : Nat) : IN4 := ⟨Dt.addV f (i : Int), ptF a n i, mdV (lfS (ptF a n) a i) r 100000 3, lfS (ptF a n) a (i + 1)⟩
def InP (a : Int) (n : Nat) (r f : Int) : Prop := (1 ≤ a ∧ a ≤ 100000000000) ∧ (1 ≤ n ∧ n ≤ 120) ∧ (0 ≤ r ∧ r ≤ 100000) ∧ ∀ i, i < n → 0 ≤ Dt.addV f (i : Int)
/-- How many instalments there are for a count. -/
def CtP (a : Int) (ct r f : Int) : Prop := (1 ≤ ct ∧ ct ≤ 120) ∧ InP a ct.toNat r f
open Classical in
noncomputable def inM (a ct r f : Int) : Nat := if CtP a ct r f then ct.toNat else 0
open Classical in
theorem inM_no {a ct r f : Int} (h : ¬ CtP a ct r f) : inM a ct r f = 0 := if_neg h
open Classical in
theorem inM_yes {a ct r f : Int} (h : CtP a ct r f) : inM a ct r f = ct.toNat := if_pos h
theorem inM_le (a ct r f : Int) : inM a ct r f ≤ 120 := by
  by_cases h : CtP a ct r f
  · rw [inM_yes h]; have := h.1; omega
  · rw [inM_no h]; omega
/-- What a call leaves: a row of its own with the instalments. -/
def InR (a ct r f : Int) (w : World) (e : Ending) (w' : World) : Prop := ∃ ad cap, e = .returned (.slice ad (inM a ct r f) cap) ∧ OwnIN4 w' w.heap.size ad (inM a ct r f) (inF a ct.toNat r f) ∧ Below w.heap.size w w'
theorem addV_day (f n : Int) : Dt.addV f n = -1 ∨ (0 ≤ Dt.addV f n ∧ Dt.addV f n ≤ 40000) := by
  unfold Dt.addV
  split
  · unfold Dt.dayV
    split
    · rename_i h
      exact .inr ⟨Dt.sumV_nonneg h.2.2.2.1, h.2.2.2.2.2⟩
    · exact .inl rfl
  · exact .inl rfl
theorem own_IR {w : World} {base m cap : Nat} {ad : Option Addr} {xs : List Value} {z : Nat → Int} (h : w.ownsRow base 3 1 (.slice ad m cap) m xs) (hz : ∀ j, j < m → xs[j]? = some (.int .i64 (z j))) : IR w ad m z := by
  rcases h.2 with ⟨_, e⟩ | ⟨g, cap', cur, e, hb, hg, h3, h4, h5, h6⟩
  · exact .inl e
  · simp only [Value.slice.injEq] at e
    obtain ⟨rfl, _, rfl⟩ := e
    refine IR.of_block hg m z (fun j hj => ?_)
    rw [← hz j hj, ← h6, List.getElem?_take, if_pos (by omega)]; simp
theorem inR_no {a ct r f : Int} {w w' : World} {ad : Option Addr} {cap : Nat} (h : ¬ CtP a ct r f) (b : Below w.heap.size w w') : InR a ct r f w (.returned (.slice ad 0 cap)) w' := ⟨ad, cap, by rw [inM_no h], .inl (inM_no h), b⟩
theorem shares_in (sd : Bool) {a : Int} {n : Nat} (ha : 1 ≤ a ∧ a ≤ 100000000000) (hn : 1 ≤ n ∧ n ≤ 120) (W : World) (ad : Option Addr) (cap : Nat) (hr : IR W ad n ones) :
    Calls Tryd.prog (if sd = true then 16 else 28) #[.int .i64 a, .slice ad n cap] W fun e w' => ∃ ads caps, e = .returned (.slice ads n caps) ∧ IR w' ads n (ptF a n) ∧ (∀ k off, ads = some ⟨k, off, none⟩ → W.heap.size ≤ k) ∧ Below W.heap.size W w' := by
  have hok := sh_ok ha hn
  cases sd
  · refine (Sh.specShares_any a ad n cap ones W (by omega) hr).mono ?_
    rintro e w' ⟨ads, caps, he, ho, hb⟩
    rw [Sh.shM_ok hok] at he ho
    exact ⟨ads, caps, he, own_IR ho (fun j hj => Sh.intL_get hj), fun k off e => (by subst e; exact (ho.lt k rfl).1), hb⟩
  · refine (Sh.implShares_any a ad n cap ones W (by omega) hr).mono ?_
    rintro e w' ⟨ads, caps, he, ho, hb⟩
    rw [Sh.shM_ok hok] at he ho
    exact ⟨ads, caps, he, own_IR ho (fun j hj => Sh.intL_get hj), fun k off e => (by subst e; exact (ho.lt k rfl).1), hb⟩

set_option maxRecDepth 20000 in
set_option maxHeartbeats 8000000 in
theorem implInst_any (a ct r f : Int) (w : World) (ht : Dt.ML w) (hp : 0 < w.heap.size) :
    Calls Tryd.prog 6 #[.int .i64 a, .int .i64 ct, .int .i64 r, .int .i64 f] w (InR a ct r f w) := by
  have HT : Hid (Dt.ML w) := ht
  clear ht
  cases ha : inB a 1 100000000000
  · have HN : Hid (¬ CtP a ct r f) := hid (fun H => inB_f ha H.2.1)
    go_enter Tryd.func6, Tryd.ntmps6
    go_wp2_with (first | (go_at_call 14; refine (isAmtA_eq _ _ _ ha).mono ?_; rintro e wq ⟨rfl, ew⟩; replace ew := ew.symm; subst ew) | (go_at_call 15; refine (isRate_eq _ _ _ hr).mono ?_; rintro e wq ⟨rfl, ew⟩; replace ew := ew.symm; subst ew))
    go_returns
    exact inR_no HN.out (by go_grown)
  by_cases h1 : ct < 1
  · have HN : Hid (¬ CtP a ct r f) := hid (fun H => by have := H.1; omega)
    go_enter Tryd.func6, Tryd.ntmps6
    go_wp2_with (first | (go_at_call 14; refine (isAmtA_eq _ _ _ ha).mono ?_; rintro e wq ⟨rfl, ew⟩; replace ew := ew.symm; subst ew) | (go_at_call 15; refine (isRate_eq _ _ _ hr).mono ?_; rintro e wq ⟨rfl, ew⟩; replace ew := ew.symm; subst ew))
    go_returns
    exact inR_no HN.out (by go_grown)
  by_cases h2 : 120 < ct
  · have HN : Hid (¬ CtP a ct r f) := hid (fun H => by have := H.1; omega)
    go_enter Tryd.func6, Tryd.ntmps6
    go_wp2_with (first | (go_at_call 14; refine (isAmtA_eq _ _ _ ha).mono ?_; rintro e wq ⟨rfl, ew⟩; replace ew := ew.symm; subst ew) | (go_at_call 15; refine (isRate_eq _ _ _ hr).mono ?_; rintro e wq ⟨rfl, ew⟩; replace ew := ew.symm; subst ew))
    go_returns
    exact inR_no HN.out (by go_grown)
  cases hr : inB r 0 100000
  · have HN : Hid (¬ CtP a ct r f) := hid (fun H => inB_f hr H.2.2.2.1)
    go_enter Tryd.func6, Tryd.ntmps6
    go_wp2_with (first | (go_at_call 14; refine (isAmtA_eq _ _ _ ha).mono ?_; rintro e wq ⟨rfl, ew⟩; replace ew := ew.symm; subst ew) | (go_at_call 15; refine (isRate_eq _ _ _ hr).mono ?_; rintro e wq ⟨rfl, ew⟩; replace ew := ew.symm; subst ew))
    go_returns
    exact inR_no HN.out (by go_grown)
  have ha2 := inB_t ha
  have hr2 := inB_t hr
  obtain ⟨n, hn⟩ : ∃ n : Nat, ct = (n : Int) := ⟨ct.toNat, by omega⟩
  subst hn
  have hn1 : 1 ≤ n ∧ n ≤ 120 := by omega
  have hmk := mkIN4 n (by omega)
  have HSH := hid (shares_in true ha2 hn1)
  have HREP : Hid (∀ W kb cap, W.cell? ⟨kb, 0, none⟩ = some (.int .i64 1) → Calls Tryd.prog 17 #[.slice (some ⟨kb, 0, none⟩) 1 cap, .int .i64 (n : Int)] W fun e w' => ∃ g, e = .returned (.slice (some ⟨g, 0, none⟩) n n) ∧ IR w' (some ⟨g, 0, none⟩) n ones ∧ Below W.heap.size W w') := fun W kb cap hx => (repeat_any n (by omega) (by omega) kb cap W hx).mono fun e w' ⟨h1, h2, h3⟩ => ⟨_, h1, h2, h3⟩
  obtain ⟨p, hpp⟩ : ∃ p, ptF a n = p := ⟨_, rfl⟩
  have HPB : Hid (∀ j, j < n → 0 ≤ p j ∧ p j ≤ 100000000000) := hid (fun j hj => by have := pt_bd ha2 hn1 hj; rw [hpp] at this; omega)
  have HPP : Hid (ptF a n = p) := hpp
  rw [hpp] at HSH
  clear hpp
  go_enter Tryd.func6, Tryd.ntmps6
  go_wp2_with (first
    | (go_at_call 14; refine (isAmtA_eq _ _ _ ha).mono ?_; rintro e wq ⟨rfl, ew⟩; replace ew := ew.symm; subst ew)
    | (go_at_call 15; refine (isRate_eq _ _ _ hr).mono ?_; rintro e wq ⟨rfl, ew⟩; replace ew := ew.symm; subst ew)
    | (go_at_call 17; refine (HREP.out _ _ _ (((CB.newAt (w := w.alloc (.cells (zerosIN4 n) 27)) (b := w.heap.size + 1) (by simp) #[.int .i64 1] 3).cell 0).trans rfl)).mono ?_; rintro e w2 ⟨g2, rfl, i2, b2⟩; have HI2 := hid i2; have HB2 : Hid (Below w.heap.size w w2) := hid (bel_on (((Below.refl _ _).alloc (Nat.le_refl _) _).alloc (by simp) _) b2); have HC2 : Hid (CB w2 w.heap.size (zerosIN4 n) 27) := hid (((CB.new (w := w) (zerosIN4 n) 27).alloc _).below b2 (by simp <;> omega)); clear i2 b2)
    | (go_at_call 16; refine (HSH.out _ _ _ HI2.out).mono ?_; rintro e w3 ⟨ads, caps, rfl, i3, hfr, b3⟩; have HI3 := hid i3; have HNE : Hid (∀ k off, ads = some ⟨k, off, none⟩ → w.heap.size < k) := hid (fun k off e => (by have := hfr k off e; have := HC2.out.lt; omega)); clear hfr; have HB3 : Hid (Below w.heap.size w w3) := hid (bel_on HB2.out b3); have HC3 : Hid (CB w3 w.heap.size (zerosIN4 n) 27) := hid (HC2.out.below b3 HC2.out.lt); clear i3 b3))
  clear hmk HSH HREP ha hr
  obtain ⟨B, hB⟩ : ∃ B, w.heap.size = B := ⟨_, rfl⟩
  rw [hB] at HC3 ⊢
  go_loopw [10, 42] (fun x i wr => ∃ (k : Nat) (V : Int) (cs : Array Value), k ≤ n ∧ x = .int .i64 V ∧ i = .int .i64 (k : Int) ∧ -(100000000000 * (k : Int)) ≤ V ∧ V ≤ 100000000000 ∧ Hid (V = lfS p a k ∧ CB wr B cs 27 ∧ cs.size = n * 4 ∧ (∀ j, j < k → cs[j * 4]? = some (.int .i64 (inF a n r f j).day) ∧ cs[j * 4 + 1]? = some (.int .i64 (inF a n r f j).part) ∧ cs[j * 4 + 2]? = some (.int .i64 (inF a n r f j).interest) ∧ cs[j * 4 + 3]? = some (.int .i64 (inF a n r f j).left)) ∧ (∀ j, j < k → 0 ≤ Dt.addV f (j : Int)) ∧ Below w.heap.size w wr ∧ IR wr ads n p)) (fun _ i _ => n - (intOf i).toNat)
  case atStart => exact ⟨0, a, _, Nat.zero_le _, rfl, rfl, by omega, by omega, rfl, HC3.out, zerosIN4_size _, fun j hj => by omega, fun j hj => by omega, HB3.out, HI3.out⟩
  case round =>
    obtain ⟨k, V, cs, hk, rfl, rfl, hV0, hV1, HH⟩ := hrel
    obtain ⟨wo, rfl⟩ : ∃ x, x = wr := ⟨wr, rfl⟩
    by_cases hlt : k < n
    · have hlt2 : (k : Int) < (n : Int) := by omega
      obtain ⟨kb, off, rfl, hkb⟩ := HH.out.2.2.2.2.2.2.addr (by omega)
      have c0 := HH.out.2.2.2.2.2.2.cell hlt
      have hpb := HPB.out k hlt
      obtain ⟨P, hP⟩ : ∃ P, p k = P := ⟨_, rfl⟩
      rw [hP] at c0 hpb
      have HMLo : Hid (Dt.ML wo) := hid (HT.out.below HH.out.2.2.2.2.2.1 hp)
      have hpo : 0 < wo.heap.size := by have := HH.out.2.2.2.2.2.1.size; omega
      have HAD : Hid (Calls Tryd.prog 10 #[.int .i64 f, .int .i64 (k : Int)] wo fun e w' => e = .returned (.int .i64 (Dt.addV f (k : Int))) ∧ Below wo.heap.size wo w') := Dt.implAddMonths_any f k wo HMLo.out hpo
      have hdd := addV_day f (k : Int)
      obtain ⟨D, hD⟩ : ∃ D, Dt.addV f (k : Int) = D := ⟨_, rfl⟩
      have HD : Hid (Dt.addV f (k : Int) = D) := hD
      rw [hD] at HAD hdd
      have HP : Hid (p k = P) := hP
      clear hD hP
      cases hday : inB D 0 40000
      · have HN : Hid (¬ CtP a (n : Int) r f) := hid (fun H => by
          have := H.2.2.2.2 k (by rw [Int.toNat_natCast]; exact hlt)
          rw [HD.out] at this
          rcases hdd with q | q
          · omega
          · exact inB_f hday q)
        go_wp2_with (first
          | (go_at_call 10; refine HAD.out.mono ?_; rintro e w4 ⟨rfl, b4⟩; have HB4 : Hid (Below w.heap.size w w4) := hid (bel_on HH.out.2.2.2.2.2.1 b4); clear b4)
          | (go_at_call 18; refine (isDay_eq _ _ _ hday).mono ?_; rintro e wq ⟨rfl, ew⟩; replace ew := ew.symm; subst ew))
        go_returns
        exact inR_no HN.out (by first | exact HB4.out.alloc HB4.out.size _ | exact bel_on HB4.out (by go_grown))
      have hday2 := inB_t hday
      have hmd := md_abs V r 100000 3
      have HMD : Hid (∀ w, Calls Tryd.prog 9 #[.int .i64 V, .int .i64 r, .int .i64 100000, .int .i64 3] w fun e w' => e = .returned (.tuple #[.int .i64 (mdV V r 100000 3), .bool (mdB V r 100000 3)]) ∧ Below w.heap.size w w') := fun w => implMulDiv_any V r 100000 3 w
      obtain ⟨M, hM⟩ : ∃ M, mdV V r 100000 3 = M := ⟨_, rfl⟩
      obtain ⟨MB, hMB⟩ : ∃ M, mdB V r 100000 3 = M := ⟨_, rfl⟩
      rw [hM, hMB] at HMD
      have HF : Hid (inF a n r f k = ⟨D, P, M, V - P⟩) := hid (by unfold inF; rw [HPP.out, HD.out, HP.out, ← HH.out.1, hM]; unfold lfS; rw [← HH.out.1, HP.out])
      have HL : Hid (V - P = lfS p a (k + 1)) := hid (by unfold lfS; rw [← HH.out.1, HP.out])
      rw [hM] at hmd
      obtain ⟨v0, d0⟩ : ∃ v, cs[k * 4]? = some v := ⟨cs[k * 4]'(by have := HH.out.2.2.1; omega), Array.getElem?_eq_getElem (by have := HH.out.2.2.1; omega)⟩
      obtain ⟨v1, d1⟩ : ∃ v, cs[k * 4 + 1]? = some v := ⟨cs[k * 4 + 1]'(by have := HH.out.2.2.1; omega), Array.getElem?_eq_getElem (by have := HH.out.2.2.1; omega)⟩
      obtain ⟨v2, d2⟩ : ∃ v, cs[k * 4 + 2]? = some v := ⟨cs[k * 4 + 2]'(by have := HH.out.2.2.1; omega), Array.getElem?_eq_getElem (by have := HH.out.2.2.1; omega)⟩
      obtain ⟨v3, d3⟩ : ∃ v, cs[k * 4 + 3]? = some v := ⟨cs[k * 4 + 3]'(by have := HH.out.2.2.1; omega), Array.getElem?_eq_getElem (by have := HH.out.2.2.1; omega)⟩
      clear hM hMB
      go_wp2_with (first
        | (go_at_call 10; refine HAD.out.mono ?_; rintro e w4 ⟨rfl, b4⟩; have HB4 : Hid (Below wo.heap.size wo w4) := b4; clear b4)
        | (go_at_call 18; refine (isDay_eq _ _ _ hday).mono ?_; rintro e wq ⟨rfl, ew⟩; replace ew := ew.symm; subst ew)
        | (go_at_call 9; refine (HMD.out _).mono ?_; rintro e w5 ⟨rfl, b5⟩; have HB5 : Hid (Below wo.heap.size wo w5) := hid (bel_on HB4.out b5); have X1 : CB w5 B cs 27 := HH.out.2.1.below HB5.out HH.out.2.1.lt; have y0 := (X1.cell (k * 4)).trans d0; have f0 := X1.fr (k * 4); have y1 := (X1.cell (k * 4 + 1)).trans d1; have f1 := X1.fr (k * 4 + 1); have y2 := (X1.cell (k * 4 + 2)).trans d2; have f2 := X1.fr (k * 4 + 2); have y3 := (X1.cell (k * 4 + 3)).trans d3; have f3 := X1.fr (k * 4 + 3); have HX : Hid (CB w5 B cs 27) := X1; clear b5 X1))
      go_roundw
      case rel =>
        have hs := HH.out.2.2.1
        refine ⟨k + 1, V - P, ((((cs.setIfInBounds (k * 4) (.int .i64 D)).setIfInBounds (k * 4 + 1) (.int .i64 P)).setIfInBounds (k * 4 + 2) (.int .i64 M)).setIfInBounds (k * 4 + 3) (.int .i64 (V - P))), by omega, rfl, by go_num, by omega, by omega, HL.out, (((HX.out.set _ _).set _ _).set _ _).set _ _, by simp [hs], fun j hj => ?_, fun j hj => ?_, ?_, ?_⟩
        · by_cases hjk : j = k
          · subst hjk
            rw [HF.out]
            refine ⟨?_, ?_, ?_, ?_⟩
            · rw [get_set_ne (by omega), get_set_ne (by omega), get_set_ne (by omega), get_set_eq (by (try simp); omega)]
            · rw [get_set_ne (by omega), get_set_ne (by omega), get_set_eq (by (try simp); omega)]
            · rw [get_set_ne (by omega), get_set_eq (by (try simp); omega)]
            · rw [get_set_eq (by (try simp); omega)]
          · obtain ⟨z0, z1, z2, z3⟩ := HH.out.2.2.2.1 j (by omega)
            refine ⟨?_, ?_, ?_, ?_⟩ <;> (rw [get_set_ne (by omega), get_set_ne (by omega), get_set_ne (by omega), get_set_ne (by omega)]; assumption)
        · by_cases hjk : j = k
          · subst hjk; rw [HD.out]; exact hday2.1
          · exact HH.out.2.2.2.2.1 j (by omega)
        · have hbb := bel_on HH.out.2.2.2.2.2.1 HB5.out
          exact (((hbb.setCell (by show w.heap.size ≤ B; omega) _).setCell (by show w.heap.size ≤ B; omega) _).setCell (by show w.heap.size ≤ B; omega) _).setCell (by show w.heap.size ≤ B; omega) _
        · have hne : kb ≠ B := by have := HNE.out kb off rfl; omega
          have hI := HH.out.2.2.2.2.2.2.below HB5.out
          exact (((hI.other _ hne).other _ hne).other _ hne).other _ hne
      case measure => simp [intOf]; omega
    · obtain rfl : k = n := by omega
      have lkk : ¬ (k : Int) < (k : Int) := by omega
      have HY : Hid (CtP a (k : Int) r f) := hid ⟨by omega, by rw [Int.toNat_natCast]; exact ⟨ha2, hn1, hr2, HH.out.2.2.2.2.1⟩⟩
      have HEQ : Hid (inM a (k : Int) r f = k) := hid (by rw [inM_yes HY.out]; exact Int.toNat_natCast k)
      go_wp2
      go_returns
      refine ⟨some ⟨B, 0, none⟩, k, by rw [HEQ.out]; rfl, ?_, HH.out.2.2.2.2.2.1⟩
      rw [HEQ.out, Int.toNat_natCast]
      exact .inr ⟨B, cs, rfl, by omega, HH.out.2.1, by have := HH.out.2.2.1; omega, HH.out.2.2.2.1⟩
end Go.Proofs.YtlhgmdmbjpaakaaDoor
