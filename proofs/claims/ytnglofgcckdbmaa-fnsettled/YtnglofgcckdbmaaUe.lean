/- Settle of the model. -/
import Derived.Test.YtnglofgcckdbmaaUc
namespace Go.Proofs.Ytnglofgcckdbmaa
open Go Go.ChangeShapes Go.WideShapes Go.ChangeAt Go.RowKit
set_option linter.unusedVariables false
set_option linter.unusedSimpArgs false

/-- The pairs, one a step. -/
def paF (c d : Nat → OI2) (n m k : Nat) : PA3 := ⟨(iF c d n m k : Int), (jF c d n m k : Int), xF c d n m k⟩
/-- What a call leaves: a row of its own with the pairs. -/
def SeR (c d : Nat → OI2) (n m : Nat) (w : World) (e : Ending) (w' : World) : Prop := ∃ ad cap, e = .returned (.slice ad (seM c d n m) cap) ∧ OwnPA3 w' w.heap.size ad (seM c d n m) (paF c d n m) ∧ Below w.heap.size w w'
theorem seR_no {c d : Nat → OI2} {n m : Nat} {w w' : World} {ad : Option Addr} {cap : Nat} (h : ¬ (opB n c = true ∧ opB m d = true)) (b : Below w.heap.size w w') : SeR c d n m w (.returned (.slice ad 0 cap)) w' := ⟨ad, cap, by rw [seM_no c d n m h], .inl (seM_no c d n m h), b⟩
theorem seR_yes {c d : Nat → OI2} {n m k g oc : Nat} {w w' : World} (ho : opB n c = true ∧ opB m d = true) (h : isM c d n m k) (hown : w'.ownsRow w.heap.size 38 3 (.slice (some ⟨g, 0, none⟩) k oc) k (rowPA3 (paF c d n m) k)) (b : Below w.heap.size w w') : SeR c d n m w (.returned (.slice (some ⟨g, 0, none⟩) k oc)) w' := by
  obtain ⟨ad, cp, h1, h2, h3⟩ := ownPA3_of hown
  simp only [Value.slice.injEq] at h1
  obtain ⟨rfl, _, rfl⟩ := h1
  have e := seM_is c d n m ho h
  exact ⟨_, _, by rw [e], by rw [e]; exact h3, b⟩
def slLen : Value → Nat
  | .slice _ n _ => n
  | _ => 0
/-- Both lists of what is left, each in a block of its own, beside the pairs so far. -/
structure SQ (w : World) (ga gb gp k oc : Nat) (F : Nat → PA3) (n m : Nat) (za zb : Nat → Int) (W : World) : Prop where
  own : W.ownsRow w.heap.size 38 3 (.slice (some ⟨gp, 0, none⟩) k oc) k (rowPA3 F k)
  ia : IB W ga n za
  ib : IB W gb m zb
  ne : ga ≠ gb ∧ ga ≠ gp ∧ gb ≠ gp ∧ w.heap.size ≤ ga ∧ w.heap.size ≤ gb
  bel : Below w.heap.size w W
section
variable {w W W' : World} {ga gb gp k oc n m : Nat} {F : Nat → PA3} {za zb : Nat → Int}
theorem SQ.below (h : SQ w ga gb gp k oc F n m za zb W) (b : Below W.heap.size W W') : SQ w ga gb gp k oc F n m za zb W' := ⟨earow h.own (fun q hq => b.block q (h.own.lt q hq).2), h.ia.below b, h.ib.below b, h.ne, bel_on h.bel b⟩
theorem SQ.setA (h : SQ w ga gb gp k oc F n m za zb W) {i : Nat} (hi : i < n) (x : Int) : SQ w ga gb gp k oc F n m (upd za i x) zb (W.setCell ⟨ga, i, none⟩ (.int .i64 x)) :=
  ⟨earow h.own (fun q hq => Below.heap_setCell _ _ _ _ (by have e : q = gp := (by simpa [Value.ownBlock] using hq.symm); subst e; exact fun e => h.ne.2.1 e.symm)), h.ia.set hi x, h.ib.other _ (fun e => h.ne.1 e.symm), h.ne, h.bel.setCell h.ne.2.2.2.1 _⟩
theorem SQ.setB (h : SQ w ga gb gp k oc F n m za zb W) {i : Nat} (hi : i < m) (x : Int) : SQ w ga gb gp k oc F n m za (upd zb i x) (W.setCell ⟨gb, i, none⟩ (.int .i64 x)) :=
  ⟨earow h.own (fun q hq => Below.heap_setCell _ _ _ _ (by have e : q = gp := (by simpa [Value.ownBlock] using hq.symm); subst e; exact fun e => h.ne.2.2.1 e.symm)), h.ia.other _ h.ne.1, h.ib.set hi x, h.ne, h.bel.setCell h.ne.2.2.2.2 _⟩
theorem SQ.grow {w9 : World} {g9 oc9 : Nat} (h : SQ w ga gb gp k oc F n m za zb W) (hg : W.grownBy w9 (Value.slice (some ⟨gp, 0, none⟩) k oc).ownBlock) (hown : w9.ownsRow w.heap.size 38 3 (.slice (some ⟨g9, 0, none⟩) (k + 1) oc9) (k + 1) (rowPA3 F (k + 1))) (hat : (Value.slice (some ⟨g9, 0, none⟩) (k + 1) oc9).ownBlock = (Value.slice (some ⟨gp, 0, none⟩) k oc).ownBlock ∨ (Value.slice (some ⟨g9, 0, none⟩) (k + 1) oc9).ownBlock = some W.heap.size) : SQ w ga gb g9 (k + 1) oc9 F n m za zb w9 := by
  have hgg := h.own.lt gp rfl
  have hg9 : g9 = gp ∨ g9 = W.heap.size := by simpa [Value.ownBlock] using hat
  have la := h.ia.lt
  have lb := h.ib.lt
  obtain ⟨n1, n2, n3, n4, n5⟩ := h.ne
  refine ⟨hown, h.ia.keep (hg.block _ la (by simpa [Value.ownBlock] using n2)), h.ib.keep (hg.block _ lb (by simpa [Value.ownBlock] using n3)), ⟨n1, by omega, by omega, n4, n5⟩, egrown h.bel (Nat.le_refl _) hg (fun q hq => ?_)⟩
  have : q = gp := by simpa [Value.ownBlock] using hq.symm
  omega
end
theorem opB_amt {n : Nat} {c : Nat → OI2} (h : opB n c = true) : n ≤ 100 ∧ (∀ q, q < n → 0 ≤ (c q).amount ∧ (c q).amount ≤ 100000000000) ∧ (∀ q, q < n → 0 < (c q).amount) := by
  obtain ⟨h1, h2⟩ := opB_p h
  exact ⟨h1, fun q hq => by have := (oiB_p (h2 q hq)).2; omega, fun q hq => by have := (oiB_p (h2 q hq)).2; omega⟩

set_option maxRecDepth 20000 in
set_option maxHeartbeats 16000000 in
theorem specSettle_any (ad1 ad2 : Option Addr) (n m cap1 cap2 : Nat) (c d : Nat → OI2) (w : World) (h1 : (n : Int) ≤ 1048576) (h2 : (m : Int) ≤ 1048576) (r1 : OIr w ad1 n c) (r2 : OIr w ad2 m d) :
    Calls Try.prog 35 #[.slice ad1 n cap1, .slice ad2 m cap2] w (SeR c d n m w) := by
  have HR1 : Hid (∀ W, Below w.heap.size w W → OIr W ad1 n c) := hid (fun W b => r1.below b)
  have HR2 : Hid (∀ W, Below w.heap.size w W → OIr W ad2 m d) := hid (fun W b => r2.below b)
  clear r1 r2
  have HO1 : Hid (∀ W, Below w.heap.size w W → Calls Try.prog 77 #[.slice ad1 n cap1] W fun e w' => e = .returned (.bool (opB n c)) ∧ w' = W) := hid (fun W b => specOpen_any ad1 n cap1 c W h1 (HR1.out W b))
  have HO2 : Hid (∀ W, Below w.heap.size w W → Calls Try.prog 77 #[.slice ad2 m cap2] W fun e w' => e = .returned (.bool (opB m d)) ∧ w' = W) := hid (fun W b => specOpen_any ad2 m cap2 d W h2 (HR2.out W b))
  have HB0 : Hid (Below w.heap.size w (w.alloc (.cells #[] 38 (0, 0)))) := hid ((Below.refl _ _).alloc (Nat.le_refl _) _)
  have tok1 : True := trivial
  cases ho1 : opB n c
  · have HN : Hid (¬ (opB n c = true ∧ opB m d = true)) := hid (fun H => by rw [ho1] at H; cases H.1)
    rw [ho1] at HO1
    go_enter Try.func35, Try.ntmps35
    go_wp2_with (go_at_call 77; clear tok1; refine (HO1.out _ HB0.out).mono ?_; rintro e wq ⟨rfl, ew⟩; replace ew := ew.symm; subst ew)
    go_returns
    exact seR_no HN.out HB0.out
  cases ho2 : opB m d
  · have HN : Hid (¬ (opB n c = true ∧ opB m d = true)) := hid (fun H => by rw [ho2] at H; cases H.2)
    rw [ho1] at HO1
    rw [ho2] at HO2
    go_enter Try.func35, Try.ntmps35
    go_wp2_with (first | (go_at_call 77; clear tok1; refine (HO1.out _ HB0.out).mono ?_; rintro e wq ⟨rfl, ew⟩; replace ew := ew.symm; subst ew) | (go_at_call 77; refine (HO2.out _ HB0.out).mono ?_; rintro e wq ⟨rfl, ew⟩; replace ew := ew.symm; subst ew))
    go_returns
    exact seR_no HN.out HB0.out
  have HOO : Hid (opB n c = true ∧ opB m d = true) := hid ⟨ho1, ho2⟩
  obtain ⟨ln, hc, _⟩ := opB_amt ho1
  obtain ⟨lm, hd, _⟩ := opB_amt ho2
  have HBD : Hid (∀ k, runs c d n m k → (∀ q, q < n → 0 ≤ (sq c d n m k).1 q ∧ (sq c d n m k).1 q ≤ 100000000000) ∧ (∀ q, q < m → 0 ≤ (sq c d n m k).2 q ∧ (sq c d n m k).2 q ≤ 100000000000)) := hid (sq_bd c d n m hc hd)
  rw [ho1] at HO1
  rw [ho2] at HO2
  have HA1 : Hid (∀ W, Below w.heap.size w W → Calls Try.prog 78 #[.slice ad1 n cap1] W fun e w' => ∃ g oc, e = .returned (.slice (some ⟨g, 0, none⟩) n oc) ∧ IB w' g n (fun q => (c q).amount) ∧ W.heap.size ≤ g ∧ Below W.heap.size W w') := hid (fun W b => amounts_any ad1 n cap1 c W h1 (HR1.out W b))
  have HA2 : Hid (∀ W, Below w.heap.size w W → Calls Try.prog 78 #[.slice ad2 m cap2] W fun e w' => ∃ g oc, e = .returned (.slice (some ⟨g, 0, none⟩) m oc) ∧ IB w' g m (fun q => (d q).amount) ∧ W.heap.size ≤ g ∧ Below W.heap.size W w') := hid (fun W b => amounts_any ad2 m cap2 d W h2 (HR2.out W b))
  obtain ⟨i4, hi4, hz40, hz41, hz42⟩ := infoPA3
  clear ho1 ho2 hc hd
  have tok2 : True := trivial
  go_enter Try.func35, Try.ntmps35
  go_wp2_with (first
    | (go_at_call 77; clear tok1; refine (HO1.out _ HB0.out).mono ?_; rintro e wq ⟨rfl, ew⟩; replace ew := ew.symm; subst ew)
    | (go_at_call 77; refine (HO2.out _ HB0.out).mono ?_; rintro e wq ⟨rfl, ew⟩; replace ew := ew.symm; subst ew)
    | (go_at_call 78; clear tok2; refine (HA1.out _ HB0.out).mono ?_; rintro e w1 ⟨ga, oca, rfl, i1, l1, b1⟩; have HI1 := hid i1; have HB1 : Hid (Below w.heap.size w w1) := hid (bel_on HB0.out b1); have HP1 : Hid (CB w1 w.heap.size #[] 38) := hid ((CB.new _ _).below b1 (by simp)); have l1' : w.heap.size < ga := (by simp at l1; omega); clear i1 l1 b1)
    | (go_at_call 78; refine (HA2.out _ HB1.out).mono ?_; rintro e w2 ⟨gb, ocb, rfl, i2, l2, b2⟩; have HS2 : Hid (SQ w ga gb w.heap.size 0 0 (paF c d n m) n m (sq c d n m 0).1 (sq c d n m 0).2 w2) := hid ⟨madePA3 (HP1.out.below b2 HP1.out.lt) (Nat.le_refl _), HI1.out.below b2, i2, (by have := HI1.out.lt; omega), bel_on HB1.out b2⟩; clear i2 l2 b2))
  clear HA1 HA2 HO1 HO2 HB0 HI1 HB1 HP1 l1'
  go_loopw [5, 8, 9, 10] (fun v i j x wr => ∃ (k gp oc : Nat), v = .slice (some ⟨gp, 0, none⟩) k oc ∧ Hid (runs c d n m k ∧ SQ w ga gb gp k oc (paF c d n m) n m (sq c d n m k).1 (sq c d n m k).2 wr)) (fun v _ _ _ _ => n + m - slLen v)
  case atStart => exact ⟨0, w.heap.size, 0, by simp, fun j hj => by omega, HS2.out⟩
  case round =>
    clear HS2
    obtain ⟨k, gp, oc, rfl, HH⟩ := hrel
    obtain ⟨wo, rfl⟩ : ∃ x, x = wr := ⟨wr, rfl⟩
    obtain ⟨za, hza⟩ : ∃ z, (sq c d n m k).1 = z := ⟨_, rfl⟩
    obtain ⟨zb, hzb⟩ : ∃ z, (sq c d n m k).2 = z := ⟨_, rfl⟩
    have HZ : Hid ((sq c d n m k).1 = za ∧ (sq c d n m k).2 = zb) := ⟨hza, hzb⟩
    have HQ : Hid (SQ w ga gb gp k oc (paF c d n m) n m za zb wo) := hid (by have := HH.out.2; rw [hza, hzb] at this; exact this)
    have HRN : Hid (runs c d n m k) := HH.out.1
    clear HH hza hzb
    obtain ⟨X, hX⟩ : ∃ X, nx c za n = X := ⟨_, rfl⟩
    obtain ⟨Y, hY⟩ : ∃ Y, nx d zb m = Y := ⟨_, rfl⟩
    have HN1 : Hid (Calls Try.prog 79 #[.slice ad1 n cap1, .slice (some ⟨ga, 0, none⟩) n oca] wo fun e w' => e = .returned (.int .i64 X) ∧ Below wo.heap.size wo w') := hid (by have := next_any ad1 n cap1 ga oca c za wo h1 (HR1.out _ HQ.out.bel) HQ.out.ia; rw [hX] at this; exact this)
    have HN2 : Hid (∀ W, Below wo.heap.size wo W → Calls Try.prog 79 #[.slice ad2 m cap2, .slice (some ⟨gb, 0, none⟩) m ocb] W fun e w' => e = .returned (.int .i64 Y) ∧ Below W.heap.size W w') := hid (fun W b => by have := next_any ad2 m cap2 gb ocb d zb W h2 (HR2.out _ (bel_on HQ.out.bel b)) (HQ.out.below b).ib; rw [hY] at this; exact this)
    have HXY : Hid (nx c za n = X ∧ nx d zb m = Y) := ⟨hX, hY⟩
    clear hX hY
    have tok3 : True := trivial
    by_cases hx0 : X < 0
    · have HST : Hid (isM c d n m k) := hid ⟨HRN.out, .inl (by rw [HZ.out.1, HXY.out.1]; exact hx0)⟩
      have dx : decide (X < 0) = true := decide_eq_true hx0
      go_wp2_with (first
        | (go_at_call 79; clear tok3; refine HN1.out.mono ?_; rintro e w3 ⟨rfl, b3⟩; have HB3 := hid b3; have HQ3 := hid (HQ.out.below b3); clear b3)
        | (go_at_call 79; refine (HN2.out _ HB3.out).mono ?_; rintro e w4 ⟨rfl, b4⟩; have HQ4 := hid (HQ3.out.below b4); clear b4))
      go_returns
      exact seR_yes HOO.out HST.out HQ4.out.own HQ4.out.bel
    · have dx : decide (X < 0) = false := decide_eq_false hx0
      by_cases hy0 : Y < 0
      · have HST : Hid (isM c d n m k) := hid ⟨HRN.out, .inr (by rw [HZ.out.2, HXY.out.2]; exact hy0)⟩
        have dy : decide (Y < 0) = true := decide_eq_true hy0
        go_wp2_with (first
          | (go_at_call 79; clear tok3; refine HN1.out.mono ?_; rintro e w3 ⟨rfl, b3⟩; have HB3 := hid b3; have HQ3 := hid (HQ.out.below b3); clear b3)
          | (go_at_call 79; refine (HN2.out _ HB3.out).mono ?_; rintro e w4 ⟨rfl, b4⟩; have HQ4 := hid (HQ3.out.below b4); clear b4))
        go_returns
        exact seR_yes HOO.out HST.out HQ4.out.own HQ4.out.bel
      · have dy : decide (Y < 0) = false := decide_eq_false hy0
        have HNS : Hid (¬ stop c d n m k) := hid (fun H => by unfold stop at H; rw [HZ.out.1, HZ.out.2, HXY.out.1, HXY.out.2] at H; omega)
        obtain ⟨⟨a1, a2, a3⟩, ⟨b1, b2, b3⟩⟩ := go_at c d n m HNS.out
        have hkl := runs_lt c d n m HRN.out HNS.out
        obtain ⟨bd1, bd2⟩ := HBD.out k HRN.out
        have u1 := (bd1 _ a2).2
        have u2 := (bd2 _ b2).2
        have HPF : Hid (paF c d n m k = ⟨(iF c d n m k : Int), (jF c d n m k : Int), mnV ((sq c d n m k).1 (iF c d n m k)) ((sq c d n m k).2 (jF c d n m k))⟩) := rfl
        have HS1 := hid (sq_1 c d n m k)
        have HS2 := hid (sq_2 c d n m k)
        unfold xF at HS1 HS2
        obtain ⟨i0, hi0⟩ : ∃ i, iF c d n m k = i := ⟨_, rfl⟩
        obtain ⟨j0, hj0⟩ : ∃ i, jF c d n m k = i := ⟨_, rfl⟩
        rw [HZ.out.1, hi0] at a1 a3 u1
        rw [HZ.out.2, hj0] at b1 b3 u2
        rw [hi0] at a2
        rw [hj0] at b2
        rw [HZ.out.1, HZ.out.2, hi0, hj0] at HPF HS1 HS2
        have hXi : X = (i0 : Int) := HXY.out.1.symm.trans a1
        have hYj : Y = (j0 : Int) := HXY.out.2.symm.trans b1
        subst hXi
        subst hYj
        obtain ⟨A, hA⟩ : ∃ A, za i0 = A := ⟨_, rfl⟩
        obtain ⟨D, hD⟩ : ∃ D, zb j0 = D := ⟨_, rfl⟩
        rw [hA] at a3 u1
        rw [hD] at b3 u2
        rw [hA, hD] at HPF HS1 HS2
        have HAD : Hid (za i0 = A ∧ zb j0 = D) := ⟨hA, hD⟩
        have hi2 : (i0 : Int) < (n : Int) := by omega
        have hj2 : (j0 : Int) < (m : Int) := by omega
        have HRN2 := hid (runs_next c d n m HRN.out HNS.out)
        have Hil := hid (And.intro a2 b2)
        clear a1 b1 bd1 bd2 hi0 hj0 hA hD HXY HNS a2 b2
        by_cases hlt : D < A
        · have hmn : mnV A D = D := if_pos hlt
          have dlt : decide (D < A) = true := decide_eq_true hlt
          rw [hmn] at HPF HS1 HS2
          clear hmn
          go_wp2_with (first
            | (go_at_call 79; clear tok3; refine HN1.out.mono ?_; rintro e w3 ⟨rfl, b3⟩; have HB3 := hid b3; have HQ3 := hid (HQ.out.below b3); clear b3)
            | (go_at_call 79; refine (HN2.out _ HB3.out).mono ?_; rintro e w4 ⟨rfl, b4⟩; have HQ4 := hid (HQ3.out.below b4); have ca : w4.cell? ⟨ga, i0, none⟩ = some (.int .i64 A) := (by have := HQ4.out.ia.cell Hil.out.1; rw [HAD.out.1] at this; exact this); have cb : w4.cell? ⟨gb, j0, none⟩ = some (.int .i64 D) := (by have := HQ4.out.ib.cell Hil.out.2; rw [HAD.out.2] at this; exact this); have fa := HQ4.out.ia.fr i0; have fb := HQ4.out.ib.fr j0; have nab := HQ4.out.ne.1; have nba : gb ≠ ga := (fun e => nab e.symm); have HQ5 : Hid (SQ w ga gb gp k oc (paF c d n m) n m (sq c d n m (k + 1)).1 (sq c d n m (k + 1)).2 ((w4.setCell ⟨ga, i0, none⟩ (.int .i64 (A - D))).setCell ⟨gb, j0, none⟩ (.int .i64 0))) := hid (by rw [HS1.out, HS2.out]; simp only [Int.sub_self]; exact (HQ4.out.setA Hil.out.1 _).setB Hil.out.2 _); clear b4)
            | (at_builtin; go_loud (refine wpList_append_own_at _ rfl _ _ 32 rfl w.heap.size 38 i4 (.agg #[.int .i64 0, .int .i64 0, .int .i64 0]) 3 24 Try.underlying32 hi4 hz40 hz41 hz42 rfl (by decide) (.slice (some ⟨gp, 0, none⟩) k oc) k (rowPA3 (paF c d n m) k) rfl (HQ5.out.below ((Below.refl _ _).alloc (Nat.le_refl _) _)).own ⟨_, 0, none⟩ 1 1 [.int .i64 (i0 : Int), .int .i64 (j0 : Int), .int .i64 D] rfl rfl (ecells (by first | rfl | simp)) (fun u hu => by simp at hu; rcases hu with rfl | rfl | rfl <;> rfl) (by unfold maxLen; omega) (by omega) (by have := HQ5.out.own.lt gp rfl; simp at this ⊢; omega) ?_); intro v9 w9 hown hgrow hnil hat; obtain ⟨g9, oc9, rfl, _⟩ := eown_some hown (by omega); have R9 : Hid (SQ w ga gb g9 (k + 1) oc9 (paF c d n m) n m (sq c d n m (k + 1)).1 (sq c d n m (k + 1)).2 w9) := hid ((HQ5.out.below ((Below.refl _ _).alloc (Nat.le_refl _) _)).grow hgrow (by rw [rowPA3, HPF.out]; exact hown) hat); clear hown hgrow hnil hat))
          go_roundw
          case rel => exact ⟨k + 1, g9, oc9, rfl, HRN2.out, R9.out⟩
          case measure => simp [slLen]; omega
        · have hmn : mnV A D = A := if_neg hlt
          have dlt : decide (D < A) = false := decide_eq_false hlt
          rw [hmn] at HPF HS1 HS2
          clear hmn
          go_wp2_with (first
            | (go_at_call 79; clear tok3; refine HN1.out.mono ?_; rintro e w3 ⟨rfl, b3⟩; have HB3 := hid b3; have HQ3 := hid (HQ.out.below b3); clear b3)
            | (go_at_call 79; refine (HN2.out _ HB3.out).mono ?_; rintro e w4 ⟨rfl, b4⟩; have HQ4 := hid (HQ3.out.below b4); have ca : w4.cell? ⟨ga, i0, none⟩ = some (.int .i64 A) := (by have := HQ4.out.ia.cell Hil.out.1; rw [HAD.out.1] at this; exact this); have cb : w4.cell? ⟨gb, j0, none⟩ = some (.int .i64 D) := (by have := HQ4.out.ib.cell Hil.out.2; rw [HAD.out.2] at this; exact this); have fa := HQ4.out.ia.fr i0; have fb := HQ4.out.ib.fr j0; have nab := HQ4.out.ne.1; have nba : gb ≠ ga := (fun e => nab e.symm); have HQ5 : Hid (SQ w ga gb gp k oc (paF c d n m) n m (sq c d n m (k + 1)).1 (sq c d n m (k + 1)).2 ((w4.setCell ⟨ga, i0, none⟩ (.int .i64 0)).setCell ⟨gb, j0, none⟩ (.int .i64 (D - A)))) := hid (by rw [HS1.out, HS2.out]; simp only [Int.sub_self]; exact (HQ4.out.setA Hil.out.1 _).setB Hil.out.2 _); clear b4)
            | (at_builtin; go_loud (refine wpList_append_own_at _ rfl _ _ 32 rfl w.heap.size 38 i4 (.agg #[.int .i64 0, .int .i64 0, .int .i64 0]) 3 24 Try.underlying32 hi4 hz40 hz41 hz42 rfl (by decide) (.slice (some ⟨gp, 0, none⟩) k oc) k (rowPA3 (paF c d n m) k) rfl (HQ5.out.below ((Below.refl _ _).alloc (Nat.le_refl _) _)).own ⟨_, 0, none⟩ 1 1 [.int .i64 (i0 : Int), .int .i64 (j0 : Int), .int .i64 A] rfl rfl (ecells (by first | rfl | simp)) (fun u hu => by simp at hu; rcases hu with rfl | rfl | rfl <;> rfl) (by unfold maxLen; omega) (by omega) (by have := HQ5.out.own.lt gp rfl; simp at this ⊢; omega) ?_); intro v9 w9 hown hgrow hnil hat; obtain ⟨g9, oc9, rfl, _⟩ := eown_some hown (by omega); have R9 : Hid (SQ w ga gb g9 (k + 1) oc9 (paF c d n m) n m (sq c d n m (k + 1)).1 (sq c d n m (k + 1)).2 w9) := hid ((HQ5.out.below ((Below.refl _ _).alloc (Nat.le_refl _) _)).grow hgrow (by rw [rowPA3, HPF.out]; exact hown) hat); clear hown hgrow hnil hat))
          go_roundw
          case rel => exact ⟨k + 1, g9, oc9, rfl, HRN2.out, R9.out⟩
          case measure => simp [slLen]; omega
end Go.Proofs.Ytnglofgcckdbmaa
