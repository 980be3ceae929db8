/- Rank of the model answers the order by the rule. -/
import Derived.Test.YtogolmbgboihdaaRb
import Derived.Test.YtogolmbgboihdaaIb
import Derived.BigQuiet
import Derived.Deep.RegionHeldLaw
namespace Go.Proofs.Ytogolmbgboihdaa
open Go Go.ChangeShapes Go.WideShapes Go.ChangeAt Go.RowKit Srt
set_option linter.unusedVariables false
set_option linter.unusedSimpArgs false

set_option maxRecDepth 20000 in
set_option maxHeartbeats 4000000 in
theorem l19Key_eq (r : JB) (ra : Option Addr) (rc : Nat) (rule v : Int) (w : World) (hb : jbB r = true) (hR : TKr w ra r.rn r.rz) (hr : 1 ≤ rule ∧ rule ≤ 4) (h : keyV r rule = v) : Calls Try.prog 81 #[r.val ra rc, .int .i64 rule] w fun e w' => e = .returned (.int .i64 v) ∧ Below w.heap.size w w' := by
  subst h
  have HR : Hid (TKr w ra r.rn r.rz) := hR
  have hj := jbB_p hb
  have HT : Hid (∀ j, j < r.rn → tkB (r.rz j) = true) := hj.2.2
  have hn8 : (r.rn : Int) ≤ 8 := by have := hj.2.1; omega
  have hj1 := hj.1
  have HK : Hid (keyV r rule = if rule = 2 then hrS r.rz r.rn else if rule = 3 then -r.wgt else if rule = 4 then r.due - hrS r.rz r.rn else r.due) := hid rfl
  have HBL : Hid (Below w.heap.size w (w.alloc (.cells #[.int .i64 r.rdy, .int .i64 r.due, .int .i64 r.wgt, .slice ra r.rn rc] 34 (0, 0)))) := (Below.refl _ _).alloc (Nat.le_refl _) _
  have HCB : Hid (CB (w.alloc (.cells #[.int .i64 r.rdy, .int .i64 r.due, .int .i64 r.wgt, .slice ra r.rn rc] 34 (0, 0))) w.heap.size #[.int .i64 r.rdy, .int .i64 r.due, .int .i64 r.wgt, .slice ra r.rn rc] 34) := CB.new _ _
  clear hR hb hj
  obtain ⟨x0, x1, x2, n, z⟩ := r
  unfold JB.val
  simp only at HR HT hn8 HBL HCB hj1 HK
  go_enter Try.func81, Try.ntmps81
  go_wp2
  go_loopw [5, 6] (fun l i wr => ∃ (k : Nat) (L : Int), k ≤ n ∧ i = .int .i64 (k : Int) ∧ l = .int .i64 L ∧ 0 ≤ L ∧ L ≤ 500 * (k : Int) ∧ Hid (hrS z k = L ∧ Below w.heap.size w wr ∧ CB wr w.heap.size #[.int .i64 x0, .int .i64 x1, .int .i64 x2, .slice ra n rc] 34)) (fun _ i _ => n - (intOf i).toNat)
  case atStart => exact ⟨0, 0, Nat.zero_le _, rfl, rfl, by omega, by omega, rfl, HBL.out, HCB.out⟩
  case round =>
    obtain ⟨k, L, hk, rfl, rfl, hL0, hL1, HH⟩ := hrel
    have k1 := (HH.out.2.2.cell 1).trans rfl
    have k2 := (HH.out.2.2.cell 2).trans rfl
    have k3 := (HH.out.2.2.cell 3).trans rfl
    by_cases hlt : k < n
    · have hlt2 : (k : Int) < (n : Int) := by omega
      obtain ⟨kb, off, rfl, _⟩ := HR.out.addr (by omega)
      obtain ⟨c0, c1, c2⟩ := (HR.out.below HH.out.2.1).cell hlt
      have ht := tkB_p (HT.out k hlt)
      generalize hz : z k = t at *
      have HZ : Hid (z k = t) := hz
      obtain ⟨y0, y1, y2⟩ := t
      simp only at c0 c1 c2 ht
      have HS : Hid (hrS z (k + 1) = L + y1) := hid (by show hrS z k + (z k).hrs = _; rw [HH.out.1, HZ.out])
      clear hz
      go_wp2
      go_roundw
      case rel => exact ⟨k + 1, L + y1, by omega, by go_num, by go_num, by omega, by omega, HS.out, HH.out.2⟩
      case measure => simp [intOf]; omega
    · obtain rfl : k = n := by omega
      have lkk : ¬ (k : Int) < (k : Int) := by omega
      have hr4 : rule = 1 ∨ rule = 2 ∨ rule = 3 ∨ rule = 4 := by omega
      rcases hr4 with rfl | rfl | rfl | rfl
      · have HV : Hid (x1 = keyV ⟨x0, x1, x2, k, z⟩ 1) := hid (by rw [HK.out]; rfl)
        go_wp2
        go_returns
        exact ⟨ret_i HV.out, HH.out.2.1⟩
      · have HV : Hid (L = keyV ⟨x0, x1, x2, k, z⟩ 2) := hid (by rw [HK.out, HH.out.1]; rfl)
        go_wp2
        go_returns
        exact ⟨ret_i HV.out, HH.out.2.1⟩
      · have HV : Hid (-x2 = keyV ⟨x0, x1, x2, k, z⟩ 3) := hid (by rw [HK.out]; rfl)
        go_wp2
        go_returns
        exact ⟨ret_i HV.out, HH.out.2.1⟩
      · have HV : Hid (x1 - L = keyV ⟨x0, x1, x2, k, z⟩ 4) := hid (by rw [HK.out, HH.out.1]; rfl)
        go_wp2
        go_returns
        exact ⟨ret_i HV.out, HH.out.2.1⟩
/-- What stands while the next one is sought among the first q. -/
def BsP (d : Nat → JB) (rule : Int) (g : Nat → Int) (k q : Nat) (b : Int) : Prop := (b = -1 ∧ ∀ i : Nat, i < q → hasB g (i : Int) k = true) ∨ (0 ≤ b ∧ b < (q : Int) ∧ hasB g b k = false ∧ ∀ i : Nat, i < q → hasB g (i : Int) k = false → ¬ ltP d rule (i : Int) b)
theorem bs_has {d : Nat → JB} {rule : Int} {g : Nat → Int} {k q : Nat} {b : Int} (h : BsP d rule g k q b) (hq : hasB g (q : Int) k = true) : BsP d rule g k (q + 1) b := by
  rcases h with ⟨h1, h2⟩ | ⟨h1, h2, h3, h4⟩
  · refine .inl ⟨h1, fun i hi => ?_⟩
    by_cases e : i = q
    · subst e; exact hq
    · exact h2 i (by omega)
  · refine .inr ⟨h1, by omega, h3, fun i hi hh => ?_⟩
    by_cases e : i = q
    · subst e; rw [hq] at hh; cases hh
    · exact h4 i (by omega) hh
theorem bs_fst {d : Nat → JB} {rule : Int} {g : Nat → Int} {k q : Nat} {b : Int} (h : BsP d rule g k q b) (hb : b < 0) (hq : hasB g (q : Int) k = false) : BsP d rule g k (q + 1) (q : Int) := by
  rcases h with ⟨h1, h2⟩ | ⟨h1, _⟩
  · refine .inr ⟨by omega, by omega, hq, fun i hi hh => ?_⟩
    by_cases e : i = q
    · subst e; unfold ltP; omega
    · rw [h2 i (by omega)] at hh; cases hh
  · omega
theorem bs_new {d : Nat → JB} {rule : Int} {g : Nat → Int} {k q : Nat} {b : Int} (h : BsP d rule g k q b) (hb : 0 ≤ b) (hq : hasB g (q : Int) k = false) (hk : keyV (d q) rule < keyV (d b.toNat) rule) : BsP d rule g k (q + 1) (q : Int) := by
  rcases h with ⟨h1, h2⟩ | ⟨h1, h2, h3, h4⟩
  · omega
  · refine .inr ⟨by omega, by omega, hq, fun i hi hh => ?_⟩
    by_cases e : i = q
    · subst e; unfold ltP; omega
    · have := h4 i (by omega) hh
      unfold ltP at this ⊢
      simp only [Int.toNat_natCast] at this ⊢
      omega
theorem bs_old {d : Nat → JB} {rule : Int} {g : Nat → Int} {k q : Nat} {b : Int} (h : BsP d rule g k q b) (hb : 0 ≤ b) (hk : ¬ keyV (d q) rule < keyV (d b.toNat) rule) : BsP d rule g k (q + 1) b := by
  rcases h with ⟨h1, h2⟩ | ⟨h1, h2, h3, h4⟩
  · omega
  · refine .inr ⟨h1, by omega, h3, fun i hi hh => ?_⟩
    by_cases e : i = q
    · subst e; unfold ltP; simp only [Int.toNat_natCast]; omega
    · exact h4 i (by omega) hh
theorem bs_end {d : Nat → JB} {rule : Int} {g : Nat → Int} {k n : Nat} {b : Int} (h : BsP d rule g k n b) (hkn : k < n) : IsNx d rule n (fun j => if j = k then b else g j) k := by
  rcases h with ⟨h1, h2⟩ | ⟨h1, h2, h3, h4⟩
  · exfalso
    have hch : ∀ i : Nat, ∃ j, i < n → j < k ∧ g j = (i : Int) := fun i => by
      by_cases hi : i < n
      · obtain ⟨j, q1, q2⟩ := hasB_y (h2 i hi); exact ⟨j, fun _ => ⟨q1, q2⟩⟩
      · exact ⟨0, fun q => absurd q hi⟩
    have hp := fun i => Classical.choose_spec (hch i)
    refine no_inj k (fun i => Classical.choose (hch i)) (fun i hi => (hp i (by omega)).1) (fun i j h1 h2 e => ?_)
    have a1 := (hp i (by omega)).2
    have a2 := (hp j (by omega)).2
    rw [show Classical.choose (hch i) = Classical.choose (hch j) from e, a2] at a1
    omega
  · refine ⟨by simp only [if_true]; omega, fun i hi => ?_, fun x x0 x1 hx => ?_⟩
    · simp only [if_true, if_neg (show ¬ i = k by omega)]
      exact hasB_n h3 i hi
    · simp only [if_true]
      have e : ((x.toNat : Nat) : Int) = x := by omega
      have := h4 x.toNat (by omega) (hasB_f fun j hj => by have := hx j hj; simp only [if_neg (show ¬ j = k by omega)] at this; rw [e]; exact this)
      rw [e] at this; exact this
theorem nx_keep {d : Nat → JB} {rule : Int} {n k j : Nat} {g : Nat → Int} {b : Int} (h : IsNx d rule n g j) (hj : j < k) : IsNx d rule n (fun i => if i = k then b else g i) j := by
  obtain ⟨h1, h2, h3⟩ := h
  refine ⟨by simp only [if_neg (show ¬ j = k by omega)]; exact h1, fun i hi => ?_, fun x x0 x1 hx => ?_⟩
  · simp only [if_neg (show ¬ j = k by omega), if_neg (show ¬ i = k by omega)]; exact h2 i hi
  · simp only [if_neg (show ¬ j = k by omega)]
    exact h3 x x0 x1 fun i hi => by have := hx i hi; simp only [if_neg (show ¬ i = k by omega)] at this; exact this

set_option maxRecDepth 20000 in
set_option maxHeartbeats 8000000 in
theorem specRank_any (ja : Option Addr) (n jk : Nat) (d : Nat → JB) (rule : Int) (w : World) (hm : (n : Int) ≤ 1048576) (hl : ∀ j, j < n → ((d j).rn : Int) ≤ 1048576) (hJ : JBr w ja n d) :
    Calls Try.prog 42 #[.slice ja n jk, .int .i64 rule] w fun e w' => ∃ ad cap, e = .returned (.slice ad (rkM d rule n) cap) ∧ OwnI w' w.heap.size ad (rkM d rule n) (rkF d rule n) ∧ Below w.heap.size w w' := by
  have HJ0 : Hid (JBr w ja n d) := hJ
  have HN : Hid (∀ j, j < n → ((d j).rn : Int) ≤ 1048576) := hl
  have HBL : Hid (Below w.heap.size w (w.alloc (.cells #[] 3))) := (Below.refl _ _).alloc (Nat.le_refl _) _
  clear hJ hl
  cases h1 : inB rule 1 4
  · have HV := hid (rkM_n (d := d) (rule := rule) (n := n) fun H => by have := H.1; have := inB_f h1; omega)
    have HO : Hid (∀ W a, OwnI W w.heap.size a 0 (rkF d rule n)) := hid fun W a => .inl rfl
    simp only [HV.out]
    go_enter Try.func42, Try.ntmps42
    go_wp2_with (go_at_call 66; refine (l1In_any _ _ _ _).mono ?_; rintro e wh ⟨rfl, ew⟩; replace ew := ew.symm; subst ew)
    go_returns
    first | exact ⟨_, _, rfl, HO.out _ _, HBL.out⟩ | exact ⟨_, ⟨_, rfl⟩, HO.out _ _, HBL.out⟩
  have hr4 := inB_t h1
  cases h3 : arG jbB 40 n d
  · have HV := hid (rkM_n (d := d) (rule := rule) (n := n) fun H => by rw [arG_t H.2] at h3; cases h3)
    have HO : Hid (∀ W a, OwnI W w.heap.size a 0 (rkF d rule n)) := hid fun W a => .inl rfl
    have HA : Hid (arG jbB 40 n d = false) := h3
    clear h3
    simp only [HV.out]
    go_enter Try.func42, Try.ntmps42
    go_wp2_with (first | (go_at_call 66; refine (l1In_any _ _ _ _).mono ?_; rintro e wh ⟨rfl, ew⟩; replace ew := ew.symm; subst ew) | (go_at_call 67; refine (l19Jobs_eq ja n jk d _ _ hm HN.out (HJ0.out.below HBL.out) HA.out).mono ?_; rintro e w1 ⟨rfl, b1⟩; have HB1 : Hid (Below w.heap.size w w1) := bel_on HBL.out b1; clear b1))
    go_returns
    first | exact ⟨_, _, rfl, HO.out _ _, HB1.out⟩ | exact ⟨_, ⟨_, rfl⟩, HO.out _ _, HB1.out⟩
  have HR : Hid (RkOk d rule n) := ⟨⟨by omega, by omega⟩, arG_p h3⟩
  have HV := hid (rkM_y HR.out)
  have HA : Hid (arG jbB 40 n d = true) := h3
  have hn40 : (n : Int) ≤ 40 := by have := (arG_p h3).1; omega
  have HJB : Hid (∀ j, j < n → jbB (d j) = true) := HR.out.2.2
  have HST : Hid (AQ w w.heap.size 0 0 (fun _ => 0) (w.alloc (.cells #[] 3))) := AQ.start w _
  clear h3
  simp only [HV.out]
  obtain ⟨i3, hi3, hz30, hz31, hz32⟩ := info3
  go_enter Try.func42, Try.ntmps42
  go_wp2_with (first | (go_at_call 66; refine (l1In_any _ _ _ _).mono ?_; rintro e wh ⟨rfl, ew⟩; replace ew := ew.symm; subst ew) | (go_at_call 67; refine (l19Jobs_eq ja n jk d _ _ hm HN.out (HJ0.out.below HBL.out) HA.out).mono ?_; rintro e w1 ⟨rfl, b1⟩; have HB1 : Hid (Below w.heap.size w w1) := bel_on HBL.out b1; have HS1 := hid (HST.out.below b1); clear b1))
  go_loopw [5] (fun v wr => ∃ (k g oc : Nat) (z : Nat → Int), k ≤ n ∧ v = .slice (some ⟨g, 0, none⟩) k oc ∧ Hid (AQ w g k oc z wr) ∧ Hid (∀ j, j < k → IsNx d rule n z j)) (fun v _ => n - (match v with | .slice _ k _ => k | _ => 0))
  case atStart => exact ⟨0, w.heap.size, 0, fun _ => 0, Nat.zero_le _, rfl, HS1, fun j hj => by omega⟩
  case round =>
    obtain ⟨k, g, oc, z, hk, rfl, HH, HX⟩ := hrel
    by_cases hlt : k < n
    · have hlt2 : (k : Int) < (n : Int) := by omega
      go_wp2
      go_loopw [6, 7] (fun v i wr => ∃ (q : Nat) (b : Int), q ≤ n ∧ i = .int .i64 (q : Int) ∧ v = .int .i64 b ∧ Hid (BsP d rule z k q b) ∧ Hid (AQ w g k oc z wr)) (fun _ i _ => n - (intOf i).toNat)
      case atStart => exact ⟨0, -1, Nat.zero_le _, rfl, rfl, .inl ⟨rfl, fun i hi => by omega⟩, HH⟩
      case round =>
        obtain ⟨q, b, hq, rfl, rfl, HB, HQ⟩ := hrel
        obtain ⟨wi, rfl⟩ : ∃ x, x = wr := ⟨wr, rfl⟩
        by_cases hqt : q < n
        · have hqt2 : (q : Int) < (n : Int) := by omega
          cases hh : hasB z (q : Int) k
          · have HHS : Hid (∀ W, AQ w g k oc z W → Calls Try.prog 80 #[.slice (some ⟨g, 0, none⟩) k oc, .int .i64 (q : Int)] W fun e w' => e = .returned (.bool false) ∧ w' = W) := hid fun W h => l7Has_eq _ k oc z (q : Int) false W (by omega) h.row hh
            by_cases hb : b < 0
            · have HN2 : Hid (BsP d rule z k (q + 1) (q : Int)) := hid (bs_fst HB.out hb hh)
              have hdb : decide (b < 0) = true := decide_eq_true hb
              clear hh
              go_wp2
              go_quiet (first | (go_at_call 80; exact Calls.quiet_of_same (HHS.out _ (HQ.out.below (bd_N (Below.refl _ _) _)))))
              have HQ2 : Hid (AQ w g k oc z (wi.drewN nq)) := hid (HQ.out.below (bd_N (Below.refl _ _) _))
              generalize wi.drewN nq = W5 at HQ2 ⊢
              go_wp2
              go_roundw
              case rel => exact ⟨q + 1, (q : Int), by omega, by go_num, rfl, HN2, HQ2⟩
              case measure => simp [intOf]; omega
            · have hb0 : 0 ≤ b := by omega
              have hbq : b < (q : Int) := by
                rcases HB.out with ⟨h1, _⟩ | ⟨_, h2, _⟩
                · omega
                · exact h2
              obtain ⟨bn, hbn⟩ : ∃ bn : Nat, (bn : Int) = b := ⟨b.toNat, by omega⟩
              subst hbn
              have hdb : decide ((bn : Int) < 0) = false := decide_eq_false hb
              have hbn2 : bn < n := by omega
              have hbn3 : (bn : Int) < (n : Int) := by omega
              obtain ⟨kb, off, rfl, hkb⟩ := HJ0.out.addr (by omega)
              obtain ⟨xa, xc, _, c0, c1, c2, c3, c4⟩ := HJ0.out.cell hqt
              replace c0 := keep_cell HQ.out.bel c0
              replace c1 := keep_cell HQ.out.bel c1
              replace c2 := keep_cell HQ.out.bel c2
              replace c3 := keep_cell HQ.out.bel c3
              obtain ⟨ya, yc, _, e0, e1, e2, e3, e4⟩ := HJ0.out.cell hbn2
              replace e0 := keep_cell HQ.out.bel e0
              replace e1 := keep_cell HQ.out.bel e1
              replace e2 := keep_cell HQ.out.bel e2
              replace e3 := keep_cell HQ.out.bel e3
              obtain ⟨U, hU⟩ : ∃ U, keyV (d q) rule = U := ⟨_, rfl⟩
              obtain ⟨V, hV⟩ : ∃ V, keyV (d bn) rule = V := ⟨_, rfl⟩
              have HUV : Hid (keyV (d q) rule = U ∧ keyV (d bn) rule = V) := ⟨hU, hV⟩
              have HTQ : Hid (TKr w xa (d q).rn (d q).rz ∧ TKr w ya (d bn).rn (d bn).rz) := ⟨c4, e4⟩
              have HKQ : Hid (∀ W, Below w.heap.size w W → Calls Try.prog 81 #[.agg #[.int .i64 (d q).rdy, .int .i64 (d q).due, .int .i64 (d q).wgt, .slice xa (d q).rn xc], .int .i64 rule] W fun e w' => e = .returned (.int .i64 U) ∧ Below W.heap.size W w') := hid fun W h => l19Key_eq (d q) xa xc rule U W (HJB.out q hqt) (HTQ.out.1.below h) hr4 HUV.out.1
              have HKB : Hid (∀ W, Below w.heap.size w W → Calls Try.prog 81 #[.agg #[.int .i64 (d bn).rdy, .int .i64 (d bn).due, .int .i64 (d bn).wgt, .slice ya (d bn).rn yc], .int .i64 rule] W fun e w' => e = .returned (.int .i64 V) ∧ Below W.heap.size W w') := hid fun W h => l19Key_eq (d bn) ya yc rule V W (HJB.out bn hbn2) (HTQ.out.2.below h) hr4 HUV.out.2
              have HH0 : Hid (hasB z (q : Int) k = false) := hh
              clear hU hV c4 e4 hh
              generalize (d q).rdy = x0 at c0 HKQ
              generalize (d q).due = x1 at c1 HKQ
              generalize (d q).wgt = x2 at c2 HKQ
              generalize (d q).rn = x3 at c3 HKQ
              generalize (d bn).rdy = y0 at e0 HKB
              generalize (d bn).due = y1 at e1 HKB
              generalize (d bn).wgt = y2 at e2 HKB
              generalize (d bn).rn = y3 at e3 HKB
              go_wp2
              have Q0 : Hid ((wi.drew.cell? ⟨kb, off + q * 4, none⟩ = some (.int .i64 x0) ∧ wi.drew.cell? ⟨kb, off + q * 4 + 1, none⟩ = some (.int .i64 x1) ∧ wi.drew.cell? ⟨kb, off + q * 4 + 2, none⟩ = some (.int .i64 x2) ∧ wi.drew.cell? ⟨kb, off + q * 4 + 3, none⟩ = some (.slice xa x3 xc) ∧ wi.drew.cell? ⟨kb, off + bn * 4, none⟩ = some (.int .i64 y0) ∧ wi.drew.cell? ⟨kb, off + bn * 4 + 1, none⟩ = some (.int .i64 y1) ∧ wi.drew.cell? ⟨kb, off + bn * 4 + 2, none⟩ = some (.int .i64 y2) ∧ wi.drew.cell? ⟨kb, off + bn * 4 + 3, none⟩ = some (.slice ya y3 yc)) ∧ Below w.heap.size w wi.drew ∧ AQ w g k oc z wi.drew) := hid ⟨⟨c0, c1, c2, c3, e0, e1, e2, e3⟩, HQ.out.bel.drew, HQ.out.below ((Below.refl _ _).drew)⟩
              clear c0 c1 c2 c3 e0 e1 e2 e3
              refine wp_region_noPanic ?_
              refine wp_region_held_drew (S := fun w' => w'.cell? ⟨kb, off + q * 4, none⟩ = some (.int .i64 x0) ∧ w'.cell? ⟨kb, off + q * 4 + 1, none⟩ = some (.int .i64 x1) ∧ w'.cell? ⟨kb, off + q * 4 + 2, none⟩ = some (.int .i64 x2) ∧ w'.cell? ⟨kb, off + q * 4 + 3, none⟩ = some (.slice xa x3 xc) ∧ w'.cell? ⟨kb, off + bn * 4, none⟩ = some (.int .i64 y0) ∧ w'.cell? ⟨kb, off + bn * 4 + 1, none⟩ = some (.int .i64 y1) ∧ w'.cell? ⟨kb, off + bn * 4 + 2, none⟩ = some (.int .i64 y2) ∧ w'.cell? ⟨kb, off + bn * 4 + 3, none⟩ = some (.slice ya y3 yc)) (by kernel_rfl) (by exact Q0.out.1) (fun hHeld => ?_)
              generalize wi.drew = VD at Q0 hHeld ⊢
              refine wpAnyH_take (i := 0) (oi := { dst := some 29, op := Go.Op.move (Go.Operand.tmp 5), type := 26, pos := "l19_load.go:149", after := #[], guard := none }) (v := ?_) rfl (by kernel_rfl) (by kernel_rfl) (by kernel_rfl) (fun _ _ _ h => h) (Or.inl ⟨by rfl, ?_⟩) (by assumption) ?_
              rotate_left
              · (intro w hSw; (try dsimp only at hSw); go_simp <;> try with_reducible rfl)
              try simp only [Act.put, List.setIfInBounds_toArray, List.set_cons_zero, List.set_cons_succ]
              refine wpAnyH_take (i := 1) (oi := { dst := some 30, op := Go.Op.move (Go.Operand.tmp 7), type := 3, pos := "l19_load.go:149", after := #[], guard := none }) (v := ?_) rfl (by kernel_rfl) (by kernel_rfl) (by kernel_rfl) (fun _ _ _ h => h) (Or.inl ⟨by rfl, ?_⟩) (by assumption) ?_
              rotate_left
              · (intro w hSw; (try dsimp only at hSw); go_simp <;> try with_reducible rfl)
              try simp only [Act.put, List.setIfInBounds_toArray, List.set_cons_zero, List.set_cons_succ]
              refine wpAnyH_ready (rs := [2]) (by kernel_rfl) (by simp) ?_
              refine AllReadyH.cons (o := { dst := some 31, op := Go.Op.call { callee := Go.Callee.value (Go.Operand.func 80), args := #[Go.Operand.tmp 29, Go.Operand.tmp 30], argTypes := #[26, 3] }, type := 4, pos := "l19_load.go:149", after := #[{ on := 0, ground := Go.Ground.data }, { on := 1, ground := Go.Ground.data }], guard := none }) rfl (fun K hK => ?_) (AllReadyH.nil)
              go_simp
              refine (HHS.out _ Q0.out.2.2).mono ?_
              rintro e w9 ⟨rfl, ew⟩
              replace ew := ew.symm
              subst ew
              first | refine hK.out _ _ (by exact Q0.out.1) (fun hHeld => ?_) | (go_wp2_with fail; refine hK.out _ _ (by exact Q0.out.1) (fun hHeld => ?_))
              clear hK K
              try simp only [Act.put, List.setIfInBounds_toArray, List.set_cons_zero, List.set_cons_succ]
              refine wpAnyH_take (i := 3) (oi := { dst := some 32, op := Go.Op.unOp Go.UnOp.not 4 (Go.Operand.tmp 31), type := 4, pos := "l19_load.go:149", after := #[{ on := 2, ground := Go.Ground.data }], guard := none }) (v := ?_) rfl (by kernel_rfl) (by kernel_rfl) (by kernel_rfl) (fun _ _ _ h => h) (Or.inl ⟨by rfl, ?_⟩) (by assumption) ?_
              rotate_left
              · (intro w hSw; (try dsimp only at hSw); go_simp <;> try with_reducible rfl)
              try simp only [Act.put, List.setIfInBounds_toArray, List.set_cons_zero, List.set_cons_succ]
              refine wpAnyH_take (i := 4) (oi := { dst := some 33, op := Go.Op.move (Go.Operand.tmp 32), type := 4, pos := "l19_load.go:149", after := #[{ on := 3, ground := Go.Ground.data }, { on := 2, ground := Go.Ground.chain }], guard := none }) (v := ?_) rfl (by kernel_rfl) (by kernel_rfl) (by kernel_rfl) (fun _ _ _ h => h) (Or.inl ⟨by rfl, ?_⟩) (by assumption) ?_
              rotate_left
              · (intro w hSw; (try dsimp only at hSw); go_simp <;> try with_reducible rfl)
              try simp only [Act.put, List.setIfInBounds_toArray, List.set_cons_zero, List.set_cons_succ]
              refine wpAnyH_take (i := 5) (oi := { dst := some 34, op := Go.Op.move (Go.Operand.tmp 6), type := 3, pos := "l19_load.go:149", after := #[{ on := 4, ground := Go.Ground.guard }], guard := some (4, true) }) (v := ?_) rfl (by kernel_rfl) (by kernel_rfl) (by kernel_rfl) (fun _ _ _ h => h) (Or.inl ⟨by rfl, ?_⟩) (by assumption) ?_
              rotate_left
              · (intro w hSw; (try dsimp only at hSw); go_simp <;> try with_reducible rfl)
              try simp only [Act.put, List.setIfInBounds_toArray, List.set_cons_zero, List.set_cons_succ]
              refine wpAnyH_take (i := 6) (oi := { dst := some 35, op := Go.Op.binOp Go.BinOp.lss 3 (Go.Operand.tmp 34) (Go.Operand.const (Go.Value.int Go.IntKind.i64 0)) 3, type := 4, pos := "l19_load.go:149", after := #[{ on := 5, ground := Go.Ground.data }, { on := 4, ground := Go.Ground.guard }], guard := some (4, true) }) (v := ?_) rfl (by kernel_rfl) (by kernel_rfl) (by kernel_rfl) (fun _ _ _ h => h) (Or.inl ⟨by rfl, ?_⟩) (by assumption) ?_
              rotate_left
              · (intro w hSw; (try dsimp only at hSw); go_simp <;> try with_reducible rfl)
              try simp only [Act.put, List.setIfInBounds_toArray, List.set_cons_zero, List.set_cons_succ]
              refine wpAnyH_take (i := 7) (oi := { dst := some 36, op := Go.Op.move (Go.Operand.tmp 35), type := 4, pos := "l19_load.go:149", after := #[{ on := 6, ground := Go.Ground.data }, { on := 4, ground := Go.Ground.chain }, { on := 4, ground := Go.Ground.guard }], guard := some (4, true) }) (v := ?_) rfl (by kernel_rfl) (by kernel_rfl) (by kernel_rfl) (fun _ _ _ h => h) (Or.inl ⟨by rfl, ?_⟩) (by assumption) ?_
              rotate_left
              · (intro w hSw; (try dsimp only at hSw); go_simp <;> try with_reducible rfl)
              try simp only [Act.put, List.setIfInBounds_toArray, List.set_cons_zero, List.set_cons_succ]
              refine wpAnyH_take (i := 8) (oi := { dst := some 37, op := Go.Op.move (Go.Operand.tmp 0), type := 25, pos := "l19_load.go:149", after := #[{ on := 7, ground := Go.Ground.guard }], guard := some (7, false) }) (v := ?_) rfl (by kernel_rfl) (by kernel_rfl) (by kernel_rfl) (fun _ _ _ h => h) (Or.inl ⟨by rfl, ?_⟩) (by assumption) ?_
              rotate_left
              · (intro w hSw; (try dsimp only at hSw); go_simp <;> try with_reducible rfl)
              try simp only [Act.put, List.setIfInBounds_toArray, List.set_cons_zero, List.set_cons_succ]
              refine wpAnyH_take (i := 9) (oi := { dst := some 38, op := Go.Op.move (Go.Operand.tmp 7), type := 3, pos := "l19_load.go:149", after := #[{ on := 7, ground := Go.Ground.guard }], guard := some (7, false) }) (v := ?_) rfl (by kernel_rfl) (by kernel_rfl) (by kernel_rfl) (fun _ _ _ h => h) (Or.inl ⟨by rfl, ?_⟩) (by assumption) ?_
              rotate_left
              · (intro w hSw; (try dsimp only at hSw); go_simp <;> try with_reducible rfl)
              try simp only [Act.put, List.setIfInBounds_toArray, List.set_cons_zero, List.set_cons_succ]
              refine wpAnyH_take (i := 10) (oi := { dst := some 39, op := Go.Op.indexAddr 25 (Go.Operand.tmp 37) (Go.Operand.tmp 38), type := 0, pos := "l19_load.go:149", after := #[{ on := 8, ground := Go.Ground.data }, { on := 9, ground := Go.Ground.data }, { on := 7, ground := Go.Ground.guard }], guard := some (7, false) }) (v := ?_) rfl (by kernel_rfl) (by kernel_rfl) (by kernel_rfl) (fun _ _ _ h => h) (Or.inl ⟨by rfl, ?_⟩) (by assumption) ?_
              rotate_left
              · (intro w hSw; (try dsimp only at hSw); go_simp <;> try with_reducible rfl)
              try simp only [Act.put, List.setIfInBounds_toArray, List.set_cons_zero, List.set_cons_succ]
              refine wpAnyH_take (i := 11) (oi := { dst := some 40, op := Go.Op.load 34 (Go.Operand.tmp 39), type := 34, pos := "l19_load.go:149", after := #[{ on := 10, ground := Go.Ground.data }, { on := 7, ground := Go.Ground.guard }], guard := some (7, false) }) (v := ?_) rfl (by kernel_rfl) (by kernel_rfl) (by kernel_rfl) (fun _ _ _ h => h) (Or.inl ⟨by rfl, ?_⟩) (by assumption) ?_
              rotate_left
              · (intro w hSw; (try dsimp only at hSw); go_simp <;> try with_reducible rfl)
              try simp only [Act.put, List.setIfInBounds_toArray, List.set_cons_zero, List.set_cons_succ]
              refine wpAnyH_take (i := 12) (oi := { dst := some 41, op := Go.Op.move (Go.Operand.tmp 1), type := 3, pos := "l19_load.go:149", after := #[{ on := 7, ground := Go.Ground.guard }], guard := some (7, false) }) (v := ?_) rfl (by kernel_rfl) (by kernel_rfl) (by kernel_rfl) (fun _ _ _ h => h) (Or.inl ⟨by rfl, ?_⟩) (by assumption) ?_
              rotate_left
              · (intro w hSw; (try dsimp only at hSw); go_simp <;> try with_reducible rfl)
              try simp only [Act.put, List.setIfInBounds_toArray, List.set_cons_zero, List.set_cons_succ]
              refine wpAnyH_take (i := 14) (oi := { dst := some 43, op := Go.Op.move (Go.Operand.tmp 0), type := 25, pos := "l19_load.go:149", after := #[{ on := 7, ground := Go.Ground.guard }], guard := some (7, false) }) (v := ?_) rfl (by kernel_rfl) (by kernel_rfl) (by kernel_rfl) (fun _ _ _ h => h) (Or.inl ⟨by rfl, ?_⟩) (by assumption) ?_
              rotate_left
              · (intro w hSw; (try dsimp only at hSw); go_simp <;> try with_reducible rfl)
              try simp only [Act.put, List.setIfInBounds_toArray, List.set_cons_zero, List.set_cons_succ]
              refine wpAnyH_take (i := 15) (oi := { dst := some 44, op := Go.Op.move (Go.Operand.tmp 6), type := 3, pos := "l19_load.go:149", after := #[{ on := 7, ground := Go.Ground.guard }], guard := some (7, false) }) (v := ?_) rfl (by kernel_rfl) (by kernel_rfl) (by kernel_rfl) (fun _ _ _ h => h) (Or.inl ⟨by rfl, ?_⟩) (by assumption) ?_
              rotate_left
              · (intro w hSw; (try dsimp only at hSw); go_simp <;> try with_reducible rfl)
              try simp only [Act.put, List.setIfInBounds_toArray, List.set_cons_zero, List.set_cons_succ]
              refine wpAnyH_take (i := 16) (oi := { dst := some 45, op := Go.Op.indexAddr 25 (Go.Operand.tmp 43) (Go.Operand.tmp 44), type := 0, pos := "l19_load.go:149", after := #[{ on := 14, ground := Go.Ground.data }, { on := 15, ground := Go.Ground.data }, { on := 7, ground := Go.Ground.guard }], guard := some (7, false) }) (v := ?_) rfl (by kernel_rfl) (by kernel_rfl) (by kernel_rfl) (fun _ _ _ h => h) (Or.inl ⟨by rfl, ?_⟩) (by assumption) ?_
              rotate_left
              · (intro w hSw; (try dsimp only at hSw); go_simp <;> try with_reducible rfl)
              try simp only [Act.put, List.setIfInBounds_toArray, List.set_cons_zero, List.set_cons_succ]
              refine wpAnyH_take (i := 17) (oi := { dst := some 46, op := Go.Op.load 34 (Go.Operand.tmp 45), type := 34, pos := "l19_load.go:149", after := #[{ on := 16, ground := Go.Ground.data }, { on := 7, ground := Go.Ground.guard }], guard := some (7, false) }) (v := ?_) rfl (by kernel_rfl) (by kernel_rfl) (by kernel_rfl) (fun _ _ _ h => h) (Or.inl ⟨by rfl, ?_⟩) (by assumption) ?_
              rotate_left
              · (intro w hSw; (try dsimp only at hSw); go_simp <;> try with_reducible rfl)
              try simp only [Act.put, List.setIfInBounds_toArray, List.set_cons_zero, List.set_cons_succ]
              refine wpAnyH_take (i := 18) (oi := { dst := some 47, op := Go.Op.move (Go.Operand.tmp 1), type := 3, pos := "l19_load.go:149", after := #[{ on := 7, ground := Go.Ground.guard }], guard := some (7, false) }) (v := ?_) rfl (by kernel_rfl) (by kernel_rfl) (by kernel_rfl) (fun _ _ _ h => h) (Or.inl ⟨by rfl, ?_⟩) (by assumption) ?_
              rotate_left
              · (intro w hSw; (try dsimp only at hSw); go_simp <;> try with_reducible rfl)
              try simp only [Act.put, List.setIfInBounds_toArray, List.set_cons_zero, List.set_cons_succ]
              refine wpAnyH_ready (rs := [13]) (by kernel_rfl) (by simp) ?_
              refine AllReadyH.cons (o := { dst := some 42, op := Go.Op.call { callee := Go.Callee.value (Go.Operand.func 81), args := #[Go.Operand.tmp 40, Go.Operand.tmp 41], argTypes := #[34, 3] }, type := 3, pos := "l19_load.go:149", after := #[{ on := 11, ground := Go.Ground.data }, { on := 12, ground := Go.Ground.data }, { on := 7, ground := Go.Ground.chain }, { on := 7, ground := Go.Ground.guard }], guard := some (7, false) }) rfl (fun K hK => ?_) (AllReadyH.nil)
              go_simp
              refine (HKQ.out _ Q0.out.2.1).mono ?_
              rintro e w2 ⟨rfl, b2⟩
              have Q2 : Hid ((w2.cell? ⟨kb, off + q * 4, none⟩ = some (.int .i64 x0) ∧ w2.cell? ⟨kb, off + q * 4 + 1, none⟩ = some (.int .i64 x1) ∧ w2.cell? ⟨kb, off + q * 4 + 2, none⟩ = some (.int .i64 x2) ∧ w2.cell? ⟨kb, off + q * 4 + 3, none⟩ = some (.slice xa x3 xc) ∧ w2.cell? ⟨kb, off + bn * 4, none⟩ = some (.int .i64 y0) ∧ w2.cell? ⟨kb, off + bn * 4 + 1, none⟩ = some (.int .i64 y1) ∧ w2.cell? ⟨kb, off + bn * 4 + 2, none⟩ = some (.int .i64 y2) ∧ w2.cell? ⟨kb, off + bn * 4 + 3, none⟩ = some (.slice ya y3 yc)) ∧ Below w.heap.size w w2 ∧ AQ w g k oc z w2) := hid ⟨⟨keep_cell b2 Q0.out.1.1, keep_cell b2 Q0.out.1.2.1, keep_cell b2 Q0.out.1.2.2.1, keep_cell b2 Q0.out.1.2.2.2.1, keep_cell b2 Q0.out.1.2.2.2.2.1, keep_cell b2 Q0.out.1.2.2.2.2.2.1, keep_cell b2 Q0.out.1.2.2.2.2.2.2.1, keep_cell b2 Q0.out.1.2.2.2.2.2.2.2⟩, bel_on Q0.out.2.1 b2, Q0.out.2.2.below b2⟩
              clear b2
              first | refine hK.out _ _ (by exact Q2.out.1) (fun hHeld => ?_) | (go_wp2_with fail; refine hK.out _ _ (by exact Q2.out.1) (fun hHeld => ?_))
              clear hK K
              try simp only [Act.put, List.setIfInBounds_toArray, List.set_cons_zero, List.set_cons_succ]
              refine wpAnyH_ready (rs := [19]) (by kernel_rfl) (by simp) ?_
              refine AllReadyH.cons (o := { dst := some 48, op := Go.Op.call { callee := Go.Callee.value (Go.Operand.func 81), args := #[Go.Operand.tmp 46, Go.Operand.tmp 47], argTypes := #[34, 3] }, type := 3, pos := "l19_load.go:149", after := #[{ on := 17, ground := Go.Ground.data }, { on := 18, ground := Go.Ground.data }, { on := 13, ground := Go.Ground.chain }, { on := 7, ground := Go.Ground.guard }], guard := some (7, false) }) rfl (fun K hK => ?_) (AllReadyH.nil)
              go_simp
              refine (HKB.out _ Q2.out.2.1).mono ?_
              rintro e w3 ⟨rfl, b3⟩
              have Q3 : Hid ((w3.cell? ⟨kb, off + q * 4, none⟩ = some (.int .i64 x0) ∧ w3.cell? ⟨kb, off + q * 4 + 1, none⟩ = some (.int .i64 x1) ∧ w3.cell? ⟨kb, off + q * 4 + 2, none⟩ = some (.int .i64 x2) ∧ w3.cell? ⟨kb, off + q * 4 + 3, none⟩ = some (.slice xa x3 xc) ∧ w3.cell? ⟨kb, off + bn * 4, none⟩ = some (.int .i64 y0) ∧ w3.cell? ⟨kb, off + bn * 4 + 1, none⟩ = some (.int .i64 y1) ∧ w3.cell? ⟨kb, off + bn * 4 + 2, none⟩ = some (.int .i64 y2) ∧ w3.cell? ⟨kb, off + bn * 4 + 3, none⟩ = some (.slice ya y3 yc)) ∧ Below w.heap.size w w3 ∧ AQ w g k oc z w3) := hid ⟨⟨keep_cell b3 Q2.out.1.1, keep_cell b3 Q2.out.1.2.1, keep_cell b3 Q2.out.1.2.2.1, keep_cell b3 Q2.out.1.2.2.2.1, keep_cell b3 Q2.out.1.2.2.2.2.1, keep_cell b3 Q2.out.1.2.2.2.2.2.1, keep_cell b3 Q2.out.1.2.2.2.2.2.2.1, keep_cell b3 Q2.out.1.2.2.2.2.2.2.2⟩, bel_on Q2.out.2.1 b3, Q2.out.2.2.below b3⟩
              clear b3
              first | refine hK.out _ _ (by exact Q3.out.1) (fun hHeld => ?_) | (go_wp2_with fail; refine hK.out _ _ (by exact Q3.out.1) (fun hHeld => ?_))
              clear hK K
              try simp only [Act.put, List.setIfInBounds_toArray, List.set_cons_zero, List.set_cons_succ]
              refine wpAnyH_take (i := 20) (oi := { dst := some 49, op := Go.Op.binOp Go.BinOp.lss 3 (Go.Operand.tmp 42) (Go.Operand.tmp 48) 3, type := 4, pos := "l19_load.go:149", after := #[{ on := 13, ground := Go.Ground.data }, { on := 19, ground := Go.Ground.data }, { on := 7, ground := Go.Ground.guard }], guard := some (7, false) }) (v := ?_) rfl (by kernel_rfl) (by kernel_rfl) (by kernel_rfl) (fun _ _ _ h => h) (Or.inl ⟨by rfl, ?_⟩) (by assumption) ?_
              rotate_left
              · (intro w hSw; (try dsimp only at hSw); go_simp <;> try with_reducible rfl)
              try simp only [Act.put, List.setIfInBounds_toArray, List.set_cons_zero, List.set_cons_succ]
              refine wpAnyH_take (i := 21) (oi := { dst := some 50, op := Go.Op.pick (Go.Operand.tmp 36) (Go.Operand.const (Go.Value.bool true)) (Go.Operand.tmp 49), type := 4, pos := "l19_load.go:149", after := #[{ on := 7, ground := Go.Ground.data }, { on := 20, ground := Go.Ground.data }, { on := 4, ground := Go.Ground.guard }], guard := some (4, true) }) (v := ?_) rfl (by kernel_rfl) (by kernel_rfl) (by kernel_rfl) (fun _ _ _ h => h) (Or.inl ⟨by rfl, ?_⟩) (by assumption) ?_
              rotate_left
              · (intro w hSw; (try dsimp only at hSw); go_simp <;> try with_reducible rfl)
              try simp only [Act.put, List.setIfInBounds_toArray, List.set_cons_zero, List.set_cons_succ]
              refine wpAnyH_take (i := 22) (oi := { dst := some 51, op := Go.Op.pick (Go.Operand.tmp 33) (Go.Operand.tmp 50) (Go.Operand.const (Go.Value.bool false)), type := 4, pos := "l19_load.go:149", after := #[{ on := 4, ground := Go.Ground.data }, { on := 21, ground := Go.Ground.data }], guard := none }) (v := ?_) rfl (by kernel_rfl) (by kernel_rfl) (by kernel_rfl) (fun _ _ _ h => h) (Or.inl ⟨by rfl, ?_⟩) (by assumption) ?_
              rotate_left
              · (intro w hSw; (try dsimp only at hSw); go_simp <;> try with_reducible rfl)
              try simp only [Act.put, List.setIfInBounds_toArray, List.set_cons_zero, List.set_cons_succ]
              refine wpAnyH_done (by kernel_rfl) ?_ _
              refine NoPanic.normal ?_
              clear hHeld
              have HQ3 : Hid (AQ w g k oc z w3) := Q3.out.2.2
              clear Q0 Q2 Q3 HKQ HKB HHS HTQ
              by_cases huv : U < V
              · have HN2 : Hid (BsP d rule z k (q + 1) (q : Int)) := hid (bs_new HB.out hb0 HH0.out (by rw [HUV.out.1, Int.toNat_natCast, HUV.out.2]; exact huv))
                go_wp2
                go_roundw
                case rel => exact ⟨q + 1, (q : Int), by omega, by go_num, rfl, HN2, HQ3⟩
                case measure => simp [intOf]; omega
              · have HN2 : Hid (BsP d rule z k (q + 1) (bn : Int)) := hid (bs_old HB.out hb0 (by rw [HUV.out.1, Int.toNat_natCast, HUV.out.2]; exact huv))
                go_wp2
                go_roundw
                case rel => exact ⟨q + 1, (bn : Int), by omega, by go_num, rfl, HN2, HQ3⟩
                case measure => simp [intOf]; omega
          · have HHS : Hid (∀ W, AQ w g k oc z W → Calls Try.prog 80 #[.slice (some ⟨g, 0, none⟩) k oc, .int .i64 (q : Int)] W fun e w' => e = .returned (.bool true) ∧ w' = W) := hid fun W h => l7Has_eq _ k oc z (q : Int) true W (by omega) h.row hh
            have HN2 : Hid (BsP d rule z k (q + 1) b) := hid (bs_has HB.out hh)
            clear hh
            go_wp2
            go_quiet (first | (go_at_call 80; exact Calls.quiet_of_same (HHS.out _ (HQ.out.below (bd_N (Below.refl _ _) _)))))
            have HQ2 : Hid (AQ w g k oc z (wi.drewN nq)) := hid (HQ.out.below (bd_N (Below.refl _ _) _))
            generalize wi.drewN nq = W5 at HQ2 ⊢
            go_wp2
            go_roundw
            case rel => exact ⟨q + 1, b, by omega, by go_num, rfl, HN2, HQ2⟩
            case measure => simp [intOf]; omega
        · obtain rfl : q = n := by omega
          have lqq : ¬ (q : Int) < (q : Int) := by omega
          have HNX : Hid (∀ j, j < k + 1 → IsNx d rule q (fun j => if j = k then b else z j) j) := fun j hj => by
            by_cases e : j = k
            · subst e; exact bs_end HB.out hlt
            · exact nx_keep (HX.out j (by omega)) (by omega)
          go_wp2_with (at_builtin; refine wpList_append_own_at _ rfl _ _ 26 rfl w.heap.size 3 i3 (.int .i64 0) 1 8 Try.underlying26 hi3 hz30 hz31 hz32 rfl (by decide) (.slice (some ⟨g, 0, none⟩) k oc) k (intR z k) rfl (HQ.out.below ((Below.refl _ _).alloc (Nat.le_refl _) _)).own ⟨wi.heap.size, 0, none⟩ 1 1 [.int .i64 b] rfl rfl (ecells rfl) (fun u hu => by simp at hu; subst hu; rfl) (by unfold maxLen; omega) (by omega) (by have := HQ.out.own.lt g rfl; simp; omega) ?_; intro v9 w9 hown hgrow hnil hat; obtain ⟨g9, oc9, rfl, _⟩ := eown_some hown (by omega); have R9 : Hid (AQ w g9 (k + 1) oc9 (fun j => if j = k then b else z j) w9) := hid (((HQ.out.congr (y := fun j => if j = k then b else z j) (fun j hj => by simp [show ¬ j = k by omega])).below ((Below.refl _ _).alloc (Nat.le_refl _) _)).grow (x := b) (show b = (if k = k then b else z k) by simp) hgrow (by rw [← intR_congr (c := z) (d := fun j => if j = k then b else z j) (fun j hj => by simp [show ¬ j = k by omega])]; exact hown)); clear hown hgrow hnil hat)
          go_roundw
          case rel => exact ⟨k + 1, g9, oc9, _, by omega, rfl, R9, HNX⟩
          case measure => simp; omega
    · obtain rfl : k = n := by omega
      have lkk : ¬ (k : Int) < (k : Int) := by omega
      have HE : Hid (∀ j, j < k → rkF d rule k j = z j) := hid (rkF_eq HX.out)
      have HO : Hid (OwnI wr w.heap.size (some ⟨g, 0, none⟩) k (rkF d rule k)) := hid ((HH.out.congr fun j hj => (HE.out j hj).symm).fin)
      go_wp2
      go_returns
      first | exact ⟨_, _, rfl, HO.out, HH.out.bel⟩ | exact ⟨_, ⟨_, rfl⟩, HO.out, HH.out.bel⟩
end Go.Proofs.Ytogolmbgboihdaa
