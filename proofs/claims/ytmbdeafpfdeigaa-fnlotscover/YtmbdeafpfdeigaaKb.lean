/- Making, the program: what counts on a day, batches. -/
import Derived.Test.YtmbdeafpfdeigaaKa
import Derived.Laws.OwnMore
import Derived.Maps.AppendAt
namespace Go.Proofs.Ytmbdeafpfdeigaa
open Go Go.ChangeShapes Go.WideShapes Go.ChangeAt Go.RowKit
set_option linter.unusedVariables false
set_option linter.unusedSimpArgs false

theorem egrown {B : Nat} {A w w' : World} {row : Option Nat} (h : Below B A w) (hA : B ≤ A.heap.size) (g : w.grownBy w' row) (hr : ∀ r, row = some r → B ≤ r) : Below B A w' :=
  ⟨g.os.trans h.os, g.tape.trans h.tape, g.output.trans h.output, Nat.le_trans h.size g.size, fun k hk => (g.block k (by have := h.size; omega) (fun e => by have := hr k e.symm; omega)).trans (h.block k hk)⟩
theorem ecells {w : World} {b : Nat} {l : List Value} {t : TypeId} (hb : w.heap.size = b) : ∀ j u, l[j]? = some u → (w.alloc (.cells l.toArray t (0, 0))).cell? ((⟨b, 0, none⟩ : Addr).add j) = some u := by
  intro j u hj
  have h := (CB.newAt hb l.toArray t).cell j
  have e : (⟨b, 0, none⟩ : Addr).add j = ⟨b, j, none⟩ := by
    simp only [Addr.add]; by_cases q : j = 0 <;> simp [q]
  rw [e, h]; simpa using hj

set_option maxRecDepth 20000 in
set_option maxHeartbeats 2000000 in
theorem holdsOn_eq (r : PA6) (d : Int) (v : Bool) (w : World) (h : inB d r.fst r.lst = v) : Calls Try.prog 151 #[r.val, .int .i64 d] w fun e w' => e = .returned (.bool v) ∧ Below w.heap.size w w' := by
  subst h
  obtain ⟨it, qt, sc, fs, la, gr⟩ := r
  unfold PA6.val
  by_cases g0 : fs ≤ d
  · by_cases g1 : d ≤ la
    · have HV : Hid (true = inB d fs la) := hid (inB_y g0 g1).symm
      have g2 : decide (d ≤ la) = true := decide_eq_true g1
      go_enter Try.func151, Try.ntmps151
      go_wp2
      go_returns
      exact ⟨ret_bool HV.out, by go_grown⟩
    · have HV : Hid (false = inB d fs la) := hid (decide_eq_false (fun H => g1 H.2)).symm
      have g2 : decide (d ≤ la) = false := decide_eq_false g1
      go_enter Try.func151, Try.ntmps151
      go_wp2
      go_returns
      exact ⟨ret_bool HV.out, by go_grown⟩
  · have HV : Hid (false = inB d fs la) := hid (decide_eq_false (fun H => g0 H.1)).symm
    have g2 : decide (fs ≤ d) = false := decide_eq_false g0
    go_enter Try.func151, Try.ntmps151
    go_wp2
    go_returns
    exact ⟨ret_bool HV.out, by go_grown⟩
theorem divUp_any (q b : Int) (w : World) (h0 : 0 ≤ q) (h1 : q ≤ 1000000) (hb : 1 ≤ b) (hb1 : b ≤ 1000000) : Calls Try.prog 140 #[.int .i64 q, .int .i64 b] w fun e w' => e = .returned (.int .i64 (bat q b)) ∧ w' = w := by
  obtain ⟨a1, a2, a3, a4, a5⟩ := ediv_bd q b h0 hb
  have hu := bat_up h0 hb
  have e1 := Int.tdiv_eq_ediv_of_nonneg (a := q) (b := b) h0
  have e2 := Int.tmod_eq_emod_of_nonneg (a := q) (b := b) h0
  have hb0 : ¬ b = 0 := by omega
  by_cases g : 0 < q % b
  · have HV : Hid (q / b + 1 = bat q b) := hid (by rw [hu, if_pos g])
    clear hu a5
    generalize q / b = D at *
    generalize q % b = R at *
    go_enter Try.func140, Try.ntmps140
    go_wp2
    go_returns
    exact ⟨ret_i HV.out, rfl⟩
  · have HV : Hid (q / b = bat q b) := hid (by rw [hu, if_neg g])
    clear hu a5
    generalize q / b = D at *
    generalize q % b = R at *
    go_enter Try.func140, Try.ntmps140
    go_wp2
    go_returns
    exact ⟨ret_i HV.out, rfl⟩
/-- What the program holds behind k parts. -/
structure CQ (w : World) (z : Nat → PA6) (d : Int) (k : Nat) (ad : Option Addr) (oc : Nat) (W : World) : Prop where
  own : W.ownsRow w.heap.size 28 6 (.slice ad (cnN z d k) oc) (cnN z d k) (rowPA6 (cnC z d k) (cnN z d k))
  ne : ∀ q, (Value.slice ad (cnN z d k) oc).ownBlock = some q → q ≠ w.heap.size + 1
  met : ∃ cs, CB W (w.heap.size + 1) cs 145 ∧ ∀ G : Nat, G < 10 → cs[G]? = some (.bool (mt_ z d k (G : Int)))
  bel : Below w.heap.size w W
theorem CQ.skip {w W : World} {z : Nat → PA6} {d : Int} {k : Nat} {ad : Option Addr} {oc : Nat} (h : CQ w z d k ad oc W) (ok : okC z d k = false) : CQ w z d (k + 1) ad oc W := by
  obtain ⟨h1, h2, h3, h4⟩ := h
  refine ⟨by rw [cnN_no ok, cnC_no ok]; exact h1, by rw [cnN_no ok]; exact h2, ?_, h4⟩
  obtain ⟨cs, q1, q2⟩ := h3
  exact ⟨cs, q1, fun G hG => by rw [mt_no ok]; exact q2 G hG⟩
theorem CQ.row {w W : World} {z : Nat → PA6} {d : Int} {k : Nat} {ad : Option Addr} {oc : Nat} (h : CQ w z d k ad oc W) : PAr W ad (cnN z d k) (cnC z d k) := by
  obtain ⟨ad2, cp, e, _, o⟩ := ownPA6_of h.own
  simp only [Value.slice.injEq, true_and] at e
  obtain ⟨rfl, rfl⟩ := e
  exact o.row
theorem CQ.lt {w W : World} {z : Nat → PA6} {d : Int} {k : Nat} {ad : Option Addr} {oc : Nat} (h : CQ w z d k ad oc W) : w.heap.size + 1 < W.heap.size := by obtain ⟨cs, q, _⟩ := h.met; exact q.lt
theorem row_set {w : World} {base n s : Nat} {t : TypeId} {v : Value} {xs : List Value} (h : w.ownsRow base t s v n xs) {c o : Nat} (u : Value) (hne : ∀ q, v.ownBlock = some q → q ≠ c) : (w.setCell ⟨c, o, none⟩ u).ownsRow base t s v n xs :=
  row_block h (fun g hg => heap_set (hne g hg))
theorem CQ.grow {w W w9 : World} {z : Nat → PA6} {d : Int} {k : Nat} {ad ad9 : Option Addr} {oc cu9 : Nat} {it qt sc fs la : Int} {G : Nat} {O : Obj} (h : CQ w z d k ad oc W) (ok : okC z d k = true) (hx : z k = ⟨it, qt, sc, fs, la, (G : Int)⟩) (hG : G < 10)
    (hown : w9.ownsRow w.heap.size 28 6 (.slice ad9 (cnN z d k + 1) cu9) (cnN z d k + 1) (rowPA6 (cnC z d k) (cnN z d k) ++ [.int .i64 it, .int .i64 qt, .int .i64 sc, .int .i64 fs, .int .i64 la, .int .i64 (G : Int)]))
    (hgr : ((W.setCell ⟨w.heap.size + 1, G, none⟩ (.bool (decide (0 < G)))).alloc O).grownBy w9 (Value.slice ad (cnN z d k) oc).ownBlock)
    (hloc : (Value.slice ad9 (cnN z d k + 1) cu9).ownBlock = (Value.slice ad (cnN z d k) oc).ownBlock ∨ (Value.slice ad9 (cnN z d k + 1) cu9).ownBlock = some ((W.setCell ⟨w.heap.size + 1, G, none⟩ (.bool (decide (0 < G)))).alloc O).heap.size) : CQ w z d (k + 1) ad9 cu9 w9 := by
  have hlt := h.lt
  have hrow := rowPA6_cn ok
  rw [hx] at hrow
  refine ⟨by rw [hrow, cnN_yes ok]; exact hown, ?_, ?_, ?_⟩
  · rw [cnN_yes ok]
    intro q hq
    rcases hloc with e | e
    · rw [e] at hq; exact h.ne q hq
    · rw [e] at hq; simp at hq; omega
  · obtain ⟨cs, q1, q2⟩ := h.met
    have hsz : G < cs.size := by
      have := q2 G hG
      rcases Nat.lt_or_ge G cs.size with r | r
      · exact r
      · rw [Array.getElem?_eq_none r] at this; cases this
    have C1 := (q1.set G (.bool (decide (0 < G)))).alloc O
    refine ⟨_, C1.keep (hgr.block _ C1.lt (fun e => h.ne _ e.symm rfl)), fun G2 hG2 => ?_⟩
    rw [mt_yes ok, hx]
    by_cases e : G2 = G
    · subst e; rw [get_set_eq hsz, if_pos rfl]; simp
    · rw [get_set_ne (by omega), if_neg (by simp; omega)]; exact q2 G2 hG2
  · exact egrown ((h.bel.setCell (by show w.heap.size ≤ w.heap.size + 1; omega) _).alloc (by have := h.bel.size; simp; omega) O) (Nat.le_refl _) hgr (fun r hr => (h.own.lt r hr).1)
theorem CQ.below {w W W2 : World} {z : Nat → PA6} {d : Int} {k : Nat} {ad : Option Addr} {oc : Nat} (h : CQ w z d k ad oc W) (b : Below W.heap.size W W2) : CQ w z d k ad oc W2 := ⟨ownsRow_below h.own b, h.ne, by obtain ⟨cs, a, q⟩ := h.met; exact ⟨cs, a.below b a.lt, q⟩, bel_on h.bel b⟩
set_option maxRecDepth 20000 in
set_option maxHeartbeats 8000000 in
theorem counting_any (ad : Option Addr) (n cap : Nat) (z : Nat → PA6) (d : Int) (w : World) (h : (n : Int) ≤ 1048576) (hr : PAr w ad n z) (hg : ∀ j, j < n → 0 ≤ (z j).grp ∧ (z j).grp ≤ 9) :
    Calls Try.prog 136 #[.int .i64 d, .slice ad n cap] w fun e w' => ∃ ad2 oc, e = .returned (.slice ad2 (cnN z d n) oc) ∧ PAr w' ad2 (cnN z d n) (cnC z d n) ∧ Below w.heap.size w w' := by
  have HR : Hid (PAr w ad n z) := hr
  have HG : Hid (∀ j, j < n → 0 ≤ (z j).grp ∧ (z j).grp ≤ 9) := hg
  obtain ⟨i4, hi4, hz40, hz41, hz42⟩ := infoPA6
  clear hr hg
  go_enter Try.func136, Try.ntmps136
  go_wp2
  go_loopw [5, 13] (fun v i wr => ∃ (k : Nat) (ad2 : Option Addr) (oc : Nat), k ≤ n ∧ v = .slice ad2 (cnN z d k) oc ∧ i = .int .i64 (k : Int) ∧ Hid (CQ w z d k ad2 oc wr)) (fun _ i _ => n - (intOf i).toNat)
  case atStart =>
    refine ⟨0, some ⟨w.heap.size, 0, none⟩, 0, Nat.zero_le _, rfl, rfl, hid ⟨⟨rfl, .inr ⟨w.heap.size, 0, #[], rfl, Nat.le_refl _, (CB.new _ _).alloc _, Nat.le_refl _, Nat.zero_le _, rfl, rfl⟩⟩, fun q hq => by simp [Value.ownBlock] at hq; omega, ⟨_, CB.newAt (by simp) _ _, fun G hG => ?_⟩, ((Below.refl _ _).alloc (Nat.le_refl _) _).alloc (by simp) _⟩⟩
    rcases G with _ | _ | _ | _ | _ | _ | _ | _ | _ | _ | G <;> first | rfl | omega
  case round =>
    obtain ⟨k, ad2, oc, hk, rfl, rfl, HH⟩ := hrel
    obtain ⟨wo, rfl⟩ : ∃ x, x = wr := ⟨wr, rfl⟩
    by_cases hlt : k < n
    · have hlt2 : (k : Int) < (n : Int) := by omega
      obtain ⟨kb, off, rfl, hkb⟩ := HR.out.addr (by omega)
      obtain ⟨c0, c1, c2, c3, c4, c5⟩ := (HR.out.below HH.out.bel).cell hlt
      have hgk := HG.out k hlt
      obtain ⟨G, hG⟩ : ∃ G : Nat, (z k).grp = (G : Int) := ⟨(z k).grp.toNat, by omega⟩
      have HGE : Hid ((z k).grp = (G : Int)) := hG
      rw [hG] at c5 hgk
      have hG9 : G < 10 := by omega
      have hG10 : (G : Int) < 10 := by omega
      have hAB : w.heap.size + 1 < wo.heap.size := by obtain ⟨cs, q, _⟩ := HH.out.met; exact q.lt
      have hcn := cnN_le z d k
      have HOK : Hid (okC z d k = (inB d (z k).fst (z k).lst && !mt_ z d k (G : Int))) := hid (by unfold okC; rw [hG])
      clear hG hgk
      obtain ⟨x, hx⟩ : ∃ x, z k = x := ⟨_, rfl⟩
      have HX : Hid (z k = x) := hx
      rw [hx] at c0 c1 c2 c3 c4 HGE HOK
      clear hx
      obtain ⟨it, qt, sc, fs, la, gr⟩ := x
      simp only at c0 c1 c2 c3 c4 HGE HOK
      have HGG := HGE.out
      subst HGG
      clear HGE
      obtain ⟨hv, hhv⟩ : ∃ v, inB d fs la = v := ⟨_, rfl⟩
      obtain ⟨mv, hmv⟩ : ∃ v, mt_ z d k (G : Int) = v := ⟨_, rfl⟩
      rw [hhv, hmv] at HOK
      have HHO : Hid (∀ W, Calls Try.prog 151 #[.agg #[.int .i64 it, .int .i64 qt, .int .i64 sc, .int .i64 fs, .int .i64 la, .int .i64 (G : Int)], .int .i64 d] W fun e w' => e = .returned (.bool hv) ∧ Below W.heap.size W w') := hid (fun W => holdsOn_eq ⟨it, qt, sc, fs, la, (G : Int)⟩ d hv W hhv)
      have HMV : Hid (mt_ z d k (G : Int) = mv) := hmv
      clear hhv hmv
      have HBX : Hid (CB (wo.alloc (.cells #[.int .i64 it, .int .i64 qt, .int .i64 sc, .int .i64 fs, .int .i64 la, .int .i64 (G : Int)] 28 (0, 0))) wo.heap.size #[.int .i64 it, .int .i64 qt, .int .i64 sc, .int .i64 fs, .int .i64 la, .int .i64 (G : Int)] 28 ∧ Below wo.heap.size wo (wo.alloc (.cells #[.int .i64 it, .int .i64 qt, .int .i64 sc, .int .i64 fs, .int .i64 la, .int .i64 (G : Int)] 28 (0, 0)))) := hid ⟨CB.new _ _, (Below.refl _ _).alloc (Nat.le_refl _) _⟩
      have HAF : Hid (∀ w1, Below wo.heap.size wo w1 → CQ w z d k ad2 oc w1 ∧ w1.cell? ⟨w.heap.size + 1, G, none⟩ = some (.bool mv) ∧ w1.frozen? ⟨w.heap.size + 1, G, none⟩ = false) := hid (fun w1 b => by
        have q := HH.out.below b
        obtain ⟨cs, q1, q2⟩ := q.met
        exact ⟨q, by rw [q1.cell, q2 G hG9, HMV.out], q1.fr _⟩)
      cases hv
      · have HN : Hid (okC z d k = false) := HOK
        go_wp2_with (go_at_call 151; refine (HHO.out _).mono ?_; rintro e w1 ⟨rfl, b1⟩; have HQ1 : Hid (CQ w z d (k + 1) ad2 oc w1) := hid ((HAF.out _ (bel_on HBX.out.2 b1)).1.skip HN.out); clear b1)
        go_roundw
        case rel => exact ⟨k + 1, ad2, oc, by omega, by rw [cnN_no HN.out], by go_num, HQ1⟩
        case measure => simp [intOf]; omega
      cases mv
      rotate_left
      · have HN : Hid (okC z d k = false) := HOK
        go_wp2_with (go_at_call 151; refine (HHO.out _).mono ?_; rintro e w1 ⟨rfl, b1⟩; have af := (HAF.out _ (bel_on HBX.out.2 b1)).2.1; have x5 : w1.cell? ⟨wo.heap.size, 5, none⟩ = some (.int .i64 (G : Int)) := ((HBX.out.1.below b1 HBX.out.1.lt).cell 5).trans rfl; have HQ1 : Hid (CQ w z d (k + 1) ad2 oc w1) := hid ((HAF.out _ (bel_on HBX.out.2 b1)).1.skip HN.out); clear b1)
        go_roundw
        case rel => exact ⟨k + 1, ad2, oc, by omega, by rw [cnN_no HN.out], by go_num, HQ1⟩
        case measure => simp [intOf]; omega
      · have HN : Hid (okC z d k = true) := HOK
        go_wp2_with (first
          | (go_at_call 151; refine (HHO.out _).mono ?_; rintro e w1 ⟨rfl, b1⟩; have af := (HAF.out _ (bel_on HBX.out.2 b1)).2.1; have ff := (HAF.out _ (bel_on HBX.out.2 b1)).2.2; have X1 := HBX.out.1.below b1 HBX.out.1.lt; have x0 : w1.cell? ⟨wo.heap.size, 0, none⟩ = some (.int .i64 it) := (X1.cell 0).trans rfl; have x1 : w1.cell? ⟨wo.heap.size, 1, none⟩ = some (.int .i64 qt) := (X1.cell 1).trans rfl; have x2 : w1.cell? ⟨wo.heap.size, 2, none⟩ = some (.int .i64 sc) := (X1.cell 2).trans rfl; have x3 : w1.cell? ⟨wo.heap.size, 3, none⟩ = some (.int .i64 fs) := (X1.cell 3).trans rfl; have x4 : w1.cell? ⟨wo.heap.size, 4, none⟩ = some (.int .i64 la) := (X1.cell 4).trans rfl; have x5 : w1.cell? ⟨wo.heap.size, 5, none⟩ = some (.int .i64 (G : Int)) := (X1.cell 5).trans rfl; have HQ1 : Hid (CQ w z d k ad2 oc w1) := hid (HAF.out _ (bel_on HBX.out.2 b1)).1; have hs1 := bel_on HBX.out.2 b1 |>.size; clear b1 X1)
          | (at_builtin; go_loud (refine wpList_append_own_at _ rfl _ _ 29 rfl w.heap.size 28 i4 (.agg #[.int .i64 0, .int .i64 0, .int .i64 0, .int .i64 0, .int .i64 0, .int .i64 0]) 6 48 Try.underlying29 hi4 hz40 hz41 hz42 rfl (by decide) (.slice ad2 (cnN z d k) oc) (cnN z d k) (rowPA6 (cnC z d k) (cnN z d k)) rfl (ownsRow_below (row_set HQ1.out.own _ HQ1.out.ne) ((Below.refl _ _).alloc (Nat.le_refl _) _)) ⟨_, 0, none⟩ 1 1 [.int .i64 it, .int .i64 qt, .int .i64 sc, .int .i64 fs, .int .i64 la, .int .i64 (G : Int)] rfl rfl (ecells (by first | rfl | simp)) (fun u hu => by simp at hu; rcases hu with rfl | rfl | rfl | rfl | rfl | rfl <;> rfl) (by unfold maxLen; omega) (by omega) (by have := HQ1.out.bel.size; simp; omega) ?_); intro v9 w9 hown hgr _ hloc; go_loud (obtain ⟨ad9, cu9, rfl⟩ := row_form hown; have HQ9 : Hid (CQ w z d (k + 1) ad9 cu9 w9) := hid (HQ1.out.grow HN.out HX.out hG9 hown hgr hloc); clear hown hgr hloc)))
        go_roundw
        case rel => exact ⟨k + 1, ad9, cu9, by omega, by rw [cnN_yes HN.out], by go_num, HQ9⟩
        case measure => simp [intOf]; omega
    · obtain rfl : k = n := by omega
      have lkk : ¬ (k : Int) < (k : Int) := by omega
      go_wp2
      go_returns
      exact ⟨ad2, ⟨oc, rfl⟩, HH.out.row, HH.out.bel⟩
end Go.Proofs.Ytmbdeafpfdeigaa
