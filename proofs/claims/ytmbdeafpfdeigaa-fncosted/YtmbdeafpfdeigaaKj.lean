/- Making, the model: what counts on a day, batches. -/
import Derived.Test.YtmbdeafpfdeigaaKh
namespace Go.Proofs.Ytmbdeafpfdeigaa
open Go Go.ChangeShapes Go.WideShapes Go.ChangeAt Go.RowKit
set_option linter.unusedVariables false
set_option linter.unusedSimpArgs false

def hs (y : Nat → Int) : Nat → Int → Bool
  | 0, _ => false
  | m + 1, g => hs y m g || (y m == g)
theorem hs_hit {y : Nat → Int} {g : Int} {j : Nat} : ∀ m, j < m → y j = g → hs y m g = true
  | 0, h, _ => by omega
  | m + 1, h, e => by
    show (hs y m g || (y m == g)) = true
    by_cases q : j = m
    · subst q; simp [e]
    · rw [hs_hit m (by omega) e]; rfl
theorem hs_congr {y x : Nat → Int} {g : Int} : ∀ m, (∀ j, j < m → y j = x j) → hs y m g = hs x m g
  | 0, _ => rfl
  | m + 1, h => by
    show (hs y m g || (y m == g)) = (hs x m g || (x m == g))
    rw [hs_congr m (fun j hj => h j (by omega)), h m (by omega)]
set_option maxRecDepth 20000 in
set_option maxHeartbeats 2000000 in
theorem l7Has_any (ad : Option Addr) (m cap : Nat) (y : Nat → Int) (g : Int) (w : World) (h : (m : Int) ≤ 1048576) (hr : IR w ad m y) :
    Calls Try.prog 109 #[.slice ad m cap, .int .i64 g] w fun e w' => e = .returned (.bool (hs y m g)) ∧ Below w.heap.size w w' := by
  have HR : Hid (IR w ad m y) := hr
  clear hr
  go_enter Try.func109, Try.ntmps109
  go_wp2
  go_loopw [5] (fun i wr => ∃ (k : Nat), k ≤ m ∧ i = .int .i64 (k : Int) ∧ Hid (hs y k g = false ∧ Below w.heap.size w wr)) (fun i _ => m - (intOf i).toNat)
  case atStart => exact ⟨0, Nat.zero_le _, rfl, rfl, Below.refl _ _⟩
  case round =>
    obtain ⟨k, hk, rfl, HH⟩ := hrel
    by_cases hlt : k < m
    · have hlt2 : (k : Int) < (m : Int) := by omega
      obtain ⟨kb, off, rfl, _⟩ := HR.out.addr (by omega)
      have c0 := (HR.out.below HH.out.2).cell hlt
      obtain ⟨A, hA⟩ : ∃ A, y k = A := ⟨_, rfl⟩
      have HA : Hid (y k = A) := hA
      rw [hA] at c0
      clear hA
      by_cases e : A = g
      · have e2 : (A == g) = true := by simp [e]
        have HV : Hid (true = hs y m g) := hid (hs_hit m hlt (HA.out.trans e)).symm
        clear e
        go_wp2
        go_returns
        exact ⟨ret_bool HV.out, HH.out.2⟩
      · have e2 : (A == g) = false := by simp [e]
        have HN : Hid (hs y (k + 1) g = false) := hid (by show (hs y k g || (y k == g)) = false; rw [HH.out.1, HA.out, e2]; rfl)
        clear e
        go_wp2
        go_roundw
        case rel => exact ⟨k + 1, by omega, by go_num, HN.out, HH.out.2⟩
        case measure => simp [intOf]; omega
    · obtain rfl : k = m := by omega
      have lkk : ¬ (k : Int) < (k : Int) := by omega
      go_wp2
      go_returns
      exact ⟨ret_bool HH.out.1.symm, HH.out.2⟩
theorem own_ne {W : World} {b1 b2 n1 n2 s1 s2 : Nat} {t1 t2 : TypeId} {v1 v2 : Value} {xs ys : List Value} (h1 : W.ownsRow b1 t1 s1 v1 n1 xs) (h2 : W.ownsRow b2 t2 s2 v2 n2 ys) (ht : t1 ≠ t2) : ∀ q, v1.ownBlock = some q → some q ≠ v2.ownBlock := fun q hq e => by
  obtain ⟨c1, e1⟩ := row_cells h1 hq
  obtain ⟨c2, e2⟩ := row_cells h2 e.symm
  rw [e1] at e2
  simp only [Option.some.injEq, Obj.cells.injEq] at e2
  exact ht e2.2.1
theorem grown_keep {W w9 : World} {base n s : Nat} {t : TypeId} {v : Value} {xs : List Value} {row : Option Nat} (h : W.ownsRow base t s v n xs) (hgr : W.grownBy w9 row) (hne : ∀ q, v.ownBlock = some q → some q ≠ row) : w9.ownsRow base t s v n xs :=
  row_block h (fun g hg => hgr.block g (h.lt g hg).2 (hne g hg))
/-- What the model holds behind k parts. -/
structure SQ (w : World) (z : Nat → PA6) (d : Int) (k : Nat) (ad : Option Addr) (oc : Nat) (gd : Option Addr) (gm gc : Nat) (y : Nat → Int) (W : World) : Prop where
  own : W.ownsRow w.heap.size 28 6 (.slice ad (cnN z d k) oc) (cnN z d k) (rowPA6 (cnC z d k) (cnN z d k))
  grp : W.ownsRow w.heap.size 3 1 (.slice gd gm gc) gm (intR y gm)
  met : ∀ g, hs y gm g = mt_ z d k g
  gle : gm ≤ k
  bel : Below w.heap.size w W
theorem SQ.below {w W W' : World} {z : Nat → PA6} {d : Int} {k : Nat} {ad gd : Option Addr} {oc gm gc : Nat} {y : Nat → Int} (h : SQ w z d k ad oc gd gm gc y W) (b : Below W.heap.size W W') : SQ w z d k ad oc gd gm gc y W' := ⟨ownsRow_below h.own b, ownsRow_below h.grp b, h.met, h.gle, bel_on h.bel b⟩
theorem SQ.skip {w W : World} {z : Nat → PA6} {d : Int} {k : Nat} {ad gd : Option Addr} {oc gm gc : Nat} {y : Nat → Int} (h : SQ w z d k ad oc gd gm gc y W) (ok : okC z d k = false) : SQ w z d (k + 1) ad oc gd gm gc y W :=
  ⟨by rw [cnN_no ok, cnC_no ok]; exact h.own, h.grp, fun g => by rw [mt_no ok]; exact h.met g, by have := h.gle; omega, h.bel⟩
theorem SQ.row {w W : World} {z : Nat → PA6} {d : Int} {k : Nat} {ad gd : Option Addr} {oc gm gc : Nat} {y : Nat → Int} (h : SQ w z d k ad oc gd gm gc y W) : OwnPA6 W w.heap.size ad (cnN z d k) (cnC z d k) := by
  obtain ⟨ad3, cp, e, _, o⟩ := ownPA6_of h.own
  simp only [Value.slice.injEq, true_and] at e
  obtain ⟨rfl, rfl⟩ := e
  exact o
theorem SQ.gir {w W : World} {z : Nat → PA6} {d : Int} {k : Nat} {ad gd : Option Addr} {oc gm gc : Nat} {y : Nat → Int} (h : SQ w z d k ad oc gd gm gc y W) : IR W gd gm y := by
  obtain ⟨ad3, cp, e, _, o⟩ := ownI_of h.grp
  simp only [Value.slice.injEq, true_and] at e
  obtain ⟨rfl, rfl⟩ := e
  exact o.row
/-- The group is noted. -/
def upY (y : Nat → Int) (m : Nat) (g : Int) : Nat → Int := fun j => if j = m then g else y j
theorem intR_up {y : Nat → Int} {m : Nat} {g : Int} : intR (upY y m g) (m + 1) = intR y m ++ [.int .i64 g] := by
  show intR (upY y m g) m ++ _ = _
  rw [intR_congr (c := upY y m g) (d := y) (n := m) (fun j hj => if_neg (by omega))]
  simp [upY]
/-- State between the two appends: the groups hold what they will hold behind the part. -/
structure SG (w : World) (z : Nat → PA6) (d : Int) (k : Nat) (ad : Option Addr) (oc : Nat) (gd : Option Addr) (gm gc : Nat) (y : Nat → Int) (W : World) : Prop where
  own : W.ownsRow w.heap.size 28 6 (.slice ad (cnN z d k) oc) (cnN z d k) (rowPA6 (cnC z d k) (cnN z d k))
  grp : W.ownsRow w.heap.size 3 1 (.slice gd gm gc) gm (intR y gm)
  met : ∀ g, hs y gm g = mt_ z d (k + 1) g
  gle : gm ≤ k + 1
  bel : Below w.heap.size w W
theorem SG.below {w W W' : World} {z : Nat → PA6} {d : Int} {k : Nat} {ad gd : Option Addr} {oc gm gc : Nat} {y : Nat → Int} (h : SG w z d k ad oc gd gm gc y W) (b : Below W.heap.size W W') : SG w z d k ad oc gd gm gc y W' := ⟨ownsRow_below h.own b, ownsRow_below h.grp b, h.met, h.gle, bel_on h.bel b⟩
theorem SQ.none {w W : World} {z : Nat → PA6} {d : Int} {k : Nat} {ad gd : Option Addr} {oc gm gc : Nat} {y : Nat → Int} (h : SQ w z d k ad oc gd gm gc y W) (ok : okC z d k = true) (hg : ¬ 0 < (z k).grp) (hg0 : 0 ≤ (z k).grp) : SG w z d k ad oc gd gm gc y W :=
  ⟨h.own, h.grp, fun g => by
    rw [mt_yes ok]
    by_cases e : g = (z k).grp
    · rw [if_pos e, h.met g, e, decide_eq_false hg]
      unfold okC at ok
      simp only [Bool.and_eq_true, Bool.not_eq_true'] at ok
      exact ok.2
    · rw [if_neg e]; exact h.met g, by have := h.gle; omega, h.bel⟩
theorem SQ.noted {w W w9 : World} {z : Nat → PA6} {d : Int} {k : Nat} {ad gd gd9 : Option Addr} {oc gm gc gc9 : Nat} {y : Nat → Int} (h : SQ w z d k ad oc gd gm gc y W) (ok : okC z d k = true) (hg : 0 < (z k).grp)
    (hown : w9.ownsRow w.heap.size 3 1 (.slice gd9 (gm + 1) gc9) (gm + 1) (intR y gm ++ [.int .i64 (z k).grp])) (hgr : W.grownBy w9 (Value.slice gd gm gc).ownBlock) : SG w z d k ad oc gd9 (gm + 1) gc9 (upY y gm (z k).grp) w9 :=
  ⟨grown_keep h.own hgr (own_ne h.own h.grp (by decide)), by rw [intR_up]; exact hown, fun g => by
    rw [mt_yes ok]
    show (hs (upY y gm (z k).grp) gm g || (upY y gm (z k).grp gm == g)) = _
    rw [hs_congr (y := upY y gm (z k).grp) (x := y) gm (fun j hj => if_neg (by omega)), h.met g, show upY y gm (z k).grp gm = (z k).grp from if_pos rfl]
    by_cases e : g = (z k).grp
    · rw [if_pos e, e, decide_eq_true hg]; simp
    · rw [if_neg e]
      have : ((z k).grp == g) = false := by simp; omega
      rw [this, Bool.or_false], by have := h.gle; omega, egrown h.bel (Nat.le_refl _) hgr (fun r hr => (h.grp.lt r hr).1)⟩
theorem SG.grow {w W w9 : World} {z : Nat → PA6} {d : Int} {k : Nat} {ad gd ad9 : Option Addr} {oc gm gc cu9 : Nat} {y : Nat → Int} (h : SG w z d k ad oc gd gm gc y W) (ok : okC z d k = true)
    (hown : w9.ownsRow w.heap.size 28 6 (.slice ad9 (cnN z d k + 1) cu9) (cnN z d k + 1) (rowPA6 (cnC z d k) (cnN z d k) ++ [.int .i64 (z k).item, .int .i64 (z k).qty, .int .i64 (z k).scr, .int .i64 (z k).fst, .int .i64 (z k).lst, .int .i64 (z k).grp])) (hgr : W.grownBy w9 (Value.slice ad (cnN z d k) oc).ownBlock) : SQ w z d (k + 1) ad9 cu9 gd gm gc y w9 :=
  ⟨by rw [rowPA6_cn ok, cnN_yes ok]; exact hown, grown_keep h.grp hgr (own_ne h.grp h.own (by decide)), h.met, h.gle, egrown h.bel (Nat.le_refl _) hgr (fun r hr => (h.own.lt r hr).1)⟩

set_option maxRecDepth 20000 in
set_option maxHeartbeats 8000000 in
theorem l17Counting_any (ad : Option Addr) (n cap : Nat) (z : Nat → PA6) (d : Int) (w : World) (h : (n : Int) ≤ 1000) (hr : PAr w ad n z) (hg : ∀ j, j < n → 0 ≤ (z j).grp ∧ (z j).grp ≤ 9) :
    Calls Try.prog 59 #[.slice ad n cap, .int .i64 d] w fun e w' => ∃ ad2 oc, e = .returned (.slice ad2 (cnN z d n) oc) ∧ OwnPA6 w' w.heap.size ad2 (cnN z d n) (cnC z d n) ∧ Below w.heap.size w w' := by
  have HR : Hid (PAr w ad n z) := hr
  have HG : Hid (∀ j, j < n → 0 ≤ (z j).grp ∧ (z j).grp ≤ 9) := hg
  obtain ⟨i4, hi4, hz40, hz41, hz42⟩ := infoPA6
  obtain ⟨i3, hi3, hz30, hz31, hz32⟩ := info3
  clear hr hg
  go_enter Try.func59, Try.ntmps59
  go_wp2
  go_loopw [5, 6, 7] (fun v u i wr => ∃ (k : Nat) (ad2 : Option Addr) (oc : Nat) (gd : Option Addr) (gm gc : Nat) (y : Nat → Int), k ≤ n ∧ v = .slice ad2 (cnN z d k) oc ∧ u = .slice gd gm gc ∧ i = .int .i64 (k : Int) ∧ Hid (SQ w z d k ad2 oc gd gm gc y wr)) (fun _ _ i _ => n - (intOf i).toNat)
  case atStart =>
    exact ⟨0, some ⟨w.heap.size, 0, none⟩, 0, some ⟨w.heap.size + 1, 0, none⟩, 0, 0, fun _ => 0, Nat.zero_le _, rfl, rfl, rfl, hid ⟨⟨rfl, .inr ⟨w.heap.size, 0, #[], rfl, Nat.le_refl _, (CB.new _ _).alloc _, Nat.le_refl _, Nat.zero_le _, rfl, rfl⟩⟩, ⟨rfl, .inr ⟨w.heap.size + 1, 0, #[], rfl, by omega, CB.newAt (by simp) _ _, Nat.le_refl _, Nat.zero_le _, rfl, rfl⟩⟩, fun g => rfl, Nat.le_refl _, ((Below.refl _ _).alloc (Nat.le_refl _) _).alloc (by simp) _⟩⟩
  case round =>
    obtain ⟨k, ad2, oc, gd, gm, gc, y, hk, rfl, rfl, rfl, HH⟩ := hrel
    obtain ⟨wo, rfl⟩ : ∃ x, x = wr := ⟨wr, rfl⟩
    by_cases hlt : k < n
    · have hlt2 : (k : Int) < (n : Int) := by omega
      obtain ⟨kb, off, rfl, hkb⟩ := HR.out.addr (by omega)
      obtain ⟨c0, c1, c2, c3, c4, c5⟩ := (HR.out.below HH.out.bel).cell hlt
      have hgk := (HG.out k hlt).1
      have hcn := cnN_le z d k
      have hgm := HH.out.gle
      have HOK : Hid (okC z d k = (inB d (z k).fst (z k).lst && !mt_ z d k (z k).grp)) := hid rfl
      obtain ⟨x, hx⟩ : ∃ x, z k = x := ⟨_, rfl⟩
      have HX : Hid (z k = x) := hx
      rw [hx] at c0 c1 c2 c3 c4 c5 hgk HOK
      clear hx
      obtain ⟨it, qt, sc, fs, la, gr⟩ := x
      simp only at c0 c1 c2 c3 c4 c5 hgk HOK
      obtain ⟨hv, hhv⟩ : ∃ v, inB d fs la = v := ⟨_, rfl⟩
      obtain ⟨mv, hmv⟩ : ∃ v, mt_ z d k gr = v := ⟨_, rfl⟩
      rw [hhv, hmv] at HOK
      have HL : Hid (inB d fs la = hv) := hhv
      have HHS : Hid (∀ W, SQ w z d k ad2 oc gd gm gc y W → Calls Try.prog 109 #[.slice gd gm gc, .int .i64 gr] W fun e w' => e = .returned (.bool mv) ∧ Below W.heap.size W w') := hid (fun W q => by rw [← hmv, ← q.met gr]; exact l7Has_any gd gm gc y gr W (by omega) q.gir)
      clear hhv hmv
      have HBX : Hid (CB (wo.alloc (.cells #[.int .i64 it, .int .i64 qt, .int .i64 sc, .int .i64 fs, .int .i64 la, .int .i64 gr] 28 (0, 0))) wo.heap.size #[.int .i64 it, .int .i64 qt, .int .i64 sc, .int .i64 fs, .int .i64 la, .int .i64 gr] 28 ∧ SQ w z d k ad2 oc gd gm gc y (wo.alloc (.cells #[.int .i64 it, .int .i64 qt, .int .i64 sc, .int .i64 fs, .int .i64 la, .int .i64 gr] 28 (0, 0)))) := hid ⟨CB.new _ _, HH.out.below ((Below.refl _ _).alloc (Nat.le_refl _) _)⟩
      clear HH
      cases hv
      · have HN : Hid (okC z d k = false) := HOK
        go_wp2_with (go_at_call 67; refine (l1In_eq _ _ _ _ _ HL.out).mono ?_; rintro e w1 ⟨rfl, ew⟩; replace ew := ew.symm; subst ew)
        go_roundw
        case rel => exact ⟨k + 1, ad2, oc, gd, gm, gc, y, by omega, by rw [cnN_no HN.out], rfl, by go_num, hid (HBX.out.2.skip HN.out)⟩
        case measure => simp [intOf]; omega
      cases mv
      rotate_left
      · have HN : Hid (okC z d k = false) := HOK
        go_wp2_with (first | (go_at_call 67; refine (l1In_eq _ _ _ _ _ HL.out).mono ?_; rintro e w1 ⟨rfl, ew⟩; replace ew := ew.symm; subst ew) | (go_at_call 109; refine (HHS.out _ HBX.out.2).mono ?_; rintro e w1 ⟨rfl, b1⟩; have HS1 : Hid (SQ w z d (k + 1) ad2 oc gd gm gc y w1) := hid ((HBX.out.2.below b1).skip HN.out); clear b1))
        go_roundw
        case rel => exact ⟨k + 1, ad2, oc, gd, gm, gc, y, by omega, by rw [cnN_no HN.out], rfl, by go_num, HS1⟩
        case measure => simp [intOf]; omega
      have HN : Hid (okC z d k = true) := HOK
      by_cases hgp : 0 < gr
      · go_wp2_with (first
          | (go_at_call 67; refine (l1In_eq _ _ _ _ _ HL.out).mono ?_; rintro e w1 ⟨rfl, ew⟩; replace ew := ew.symm; subst ew)
          | (go_at_call 109; refine (HHS.out _ HBX.out.2).mono ?_; rintro e w1 ⟨rfl, b1⟩; go_loud (have X1 := HBX.out.1.below b1 HBX.out.1.lt; have x0 : w1.cell? ⟨wo.heap.size, 0, none⟩ = some (.int .i64 it) := (X1.cell 0).trans rfl; have x1 : w1.cell? ⟨wo.heap.size, 1, none⟩ = some (.int .i64 qt) := (X1.cell 1).trans rfl; have x2 : w1.cell? ⟨wo.heap.size, 2, none⟩ = some (.int .i64 sc) := (X1.cell 2).trans rfl; have x3 : w1.cell? ⟨wo.heap.size, 3, none⟩ = some (.int .i64 fs) := (X1.cell 3).trans rfl; have x4 : w1.cell? ⟨wo.heap.size, 4, none⟩ = some (.int .i64 la) := (X1.cell 4).trans rfl; have x5 : w1.cell? ⟨wo.heap.size, 5, none⟩ = some (.int .i64 gr) := (X1.cell 5).trans rfl; have HS1 : Hid (SQ w z d k ad2 oc gd gm gc y w1) := hid (HBX.out.2.below b1); have HX1 : Hid (CB w1 wo.heap.size #[.int .i64 it, .int .i64 qt, .int .i64 sc, .int .i64 fs, .int .i64 la, .int .i64 gr] 28) := X1; have HNE : Hid (∀ w9, (w1.alloc (.cells #[.int .i64 gr] 3 (0, 0))).grownBy w9 (Value.slice gd gm gc).ownBlock → some wo.heap.size ≠ (Value.slice gd gm gc).ownBlock) := hid (fun w9 _ e => (by obtain ⟨cur, ec⟩ := row_cells HS1.out.grp e.symm; have e3 := HX1.out; unfold CB at e3; rw [ec] at e3; simp only [Option.some.injEq, Obj.cells.injEq] at e3; exact absurd e3.2.1 (by decide))); clear b1 X1))
          | (at_builtin; refine wpList_append_own_at _ rfl _ _ 24 rfl w.heap.size 3 i3 (.int .i64 0) 1 8 Try.underlying24 hi3 hz30 hz31 hz32 rfl (by decide) (.slice gd gm gc) gm (intR y gm) rfl (HS1.out.below ((Below.refl _ _).alloc (Nat.le_refl _) _)).grp ⟨_, 0, none⟩ 1 1 [.int .i64 gr] rfl rfl (ecells (by first | rfl | simp)) (fun u hu => by simp at hu; subst hu; rfl) (by unfold maxLen; omega) (by omega) (by have := HS1.out.bel.size; simp; omega) ?_; intro v8 w8 hown hgr _ hloc; go_loud (obtain ⟨gd9, gc9, rfl⟩ := row_form hown; have HS8 : Hid (SG w z d k ad2 oc gd9 (gm + 1) gc9 (upY y gm gr) w8) := hid (by have := (HS1.out.below ((Below.refl _ _).alloc (Nat.le_refl _) _)).noted (w9 := w8) (gd9 := gd9) (gc9 := gc9) HN.out (by rw [HX.out]; exact hgp) (by rw [HX.out]; exact hown) hgr; rw [HX.out] at this; exact this); have X8 := (HX1.out.alloc (.cells #[.int .i64 gr] 3 (0, 0))).keep (hgr.block wo.heap.size (HX1.out.alloc _).lt (HNE.out _ hgr)); have z0 : w8.cell? ⟨wo.heap.size, 0, none⟩ = some (.int .i64 it) := (X8.cell 0).trans rfl; have z1 : w8.cell? ⟨wo.heap.size, 1, none⟩ = some (.int .i64 qt) := (X8.cell 1).trans rfl; have z2 : w8.cell? ⟨wo.heap.size, 2, none⟩ = some (.int .i64 sc) := (X8.cell 2).trans rfl; have z3 : w8.cell? ⟨wo.heap.size, 3, none⟩ = some (.int .i64 fs) := (X8.cell 3).trans rfl; have z4 : w8.cell? ⟨wo.heap.size, 4, none⟩ = some (.int .i64 la) := (X8.cell 4).trans rfl; have z5 : w8.cell? ⟨wo.heap.size, 5, none⟩ = some (.int .i64 gr) := (X8.cell 5).trans rfl; clear hown hgr hloc X8))
          | (at_builtin; refine wpList_append_own_at _ rfl _ _ 29 rfl w.heap.size 28 i4 (.agg #[.int .i64 0, .int .i64 0, .int .i64 0, .int .i64 0, .int .i64 0, .int .i64 0]) 6 48 Try.underlying29 hi4 hz40 hz41 hz42 rfl (by decide) (.slice ad2 (cnN z d k) oc) (cnN z d k) (rowPA6 (cnC z d k) (cnN z d k)) rfl (HS8.out.below ((Below.refl _ _).alloc (Nat.le_refl _) _)).own ⟨_, 0, none⟩ 1 1 [.int .i64 it, .int .i64 qt, .int .i64 sc, .int .i64 fs, .int .i64 la, .int .i64 gr] rfl rfl (ecells (by first | rfl | simp)) (fun u hu => by simp at hu; rcases hu with rfl | rfl | rfl | rfl | rfl | rfl <;> rfl) (by unfold maxLen; omega) (by omega) (by have := HS8.out.bel.size; simp; omega) ?_; intro v9 w9 hown hgr _ hloc; go_loud (obtain ⟨ad9, cu9, rfl⟩ := row_form hown; have HS9 : Hid (SQ w z d (k + 1) ad9 cu9 gd9 (gm + 1) gc9 (upY y gm gr) w9) := hid ((HS8.out.below ((Below.refl _ _).alloc (Nat.le_refl _) _)).grow HN.out (by rw [HX.out]; exact hown) hgr); clear hown hgr hloc)))
        go_roundw
        case rel => exact ⟨k + 1, ad9, cu9, gd9, gm + 1, gc9, upY y gm gr, by omega, by rw [cnN_yes HN.out], by first | rfl | simp, by go_num, HS9⟩
        case measure => simp [intOf]; omega
      · go_wp2_with (first
          | (go_at_call 67; refine (l1In_eq _ _ _ _ _ HL.out).mono ?_; rintro e w1 ⟨rfl, ew⟩; replace ew := ew.symm; subst ew)
          | (go_at_call 109; refine (HHS.out _ HBX.out.2).mono ?_; rintro e w1 ⟨rfl, b1⟩; go_loud (have X1 := HBX.out.1.below b1 HBX.out.1.lt; have x0 : w1.cell? ⟨wo.heap.size, 0, none⟩ = some (.int .i64 it) := (X1.cell 0).trans rfl; have x1 : w1.cell? ⟨wo.heap.size, 1, none⟩ = some (.int .i64 qt) := (X1.cell 1).trans rfl; have x2 : w1.cell? ⟨wo.heap.size, 2, none⟩ = some (.int .i64 sc) := (X1.cell 2).trans rfl; have x3 : w1.cell? ⟨wo.heap.size, 3, none⟩ = some (.int .i64 fs) := (X1.cell 3).trans rfl; have x4 : w1.cell? ⟨wo.heap.size, 4, none⟩ = some (.int .i64 la) := (X1.cell 4).trans rfl; have x5 : w1.cell? ⟨wo.heap.size, 5, none⟩ = some (.int .i64 gr) := (X1.cell 5).trans rfl; have HS1 : Hid (SQ w z d k ad2 oc gd gm gc y w1) := hid (HBX.out.2.below b1); have HX1 : Hid (CB w1 wo.heap.size #[.int .i64 it, .int .i64 qt, .int .i64 sc, .int .i64 fs, .int .i64 la, .int .i64 gr] 28) := X1; have HNE : Hid (∀ w9, (w1.alloc (.cells #[.int .i64 gr] 3 (0, 0))).grownBy w9 (Value.slice gd gm gc).ownBlock → some wo.heap.size ≠ (Value.slice gd gm gc).ownBlock) := hid (fun w9 _ e => (by obtain ⟨cur, ec⟩ := row_cells HS1.out.grp e.symm; have e3 := HX1.out; unfold CB at e3; rw [ec] at e3; simp only [Option.some.injEq, Obj.cells.injEq] at e3; exact absurd e3.2.1 (by decide))); have HS8 : Hid (SG w z d k ad2 oc gd gm gc y w1) := hid (HS1.out.none HN.out (by rw [HX.out]; show ¬ 0 < gr; omega) (by rw [HX.out]; exact hgk)); clear b1 X1))
          | (at_builtin; refine wpList_append_own_at _ rfl _ _ 29 rfl w.heap.size 28 i4 (.agg #[.int .i64 0, .int .i64 0, .int .i64 0, .int .i64 0, .int .i64 0, .int .i64 0]) 6 48 Try.underlying29 hi4 hz40 hz41 hz42 rfl (by decide) (.slice ad2 (cnN z d k) oc) (cnN z d k) (rowPA6 (cnC z d k) (cnN z d k)) rfl (HS8.out.below ((Below.refl _ _).alloc (Nat.le_refl _) _)).own ⟨_, 0, none⟩ 1 1 [.int .i64 it, .int .i64 qt, .int .i64 sc, .int .i64 fs, .int .i64 la, .int .i64 gr] rfl rfl (ecells (by first | rfl | simp)) (fun u hu => by simp at hu; rcases hu with rfl | rfl | rfl | rfl | rfl | rfl <;> rfl) (by unfold maxLen; omega) (by omega) (by have := HS8.out.bel.size; simp; omega) ?_; intro v9 w9 hown hgr _ hloc; go_loud (obtain ⟨ad9, cu9, rfl⟩ := row_form hown; have HS9 : Hid (SQ w z d (k + 1) ad9 cu9 gd gm gc y w9) := hid ((HS8.out.below ((Below.refl _ _).alloc (Nat.le_refl _) _)).grow HN.out (by rw [HX.out]; exact hown) hgr); clear hown hgr hloc)))
        go_roundw
        case rel => exact ⟨k + 1, ad9, cu9, gd, gm, gc, y, by omega, by rw [cnN_yes HN.out], rfl, by go_num, HS9⟩
        case measure => simp [intOf]; omega
    · obtain rfl : k = n := by omega
      have lkk : ¬ (k : Int) < (k : Int) := by omega
      go_wp2
      go_returns
      exact ⟨ad2, ⟨oc, rfl⟩, HH.out.row, HH.out.bel⟩
set_option maxRecDepth 20000 in
set_option maxHeartbeats 2000000 in
theorem l17Batches_any (nm : ByteArray) (ba : Int) (ph : Bool) (ra : Option Addr) (rn rc : Nat) (sa : Option Addr) (sn sc : Nat) (q : Int) (w : World) (h0 : 0 ≤ q) (h1 : q ≤ 1000000) (b0 : 1 ≤ ba) (b1 : ba ≤ 1000000) :
    Calls Try.prog 95 #[.agg #[.string nm, .int .i64 ba, .bool ph, .slice ra rn rc, .slice sa sn sc], .int .i64 q] w fun e w' => e = .returned (.int .i64 (bat q ba)) ∧ Below w.heap.size w w' := by
  have e1 : (q + ba - 1).tdiv ba = bat q ba := Int.tdiv_eq_ediv_of_nonneg (by omega)
  obtain ⟨d0, d1⟩ := bat_bd h0 b0
  have hb0 : ¬ ba = 0 := by omega
  generalize bat q ba = B at *
  go_enter Try.func95, Try.ntmps95
  go_wp2
  go_returns
  exact ⟨rfl, by go_grown⟩
end Go.Proofs.Ytmbdeafpfdeigaa
