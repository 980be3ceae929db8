/- Making, the program: numbers added, parts added, items expanded. -/
import Derived.Test.YtmbdeafpfdeigaaKb
import Derived.Test.YtmbdeafpfdeigaaMj
import Derived.Deep.QuietTactic
namespace Go.Proofs.Ytmbdeafpfdeigaa
open Go Go.ChangeShapes Go.WideShapes Go.ChangeAt Go.RowKit
set_option linter.unusedVariables false
set_option linter.unusedSimpArgs false

/-- Nothing that was there is changed but block B. -/
def Bt (B : Nat) (w w' : World) : Prop := (∀ y, y < w.heap.size → y ≠ B → w'.heap[y]? = w.heap[y]?) ∧ Below B w w'
theorem Bt.refl (B : Nat) (w : World) : Bt B w w := ⟨fun _ _ _ => rfl, Below.refl _ _⟩
theorem Bt.trans {B : Nat} {a b c : World} (h : Bt B a b) (k : Bt B b c) : Bt B a c := ⟨fun y h1 h2 => (k.1 y (by have := h.2.size; omega) h2).trans (h.1 y h1 h2), h.2.trans k.2⟩
theorem Bt.of {B : Nat} {w w' : World} (h : Below w.heap.size w w') (hB : B ≤ w.heap.size) : Bt B w w' := ⟨fun y h1 _ => h.block y h1, h.mono hB⟩
theorem Bt.on {B : Nat} {w a b : World} (h : Bt B w a) (k : Below a.heap.size a b) (hB : B ≤ a.heap.size) : Bt B w b := h.trans (Bt.of k hB)
theorem Bt.set {B : Nat} {w a : World} (h : Bt B w a) (o : Nat) (v : Value) : Bt B w (a.setCell ⟨B, o, none⟩ v) := ⟨fun y h1 h2 => (hs_set h2).trans (h.1 y h1 h2), h.2.setCell (Nat.le_refl _) _⟩
theorem Bt.drew {B : Nat} {w a : World} (h : Bt B w a) : Bt B w a.drew := ⟨h.1, h.2.drew⟩
theorem Bt.cell {B b o : Nat} {w w' : World} {v : Value} (h : Bt B w w') (hc : w.cell? ⟨b, o, none⟩ = some v) (hb : b ≠ B) : w'.cell? ⟨b, o, none⟩ = some v := by
  rw [World.cell?_of_block (w := w) (h.1 b (cell_lt hc) hb)]; exact hc
theorem CB.bt {B b : Nat} {w w' : World} {cs : Array Value} {t : TypeId} (H : CB w b cs t) (h : Bt B w w') (hb : b ≠ B) : CB w' b cs t := H.keep (h.1 b H.lt hb)
theorem OwnPA6.bt {B lo n : Nat} {w w' : World} {ad : Option Addr} {c : Nat → PA6} (H : OwnPA6 w lo ad n c) (h : Bt B w w') (hb : B < lo) : OwnPA6 w' lo ad n c := by
  rcases H with h0 | ⟨g, cs, e, h1, h2, h3, h4⟩
  · exact .inl h0
  · exact .inr ⟨g, cs, e, h1, h2.bt h (by omega), h3, h4⟩

/-- Items that stay readable while only what lies from block B on changes. -/
def ItS (B : Nat) (w : World) (ia : Option Addr) (n : Nat) (c : Nat → IT) : Prop := ∃ w0 : World, w0.heap.size ≤ B ∧ ITr w0 ia n c ∧ Below w0.heap.size w0 w
theorem ItS.on {B : Nat} {w w' : World} {ia : Option Addr} {n : Nat} {c : Nat → IT} (h : ItS B w ia n c) (b : Bt B w w') : ItS B w' ia n c := by obtain ⟨w0, h1, h2, h3⟩ := h; exact ⟨w0, h1, h2, h3.trans (b.2.mono h1)⟩
theorem ItS.r {B : Nat} {w : World} {ia : Option Addr} {n : Nat} {c : Nat → IT} (h : ItS B w ia n c) : ITr w ia n c := by obtain ⟨w0, h1, h2, h3⟩ := h; exact h2.below h3
/-- What is being made: the program's struct and its numbers. -/
structure MG (ia : Option Addr) (n ic : Nat) (d : Int) (mb LB : Nat) (f : Nat → Int) (W : World) : Prop where
  m : CB W mb #[.slice ia n ic, .int .i64 d, .slice (some ⟨LB, 0, none⟩) n n] 109
  q : IB W LB n f
  ne : mb ≠ LB
section
variable {ia : Option Addr} {n ic : Nat} {d : Int} {mb LB : Nat} {f : Nat → Int} {W W' : World}
theorem MG.below (h : MG ia n ic d mb LB f W) (b : Below W.heap.size W W') : MG ia n ic d mb LB f W' := ⟨h.m.below b h.m.lt, h.q.below b, h.ne⟩
theorem MG.set (h : MG ia n ic d mb LB f W) {i : Nat} (hi : i < n) (x : Int) : MG ia n ic d mb LB (upI f i x) (W.setCell ⟨LB, i, none⟩ (.int .i64 x)) := ⟨h.m.other _ h.ne, h.q.set hi x, h.ne⟩
end
/-- Parts that are right, as far as making asks. -/
def PG (n : Nat) (p : PA6) : Prop := (0 ≤ p.item ∧ p.item < (n : Int)) ∧ (1 ≤ p.qty ∧ p.qty ≤ 1000000) ∧ (0 ≤ p.scr ∧ p.scr ≤ 100) ∧ (0 ≤ p.grp ∧ p.grp ≤ 9)
theorem paB_pg {o : Nat} {n : Nat} {p : PA6} (h : paB (o : Int) (n : Int) p = true) : PG n p := by
  obtain ⟨h1, h2, h3, _, _, _, h7⟩ := paB_p h
  exact ⟨by omega, h2, h3, h7⟩
set_option maxRecDepth 20000 in
set_option maxHeartbeats 8000000 in
theorem counting_own (ad : Option Addr) (n cap : Nat) (z : Nat → PA6) (d : Int) (w : World) (h : (n : Int) ≤ 1048576) (hr : PAr w ad n z) (hg : ∀ j, j < n → 0 ≤ (z j).grp ∧ (z j).grp ≤ 9) :
    Calls Try.prog 136 #[.int .i64 d, .slice ad n cap] w fun e w' => ∃ ad2 oc, e = .returned (.slice ad2 (cnN z d n) oc) ∧ OwnPA6 w' w.heap.size ad2 (cnN z d n) (cnC z d n) ∧ Below w.heap.size w w' := by
  have HR : Hid (PAr w ad n z) := hr
  have HG : Hid (∀ j, j < n → 0 ≤ (z j).grp ∧ (z j).grp ≤ 9) := hg
  obtain ⟨i4, hi4, hz40, hz41, hz42⟩ := infoPA6
  clear hr hg
  go_enter Try.func136, Try.ntmps136
  go_wp2
  go_loopw [5, 13] (fun v i wr => ∃ (k : Nat) (ad2 : Option Addr) (oc : Nat), k ≤ n ∧ v = .slice ad2 (cnN z d k) oc ∧ i = .int .i64 (k : Int) ∧ Hid (CQ w z d k ad2 oc wr)) (fun _ i _ => n - (intOf i).toNat)
  case atStart =>
    refine ⟨0, some ⟨w.heap.size, 0, none⟩, 0, Nat.zero_le _, rfl, rfl, hid ⟨⟨rfl, .inr ⟨w.heap.size, 0, #[], rfl, Nat.le_refl _, (CB.new _ _).alloc _, Nat.le_refl _, Nat.zero_le _, rfl, rfl⟩⟩, fun q hq => by simp [Value.ownBlock] at hq; omega, ⟨_, CB.newAt (by simp) _ _, fun G hG => ?_⟩, ((Below.refl _ _).alloc (Nat.le_refl _) _).alloc (by simp) _⟩⟩
    rcases G with _ | _ | _ | _ | _ | _ | _ | _ | _ | _ | G <;> first | rfl | omega
  case round =>
    obtain ⟨k, ad2, oc, hk, rfl, rfl, HH⟩ := hrel
    obtain ⟨wo, rfl⟩ : ∃ x, x = wr := ⟨wr, rfl⟩
    by_cases hlt : k < n
    · have hlt2 : (k : Int) < (n : Int) := by omega
      obtain ⟨kb, off, rfl, hkb⟩ := HR.out.addr (by omega)
      obtain ⟨c0, c1, c2, c3, c4, c5⟩ := (HR.out.below HH.out.bel).cell hlt
      have hgk := HG.out k hlt
      obtain ⟨G, hG⟩ : ∃ G : Nat, (z k).grp = (G : Int) := ⟨(z k).grp.toNat, by omega⟩
      have HGE : Hid ((z k).grp = (G : Int)) := hG
      rw [hG] at c5 hgk
      have hG9 : G < 10 := by omega
      have hG10 : (G : Int) < 10 := by omega
      have hAB : w.heap.size + 1 < wo.heap.size := by obtain ⟨cs, q, _⟩ := HH.out.met; exact q.lt
      have hcn := cnN_le z d k
      have HOK : Hid (okC z d k = (inB d (z k).fst (z k).lst && !mt_ z d k (G : Int))) := hid (by unfold okC; rw [hG])
      clear hG hgk
      obtain ⟨x, hx⟩ : ∃ x, z k = x := ⟨_, rfl⟩
      have HX : Hid (z k = x) := hx
      rw [hx] at c0 c1 c2 c3 c4 HGE HOK
      clear hx
      obtain ⟨it, qt, sc, fs, la, gr⟩ := x
      simp only at c0 c1 c2 c3 c4 HGE HOK
      have HGG := HGE.out
      subst HGG
      clear HGE
      obtain ⟨hv, hhv⟩ : ∃ v, inB d fs la = v := ⟨_, rfl⟩
      obtain ⟨mv, hmv⟩ : ∃ v, mt_ z d k (G : Int) = v := ⟨_, rfl⟩
      rw [hhv, hmv] at HOK
      have HHO : Hid (∀ W, Calls Try.prog 151 #[.agg #[.int .i64 it, .int .i64 qt, .int .i64 sc, .int .i64 fs, .int .i64 la, .int .i64 (G : Int)], .int .i64 d] W fun e w' => e = .returned (.bool hv) ∧ Below W.heap.size W w') := hid (fun W => holdsOn_eq ⟨it, qt, sc, fs, la, (G : Int)⟩ d hv W hhv)
      have HMV : Hid (mt_ z d k (G : Int) = mv) := hmv
      clear hhv hmv
      have HBX : Hid (CB (wo.alloc (.cells #[.int .i64 it, .int .i64 qt, .int .i64 sc, .int .i64 fs, .int .i64 la, .int .i64 (G : Int)] 28 (0, 0))) wo.heap.size #[.int .i64 it, .int .i64 qt, .int .i64 sc, .int .i64 fs, .int .i64 la, .int .i64 (G : Int)] 28 ∧ Below wo.heap.size wo (wo.alloc (.cells #[.int .i64 it, .int .i64 qt, .int .i64 sc, .int .i64 fs, .int .i64 la, .int .i64 (G : Int)] 28 (0, 0)))) := hid ⟨CB.new _ _, (Below.refl _ _).alloc (Nat.le_refl _) _⟩
      have HAF : Hid (∀ w1, Below wo.heap.size wo w1 → CQ w z d k ad2 oc w1 ∧ w1.cell? ⟨w.heap.size + 1, G, none⟩ = some (.bool mv) ∧ w1.frozen? ⟨w.heap.size + 1, G, none⟩ = false) := hid (fun w1 b => by
        have q := HH.out.below b
        obtain ⟨cs, q1, q2⟩ := q.met
        exact ⟨q, by rw [q1.cell, q2 G hG9, HMV.out], q1.fr _⟩)
      cases hv
      · have HN : Hid (okC z d k = false) := HOK
        go_wp2_with (go_at_call 151; refine (HHO.out _).mono ?_; rintro e w1 ⟨rfl, b1⟩; have HQ1 : Hid (CQ w z d (k + 1) ad2 oc w1) := hid ((HAF.out _ (bel_on HBX.out.2 b1)).1.skip HN.out); clear b1)
        go_roundw
        case rel => exact ⟨k + 1, ad2, oc, by omega, by rw [cnN_no HN.out], by go_num, HQ1⟩
        case measure => simp [intOf]; omega
      cases mv
      rotate_left
      · have HN : Hid (okC z d k = false) := HOK
        go_wp2_with (go_at_call 151; refine (HHO.out _).mono ?_; rintro e w1 ⟨rfl, b1⟩; have af := (HAF.out _ (bel_on HBX.out.2 b1)).2.1; have x5 : w1.cell? ⟨wo.heap.size, 5, none⟩ = some (.int .i64 (G : Int)) := ((HBX.out.1.below b1 HBX.out.1.lt).cell 5).trans rfl; have HQ1 : Hid (CQ w z d (k + 1) ad2 oc w1) := hid ((HAF.out _ (bel_on HBX.out.2 b1)).1.skip HN.out); clear b1)
        go_roundw
        case rel => exact ⟨k + 1, ad2, oc, by omega, by rw [cnN_no HN.out], by go_num, HQ1⟩
        case measure => simp [intOf]; omega
      · have HN : Hid (okC z d k = true) := HOK
        go_wp2_with (first
          | (go_at_call 151; refine (HHO.out _).mono ?_; rintro e w1 ⟨rfl, b1⟩; have af := (HAF.out _ (bel_on HBX.out.2 b1)).2.1; have ff := (HAF.out _ (bel_on HBX.out.2 b1)).2.2; have X1 := HBX.out.1.below b1 HBX.out.1.lt; have x0 : w1.cell? ⟨wo.heap.size, 0, none⟩ = some (.int .i64 it) := (X1.cell 0).trans rfl; have x1 : w1.cell? ⟨wo.heap.size, 1, none⟩ = some (.int .i64 qt) := (X1.cell 1).trans rfl; have x2 : w1.cell? ⟨wo.heap.size, 2, none⟩ = some (.int .i64 sc) := (X1.cell 2).trans rfl; have x3 : w1.cell? ⟨wo.heap.size, 3, none⟩ = some (.int .i64 fs) := (X1.cell 3).trans rfl; have x4 : w1.cell? ⟨wo.heap.size, 4, none⟩ = some (.int .i64 la) := (X1.cell 4).trans rfl; have x5 : w1.cell? ⟨wo.heap.size, 5, none⟩ = some (.int .i64 (G : Int)) := (X1.cell 5).trans rfl; have HQ1 : Hid (CQ w z d k ad2 oc w1) := hid (HAF.out _ (bel_on HBX.out.2 b1)).1; have hs1 := bel_on HBX.out.2 b1 |>.size; clear b1 X1)
          | (at_builtin; go_loud (refine wpList_append_own_at _ rfl _ _ 29 rfl w.heap.size 28 i4 (.agg #[.int .i64 0, .int .i64 0, .int .i64 0, .int .i64 0, .int .i64 0, .int .i64 0]) 6 48 Try.underlying29 hi4 hz40 hz41 hz42 rfl (by decide) (.slice ad2 (cnN z d k) oc) (cnN z d k) (rowPA6 (cnC z d k) (cnN z d k)) rfl (ownsRow_below (row_set HQ1.out.own _ HQ1.out.ne) ((Below.refl _ _).alloc (Nat.le_refl _) _)) ⟨_, 0, none⟩ 1 1 [.int .i64 it, .int .i64 qt, .int .i64 sc, .int .i64 fs, .int .i64 la, .int .i64 (G : Int)] rfl rfl (ecells (by first | rfl | simp)) (fun u hu => by simp at hu; rcases hu with rfl | rfl | rfl | rfl | rfl | rfl <;> rfl) (by unfold maxLen; omega) (by omega) (by have := HQ1.out.bel.size; simp; omega) ?_); intro v9 w9 hown hgr _ hloc; go_loud (obtain ⟨ad9, cu9, rfl⟩ := row_form hown; have HQ9 : Hid (CQ w z d (k + 1) ad9 cu9 w9) := hid (HQ1.out.grow HN.out HX.out hG9 hown hgr hloc); clear hown hgr hloc)))
        go_roundw
        case rel => exact ⟨k + 1, ad9, cu9, by omega, by rw [cnN_yes HN.out], by go_num, HQ9⟩
        case measure => simp [intOf]; omega
    · obtain rfl : k = n := by omega
      have lkk : ¬ (k : Int) < (k : Int) := by omega
      go_wp2
      go_returns
      have HOW : Hid (OwnPA6 wo w.heap.size ad2 (cnN z d k) (cnC z d k)) := hid (by
        obtain ⟨ad3, cp, e, _, o⟩ := ownPA6_of HH.out.own
        simp only [Value.slice.injEq, true_and] at e
        obtain ⟨rfl, rfl⟩ := e
        exact o)
      exact ⟨ad2, ⟨oc, rfl⟩, HOW.out, HH.out.bel⟩

set_option maxRecDepth 20000 in
set_option maxHeartbeats 2000000 in
theorem add_any (ia : Option Addr) (n ic : Nat) (d : Int) (mb LB : Nat) (f : Nat → Int) (i : Nat) (x : Int) (w : World) (hn : (n : Int) ≤ 60) (hM : MG ia n ic d mb LB f w) (hi : i < n) (hf : FQ f) (x0 : 0 ≤ x) (x1 : x ≤ 100000000000) :
    Calls Try.prog 132 #[.pointer (some ⟨mb, 0, none⟩), .int .i64 (i : Int), .int .i64 x] w fun e w' => e = .returned (.bool (inB (f i + x) 0 1000000)) ∧ MG ia n ic d mb LB (upI f i (f i + x)) w' ∧ Bt LB w w' := by
  have HM : Hid (MG ia n ic d mb LB f w) := hM
  have hfi := hf i
  have hi2 : (i : Int) < (n : Int) := by omega
  have c2 : w.cell? ⟨mb, 2, none⟩ = some (.slice (some ⟨LB, 0, none⟩) n n) := (hM.m.cell 2).trans rfl
  have q1 := hM.q.cell hi
  have f1 := hM.q.fr i
  have nB : mb ≠ LB := hM.ne
  obtain ⟨A, hA⟩ : ∃ A, f i = A := ⟨_, rfl⟩
  rw [hA] at q1 hfi
  have HN : Hid (MG ia n ic d mb LB (upI f i (A + x)) (w.setCell ⟨LB, i, none⟩ (.int .i64 (A + x))) ∧ Bt LB w (w.setCell ⟨LB, i, none⟩ (.int .i64 (A + x)))) := hid ⟨hM.set hi _, (Bt.refl _ _).set _ _⟩
  have d2 : (w.setCell ⟨LB, i, none⟩ (.int .i64 (A + x))).cell? ⟨mb, 2, none⟩ = some (.slice (some ⟨LB, 0, none⟩) n n) := (HN.out.1.m.cell 2).trans rfl
  have d1 : (w.setCell ⟨LB, i, none⟩ (.int .i64 (A + x))).cell? ⟨LB, i, none⟩ = some (.int .i64 (A + x)) := by have := HN.out.1.q.cell hi; rw [upI_eq] at this; exact this
  clear hM hf
  rw [hA]
  clear hA
  go_enter Try.func132, Try.ntmps132
  go_wp2_with (go_at_call 76; refine (isQty_any _ _).mono ?_; rintro e w1 ⟨rfl, ew⟩; replace ew := ew.symm; subst ew)
  go_returns
  exact ⟨rfl, HN.out⟩
end Go.Proofs.Ytmbdeafpfdeigaa
