/- Making, the program: what is taken, Phantoms passed by. -/
import Derived.Test.YtmbdeafpfdeigaaKf
namespace Go.Proofs.Ytmbdeafpfdeigaa
open Go Go.ChangeShapes Go.WideShapes Go.ChangeAt Go.RowKit
set_option linter.unusedVariables false
set_option linter.unusedSimpArgs false

/-- One place that is passed by. -/
def nS (c : Nat → IT) (d : Int) (f : Nat → Int) (i : Nat) : Nat → Int := if (c i).pha = true ∧ 0 < f i then xpF c d (upI f i 0) i (f i) else f
def nO (c : Nat → IT) (d : Int) (f : Nat → Int) (i : Nat) : Bool := if (c i).pha = true ∧ 0 < f i then xpB c d (upI f i 0) i (f i) else true
def ndF (c : Nat → IT) (d : Int) : Nat → Nat → (Nat → Int) → (Nat → Int)
  | 0, _, f => f
  | r + 1, p, f => ndF c d r (p + 1) (nS c d f p)
def ndB (c : Nat → IT) (d : Int) : Nat → Nat → (Nat → Int) → Bool
  | 0, _, _ => true
  | r + 1, p, f => nO c d f p && ndB c d r (p + 1) (nS c d f p)
def EN (W : World) (pb vb mb : Nat) : Prop := W.cell? ⟨pb, 0, none⟩ = some (.pointer (some ⟨mb, 0, none⟩)) ∧ W.cell? ⟨vb, 0, none⟩ = some (.func (.func 100) #[] #[.pointer (some ⟨pb, 0, none⟩), .pointer (some ⟨vb, 0, none⟩)])
theorem EN.bt {B pb vb mb : Nat} {w w' : World} (h : EN w pb vb mb) (b : Bt B w w') (h1 : pb ≠ B) (h2 : vb ≠ B) : EN w' pb vb mb := ⟨b.cell h.1 h1, b.cell h.2 h2⟩
theorem nS_q {c : Nat → IT} {d : Int} {f : Nat → Int} {i : Nat} (hf : FQ f) (h : nO c d f i = true) : FQ (nS c d f i) := by
  unfold nO at h
  unfold nS
  split
  · rename_i g; rw [if_pos g] at h; exact xpF_q (n := 0) (hf.up i (Int.le_refl _) (by omega)) h
  · exact hf
theorem nS_no {c : Nat → IT} {d : Int} {f : Nat → Int} {i : Nat} (h : ¬ ((c i).pha = true ∧ 0 < f i)) : nS c d f i = f ∧ nO c d f i = true := ⟨if_neg h, if_neg h⟩
theorem nS_yes {c : Nat → IT} {d : Int} {f : Nat → Int} {i : Nat} (h : (c i).pha = true ∧ 0 < f i) : nS c d f i = xpF c d (upI f i 0) i (f i) ∧ nO c d f i = xpB c d (upI f i 0) i (f i) := ⟨if_pos h, if_pos h⟩

set_option maxRecDepth 20000 in
set_option maxHeartbeats 8000000 in
theorem passBy_any (ia : Option Addr) (n ic : Nat) (c : Nat → IT) (d : Int) (mb LB pb vb : Nat) (hI : isB n c = true) (hp : pb ≠ LB) (hv : vb ≠ LB) : ∀ (r p : Nat) (f : Nat → Int) (w : World), p + r = n → MG ia n ic d mb LB f w → ItS LB w ia n c → FQ f → EN w pb vb mb →
    Calls Try.prog 100 #[.int .i64 (p : Int), .pointer (some ⟨pb, 0, none⟩), .pointer (some ⟨vb, 0, none⟩)] w (ApP2 ia n ic d mb LB (ndF c d r p f) (ndB c d r p f) w)
  | 0, p, f, w, hpr, hM, hS, hf, hE => by
    unfold ApP2
    obtain rfl : p = n := by omega
    have HM : Hid (MG ia p ic d mb LB f w) := hM
    have m0 : w.cell? ⟨mb, 0, none⟩ = some (.slice ia p ic) := (hM.m.cell 0).trans rfl
    have e1 := hE.1
    have g0 : ((p : Int) == (p : Int)) = true := by simp
    clear hM hS hE
    go_enter Try.func100, Try.ntmps100
    go_wp2
    go_returns
    exact ⟨rfl, Bt.refl _ _, fun _ => HM.out⟩
  | r + 1, p, f, w, hpr, hM, hS, hf, hE => by
    have IH : Hid (∀ (f : Nat → Int) (w : World), MG ia n ic d mb LB f w → ItS LB w ia n c → FQ f → EN w pb vb mb → Calls Try.prog 100 #[.int .i64 ((p + 1 : Nat) : Int), .pointer (some ⟨pb, 0, none⟩), .pointer (some ⟨vb, 0, none⟩)] w (ApP2 ia n ic d mb LB (ndF c d r (p + 1) f) (ndB c d r (p + 1) f) w)) := hid (fun f w a b k e => passBy_any ia n ic c d mb LB pb vb hI hp hv r (p + 1) f w (by omega) a b k e)
    unfold ApP2
    have hlt : p < n := by omega
    have hlt2 : (p : Int) < (n : Int) := by omega
    have hn60 : (n : Int) ≤ 60 := by have := (isB_p hI).1; omega
    have HM : Hid (MG ia n ic d mb LB f w) := hM
    have HE : Hid (EN w pb vb mb) := hE
    have HF : Hid (FQ f) := hf
    have HS : Hid (ItS LB w ia n c) := hS
    have hne : mb ≠ LB := hM.ne
    have hLB : LB < w.heap.size := hM.q.lt
    have m0 : w.cell? ⟨mb, 0, none⟩ = some (.slice ia n ic) := (hM.m.cell 0).trans rfl
    have m2 : w.cell? ⟨mb, 2, none⟩ = some (.slice (some ⟨LB, 0, none⟩) n n) := (hM.m.cell 2).trans rfl
    have q1 := hM.q.cell hlt
    have f1 := hM.q.fr p
    have e1 := hE.1
    have e2 := hE.2
    have hfp := hf p
    obtain ⟨kb, off, rfl, hkb⟩ := hS.r.addr (by omega)
    obtain ⟨ra, rc, sa, sc, _, _, c0, c1, c2, c3, c4, r5, r6⟩ := hS.r.cell hlt
    have g0 : ((p : Int) == (n : Int)) = false := by simp; omega
    have hmk : IntKind.i64.wrap ((p : Int) + 1) = ((p + 1 : Nat) : Int) := by rw [IntWalk.i64_in _ ⟨by omega, by omega⟩]; omega
    have HPN : Hid ((p : Int) + 1 = ((p + 1 : Nat) : Int)) := by rw [show ((p + 1 : Nat) : Int) = (p : Int) + 1 from rfl]; exact rfl
    clear hM hS hE hf hpr r5 r6 c0 c1 c3 c4
    by_cases hy : (c p).pha = true ∧ 0 < f p
    · obtain ⟨y1, y2⟩ := nS_yes (c := c) (d := d) hy
      have HXP : Hid (∀ W, MG (some ⟨kb, off, none⟩) n ic d mb LB (upI f p 0) W → ItS LB W (some ⟨kb, off, none⟩) n c → Calls Try.prog 101 #[.pointer (some ⟨mb, 0, none⟩), .int .i64 (p : Int), .int .i64 (f p)] W (ApP2 (some ⟨kb, off, none⟩) n ic d mb LB (nS c d f p) (nO c d f p) W)) := hid (fun W a b => by rw [y1, y2]; exact expand_any _ n ic c d mb LB _ p _ W hI a b (HF.out.up p (Int.le_refl _) (by omega)) hlt hfp.1 hfp.2)
      have HQ : Hid (nO c d f p = true → FQ (nS c d f p)) := hid (fun q => nS_q HF.out q)
      have HST : Hid (MG (some ⟨kb, off, none⟩) n ic d mb LB (upI f p 0) (w.setCell ⟨LB, p, none⟩ (.int .i64 0)) ∧ Bt LB w (w.setCell ⟨LB, p, none⟩ (.int .i64 0))) := hid ⟨HM.out.set hlt 0, (Bt.refl _ _).set _ _⟩
      have hph := hy.1
      have hfp0 := hy.2
      have HND : Hid (ndF c d (r + 1) p f = ndF c d r (p + 1) (nS c d f p) ∧ ndB c d (r + 1) p f = (nO c d f p && ndB c d r (p + 1) (nS c d f p))) := hid ⟨rfl, rfl⟩
      rw [HND.out.1, HND.out.2]
      rw [hph] at c2
      clear y1 y2 hy hph HF
      generalize f p = X at q1 hfp hfp0 HXP
      generalize nS c d f p = G at HXP HQ ⊢
      generalize nO c d f p = B at HXP HQ ⊢
      have d0 : decide (0 < X) = true := decide_eq_true hfp0
      cases B
      · simp only [Bool.false_and]
        go_enter Try.func100, Try.ntmps100
        go_wp2_with (go_at_call 101; refine (HXP.out _ HST.out.1 (HS.out.on HST.out.2)).mono ?_; rintro e w2 ⟨rfl, b2, g2⟩; have HB2 : Hid (Bt LB w w2) := hid (HST.out.2.trans b2); clear b2 g2)
        go_returns
        exact ⟨rfl, HB2.out, fun h => by cases h⟩
      · simp only [Bool.true_and]
        obtain ⟨RB, hRB⟩ : ∃ b, ndB c d r (p + 1) G = b := ⟨_, rfl⟩
        obtain ⟨RF, hRF⟩ : ∃ b, ndF c d r (p + 1) G = b := ⟨_, rfl⟩
        replace IH := hid (IH.out G)
        rw [hRB, hRF] at IH
        rw [hRB, hRF]
        clear hRB hRF
        go_enter Try.func100, Try.ntmps100
        go_wp2_with (first
          | (go_at_call 101; refine (HXP.out _ HST.out.1 (HS.out.on HST.out.2)).mono ?_; rintro e w2 ⟨rfl, b2, g2⟩; have HB2 : Hid (Bt LB w w2 ∧ MG (some ⟨kb, off, none⟩) n ic d mb LB G w2) := hid ⟨HST.out.2.trans b2, g2 rfl⟩; have j2 := (HE.out.bt HB2.out.1 hp hv).2; clear b2 g2)
          | (go_at_call 100; refine (IH.out _ HB2.out.2 (HS.out.on HB2.out.1) (HQ.out (by trivial)) (HE.out.bt HB2.out.1 hp hv)).mono ?_; rintro e w3 ⟨rfl, b3, g3⟩; have HB3 : Hid (Bt LB w w3 ∧ (RB = true → MG (some ⟨kb, off, none⟩) n ic d mb LB RF w3)) := hid ⟨HB2.out.1.trans b3, g3⟩; clear b3 g3))
        go_returns
        exact ⟨rfl, HB3.out⟩
    · obtain ⟨y1, y2⟩ := nS_no (c := c) (d := d) hy
      have HND : Hid (ndF c d (r + 1) p f = ndF c d r (p + 1) f ∧ ndB c d (r + 1) p f = ndB c d r (p + 1) f) := hid ⟨by show ndF c d r (p + 1) (nS c d f p) = _; rw [y1], by show (nO c d f p && ndB c d r (p + 1) (nS c d f p)) = _; rw [y1, y2]; rfl⟩
      rw [HND.out.1, HND.out.2]
      obtain ⟨RB, hRB⟩ : ∃ b, ndB c d r (p + 1) f = b := ⟨_, rfl⟩
      obtain ⟨RF, hRF⟩ : ∃ b, ndF c d r (p + 1) f = b := ⟨_, rfl⟩
      replace IH := hid (IH.out f w HM.out HS.out HF.out HE.out)
      rw [hRB, hRF] at IH
      rw [hRB, hRF]
      clear hRB hRF y1 y2 HND
      cases hph : (c p).pha
      · rw [hph] at c2
        clear hy hph
        generalize f p = X at q1 hfp
        go_enter Try.func100, Try.ntmps100
        go_wp2_with (go_at_call 100; refine IH.out.mono ?_; rintro e w3 ⟨rfl, b3, g3⟩; have HB3 : Hid (Bt LB w w3 ∧ (RB = true → MG (some ⟨kb, off, none⟩) n ic d mb LB RF w3)) := hid ⟨b3, g3⟩; clear b3 g3)
        go_returns
        exact ⟨rfl, HB3.out⟩
      · rw [hph] at c2
        have hx : ¬ 0 < f p := fun q => hy ⟨hph, q⟩
        clear hy hph
        generalize f p = X at q1 hfp hx
        have d0 : decide (0 < X) = false := decide_eq_false hx
        go_enter Try.func100, Try.ntmps100
        go_wp2_with (go_at_call 100; refine IH.out.mono ?_; rintro e w3 ⟨rfl, b3, g3⟩; have HB3 : Hid (Bt LB w w3 ∧ (RB = true → MG (some ⟨kb, off, none⟩) n ic d mb LB RF w3)) := hid ⟨b3, g3⟩; clear b3 g3)
        go_returns
        exact ⟨rfl, HB3.out⟩

set_option maxRecDepth 20000 in
set_option maxHeartbeats 4000000 in
theorem need_any (ia : Option Addr) (n ic : Nat) (c : Nat → IT) (d : Int) (mb LB : Nat) (f : Nat → Int) (i : Nat) (q : Int) (w : World) (hI : isB n c = true) (hM : MG ia n ic d mb LB f w) (hS : ItS LB w ia n c) (hf : FQ f) (hi : i < n) (q0 : 0 ≤ q) (q1 : q ≤ 1000000) :
    Calls Try.prog 51 #[.pointer (some ⟨mb, 0, none⟩), .int .i64 (i : Int), .int .i64 q] w (ApP2 ia n ic d mb LB (ndF c d (n - (i + 1)) (i + 1) (xpF c d f i q)) (xpB c d f i q && ndB c d (n - (i + 1)) (i + 1) (xpF c d f i q)) w) := by
  unfold ApP2
  have hn60 : (n : Int) ≤ 60 := by have := (isB_p hI).1; omega
  have hLB : LB < w.heap.size := hM.q.lt
  have hsf : ∀ (a : Addr) (fn : Fn) (x y : Array Value) (W : World), (store a (.func fn x y)).run Try.prog W = stored Try.prog W a (.func fn x y) .plain := fun a fn x y W => run_store _ _ _ _ _ rfl
  have HXQ : Hid (xpB c d f i q = true → FQ (xpF c d f i q)) := hid (fun h => xpF_q (n := 0) hf h)
  have HXP : Hid (∀ W, Below w.heap.size w W → Calls Try.prog 101 #[.pointer (some ⟨mb, 0, none⟩), .int .i64 (i : Int), .int .i64 q] W (ApP2 ia n ic d mb LB (xpF c d f i q) (xpB c d f i q) W)) := hid (fun W b => expand_any ia n ic c d mb LB f i q W hI (hM.below b) (hS.on (Bt.of b (by omega))) hf hi q0 q1)
  have HPB : Hid (∀ W, Bt LB w W → FQ (xpF c d f i q) → MG ia n ic d mb LB (xpF c d f i q) W → EN W w.heap.size (w.heap.size + 1) mb → Calls Try.prog 100 #[.int .i64 ((i + 1 : Nat) : Int), .pointer (some ⟨w.heap.size, 0, none⟩), .pointer (some ⟨w.heap.size + 1, 0, none⟩)] W (ApP2 ia n ic d mb LB (ndF c d (n - (i + 1)) (i + 1) (xpF c d f i q)) (ndB c d (n - (i + 1)) (i + 1) (xpF c d f i q)) W)) := hid (fun W b k a e => passBy_any ia n ic c d mb LB _ _ hI (by omega) (by omega) (n - (i + 1)) (i + 1) _ W (by omega) a (hS.on b) k e)
  have hmk : IntKind.i64.wrap ((i : Int) + 1) = ((i + 1 : Nat) : Int) := by rw [IntWalk.i64_in _ ⟨by omega, by omega⟩]; omega
  have HW : Hid (EN ((w.alloc (.cells #[.pointer (some ⟨mb, 0, none⟩)] 69 (0, 0))).alloc (.cells #[.func (.func 100) #[] #[.pointer (some ⟨w.heap.size, 0, none⟩), .pointer (some ⟨w.heap.size + 1, 0, none⟩)]] 82 (0, 0))) w.heap.size (w.heap.size + 1) mb ∧ Below w.heap.size w ((w.alloc (.cells #[.pointer (some ⟨mb, 0, none⟩)] 69 (0, 0))).alloc (.cells #[.func (.func 100) #[] #[.pointer (some ⟨w.heap.size, 0, none⟩), .pointer (some ⟨w.heap.size + 1, 0, none⟩)]] 82 (0, 0)))) := by
    have C1 : CB (w.alloc (.cells #[.pointer (some ⟨mb, 0, none⟩)] 69 (0, 0))) w.heap.size #[.pointer (some ⟨mb, 0, none⟩)] 69 := CB.new _ _
    have C2 : CB ((w.alloc (.cells #[.pointer (some ⟨mb, 0, none⟩)] 69 (0, 0))).alloc (.cells #[.func (.func 100) #[] #[.pointer (some ⟨w.heap.size, 0, none⟩), .pointer (some ⟨w.heap.size + 1, 0, none⟩)]] 82 (0, 0))) (w.heap.size + 1) #[.func (.func 100) #[] #[.pointer (some ⟨w.heap.size, 0, none⟩), .pointer (some ⟨w.heap.size + 1, 0, none⟩)]] 82 := CB.newAt (by simp) _ _
    exact hid ⟨⟨((C1.alloc _).cell 0).trans rfl, (C2.cell 0).trans rfl⟩, ((Below.refl _ _).alloc (Nat.le_refl _) _).alloc (by simp) _⟩
  generalize ndF c d (n - (i + 1)) (i + 1) (xpF c d f i q) = RF at *
  generalize ndB c d (n - (i + 1)) (i + 1) (xpF c d f i q) = RB at *
  generalize xpF c d f i q = G at *
  generalize xpB c d f i q = B at *
  clear hM hS hf
  cases B
  · simp only [Bool.false_and]
    go_enter Try.func51, Try.ntmps51
    go_wp2_with (go_at_call 101; refine (HXP.out _ HW.out.2).mono ?_; rintro e w2 ⟨rfl, b2, g2⟩; have HB2 : Hid (Bt LB w w2) := hid ((Bt.of HW.out.2 (by omega)).trans b2); clear b2 g2)
    go_returns
    exact ⟨rfl, HB2.out, fun h => by cases h⟩
  · simp only [Bool.true_and]
    go_enter Try.func51, Try.ntmps51
    go_wp2_with (first
      | (go_at_call 101; refine (HXP.out _ HW.out.2).mono ?_; rintro e w2 ⟨rfl, b2, g2⟩; have HB2 : Hid (Bt LB w w2 ∧ MG ia n ic d mb LB G w2 ∧ EN w2 w.heap.size (w.heap.size + 1) mb) := hid ⟨(Bt.of HW.out.2 (by omega)).trans b2, g2 rfl, HW.out.1.bt b2 (by omega) (by omega)⟩; have j2 := HB2.out.2.2.2; clear b2 g2)
      | (go_at_call 100; refine (HPB.out _ HB2.out.1 (HXQ.out (by trivial)) HB2.out.2.1 HB2.out.2.2).mono ?_; rintro e w3 ⟨rfl, b3, g3⟩; have HB3 : Hid (Bt LB w w3 ∧ (RB = true → MG ia n ic d mb LB RF w3)) := hid ⟨HB2.out.1.trans b3, g3⟩; clear b3 g3))
    go_returns
    exact ⟨rfl, HB3.out⟩
end Go.Proofs.Ytmbdeafpfdeigaa
