/- The rules of all codes, told by the program: rulesFor. -/
import Derived.Test.YtbhghghkgojpgaaTg
namespace Go.Proofs.Ytbhghghkgojpgaa
open Go.ChangeShapes Go.WideShapes Go.ChangeAt Go.RowKit
set_option linter.unusedVariables false
set_option linter.unusedSimpArgs false

/-- The first k of m places hold these rules. -/
def C5 (cs : Array Value) (k : Nat) (u : Nat → T5) : Prop := ∀ j, j < k → cs[j * 5]? = some (.string (u j).code) ∧ cs[j * 5 + 1]? = some (.int .i64 (u j).fr) ∧ cs[j * 5 + 2]? = some (.int .i64 (u j).to) ∧ cs[j * 5 + 3]? = some (.int .i64 (u j).rate) ∧ cs[j * 5 + 4]? = some (.int .i64 (u j).kind)
theorem C5.step {cs : Array Value} {k m : Nat} {u : Nat → T5} (h : C5 cs k u) (hs : cs.size = m * 5) (hk : k < m) {q0 : ByteArray} {q1 q2 q3 q4 : Int} (e : u k = ⟨q0, q1, q2, q3, q4⟩) :
    C5 (((((cs.setIfInBounds (k * 5) (.string q0)).setIfInBounds (k * 5 + 1) (.int .i64 q1)).setIfInBounds (k * 5 + 2) (.int .i64 q2)).setIfInBounds (k * 5 + 3) (.int .i64 q3)).setIfInBounds (k * 5 + 4) (.int .i64 q4)) (k + 1) u := fun j hj => by
  by_cases hjk : j = k
  · subst hjk
    rw [e]
    refine ⟨?_, ?_, ?_, ?_, ?_⟩
    · rw [get_set_ne (by omega), get_set_ne (by omega), get_set_ne (by omega), get_set_ne (by omega), get_set_eq (by omega)]
    · rw [get_set_ne (by omega), get_set_ne (by omega), get_set_ne (by omega), get_set_eq (by simp; omega)]
    · rw [get_set_ne (by omega), get_set_ne (by omega), get_set_eq (by simp; omega)]
    · rw [get_set_ne (by omega), get_set_eq (by simp; omega)]
    · rw [get_set_eq (by simp; omega)]
  · obtain ⟨y0, y1, y2, y3, y4⟩ := h j (by omega)
    refine ⟨?_, ?_, ?_, ?_, ?_⟩ <;> (rw [get_set_ne (by omega), get_set_ne (by omega), get_set_ne (by omega), get_set_ne (by omega), get_set_ne (by omega)]; assumption)

/-- What rulesFor leaves. -/
def RfP (n : Nat) (c : Nat → T5) (m : Nat) (cs : Nat → ByteArray) (f : Nat) (fs : Nat → ByteArray) (d : Int) (w : World) (e : Ending) (w' : World) : Prop :=
  Below w.heap.size w w' ∧ ((UsP n c m cs d ∧ e = .returned (.tuple #[.slice (some ⟨w.heap.size, 0, none⟩) m m, .bool true]) ∧ TR w' (some ⟨w.heap.size, 0, none⟩) m (usR n c cs f fs d)) ∨ (¬ UsP n c m cs d ∧ e = .returned (.tuple #[.slice none 0 0, .bool false])))

set_option maxRecDepth 20000 in
set_option maxHeartbeats 8000000 in
theorem rulesFor_any (ad : Option Addr) (n cap : Nat) (c : Nat → T5) (ca : Option Addr) (m ccap : Nat) (cs : Nat → ByteArray) (fa : Option Addr) (f fcap : Nat) (fs : Nat → ByteArray) (d : Int) (w : World) (h : (n : Int) ≤ 1048576) (hm : (m : Int) ≤ 1048576) (hf : (f : Int) ≤ 1048576) (hcc : m ≤ ccap) (hr : TR w ad n c) (hc : STR w ca m cs) (hfr : STR w fa f fs) :
    Calls Try.prog 45 #[.slice ad n cap, .slice ca m ccap, .slice fa f fcap, .int .i64 d] w (RfP n c m cs f fs d w) := by
  have HR : Hid (TR w ad n c) := hr
  have HC : Hid (STR w ca m cs) := hc
  have HF : Hid (STR w fa f fs) := hfr
  have hmk := mkT5 m hm
  clear hr hc hfr
  go_enter Try.func45, Try.ntmps45
  go_wp2
  go_loopw [20] (fun i wr => ∃ (k : Nat) (ce : Array Value), k ≤ m ∧ i = .int .i64 (k : Int) ∧ Hid (CB wr w.heap.size ce 79 ∧ ce.size = m * 5 ∧ C5 ce k (usR n c cs f fs d) ∧ (∀ j, j < k → UsAt n c cs d j) ∧ Below w.heap.size w wr)) (fun i _ => m - (intOf i).toNat)
  case atStart => exact ⟨0, zerosT5 m, Nat.zero_le _, rfl, CB.new _ _, zerosT5_size _, fun j hj => by omega, fun j hj => by omega, (Below.refl _ _).alloc (Nat.le_refl _) _⟩
  case round =>
    obtain ⟨k, ce, hk, rfl, HH⟩ := hrel
    obtain ⟨wo, rfl⟩ : ∃ x, x = wr := ⟨wr, rfl⟩
    by_cases hlt : k < m
    · have hlt2 : (k : Int) < (m : Int) := by omega
      have hkc : (k : Int) ≤ (ccap : Int) := by omega
      have hk6 : (k : Int) ≤ 1048576 := by omega
      obtain ⟨kb, off, rfl, hkb⟩ := HC.out.addr (by omega)
      have c0 := (HC.out.below HH.out.2.2.2.2).cell hlt
      obtain ⟨s, hs⟩ : ∃ s, cs k = s := ⟨_, rfl⟩
      have HS : Hid (cs k = s) := hs
      rw [hs] at c0
      clear hs
      have HB : Hid (Below w.heap.size w wo) := HH.out.2.2.2.2
      rcases ixR_spec n c s d with ⟨hx, _⟩ | ⟨i, hx, hi, _, _⟩
      · have HX : Hid (ixR n c s d = -1) := hx
        have HN : Hid (¬ UsP n c m cs d) := hid (fun H => by have := (H k hlt).1; rw [HS.out, hx] at this; omega)
        clear hx
        go_wp2_with (go_at_call 79; refine (ruleOn_no s d _ _ _ c _ h (HR.out.below HB.out) HX.out).mono ?_; rintro e w1 ⟨rfl, b1⟩; have HB1 : Hid (Below w.heap.size w w1) := bel_on HB.out b1; clear b1; unfold zer5 T5.val)
        go_returns
        exact ⟨bel_on HB1.out (by go_grown), .inr ⟨HN.out, rfl⟩⟩
      · have HX : Hid (ixR n c s d = (i : Int)) := hx
        obtain ⟨r, hr⟩ : ∃ r, c i = r := ⟨_, rfl⟩
        have HK : Hid (c i = r) := hr
        obtain ⟨q0, q1, q2, q3, q4⟩ := r
        clear hr hx
        obtain ⟨hC, hsz, h5, hU, _⟩ := HH.out
        obtain ⟨v0, d0⟩ : ∃ v, ce[k * 5]? = some v := ⟨ce[k * 5]'(by omega), Array.getElem?_eq_getElem (by omega)⟩
        obtain ⟨v1, d1⟩ : ∃ v, ce[k * 5 + 1]? = some v := ⟨ce[k * 5 + 1]'(by omega), Array.getElem?_eq_getElem (by omega)⟩
        obtain ⟨v2, d2⟩ : ∃ v, ce[k * 5 + 2]? = some v := ⟨ce[k * 5 + 2]'(by omega), Array.getElem?_eq_getElem (by omega)⟩
        obtain ⟨v3, d3⟩ : ∃ v, ce[k * 5 + 3]? = some v := ⟨ce[k * 5 + 3]'(by omega), Array.getElem?_eq_getElem (by omega)⟩
        obtain ⟨v4, d4⟩ : ∃ v, ce[k * 5 + 4]? = some v := ⟨ce[k * 5 + 4]'(by omega), Array.getElem?_eq_getElem (by omega)⟩
        have HCB : Hid (CB wo w.heap.size ce 79) := hC
        clear hC hsz h5 hU
        cases hd : hasS k cs s
        · cases hfree : hasS f fs s
          · have HFR : Hid (hasS f fs s = false) := hfree
            have HD : Hid (hasS k cs s = false) := hd
            have HU : Hid (usR n c cs f fs d k = ⟨q0, q1, q2, q3, q4⟩) := hid (by unfold usR; simp only; rw [HS.out, HX.out, Int.toNat_natCast, HK.out, hfree]; rfl)
            have HAT : Hid (∀ j, j < k + 1 → UsAt n c cs d j) := hid (fun j hj => by
              by_cases e : j = k
              · subst e; exact ⟨by rw [HS.out, HX.out]; omega, by rw [HS.out]; exact hd⟩
              · exact HH.out.2.2.2.1 j (by omega))
            clear hd hfree
            go_wp2_with (first | (go_at_call 79; refine (ruleOn_yes s d _ _ _ i c _ h (HR.out.below HB.out) HX.out hi).mono ?_; rintro e w1 ⟨rfl, b1⟩; rw [HK.out]; unfold T5.val; have X1 : CB w1 w.heap.size ce 79 := HCB.out.below b1 HCB.out.lt; have hlw : w.heap.size < w1.heap.size := X1.lt; have y0 := (X1.cell (k * 5)).trans d0; have f0 := X1.fr (k * 5); have y1 := (X1.cell (k * 5 + 1)).trans d1; have f1 := X1.fr (k * 5 + 1); have y2 := (X1.cell (k * 5 + 2)).trans d2; have f2 := X1.fr (k * 5 + 2); have y3 := (X1.cell (k * 5 + 3)).trans d3; have f3 := X1.fr (k * 5 + 3); have y4 := (X1.cell (k * 5 + 4)).trans d4; have f4 := X1.fr (k * 5 + 4); have HX1 : Hid (CB w1 w.heap.size ce 79) := X1; have HB1 : Hid (Below w.heap.size w w1) := bel_on HB.out b1; clear b1 X1) | (go_at_call 80; refine (containsS_eq _ _ _ cs s _ _ hk6 ((HC.out.mono hk).below (bel_on HB1.out (by go_grown))) HD.out).mono ?_; rintro e w2 ⟨rfl, rfl⟩; clear HD) | (go_at_call 80; refine (containsS_eq _ _ _ fs s _ _ hf (HF.out.below (bel_on HB1.out (by go_grown))) HFR.out).mono ?_; rintro e w2 ⟨rfl, rfl⟩))
            go_roundw
            case rel =>
              exact ⟨k + 1, _, by omega, by go_num, hid ⟨((((((HX1.out.set _ _).set _ _).set _ _).set _ _).set _ _).alloc _), by simp [HH.out.2.1], HH.out.2.2.1.step HH.out.2.1 hlt HU.out, HAT.out, ((((((HB1.out.setCell (by simp) _).setCell (by simp) _).setCell (by simp) _).setCell (by simp) _).setCell (by simp) _).alloc (by simp; omega) _)⟩⟩
            case measure => simp [intOf]; omega
          · have HFR : Hid (hasS f fs s = true) := hfree
            have HD : Hid (hasS k cs s = false) := hd
            have HU : Hid (usR n c cs f fs d k = ⟨q0, q1, q2, 0, q4⟩) := hid (by unfold usR; simp only; rw [HS.out, HX.out, Int.toNat_natCast, HK.out, hfree]; rfl)
            have HAT : Hid (∀ j, j < k + 1 → UsAt n c cs d j) := hid (fun j hj => by
              by_cases e : j = k
              · subst e; exact ⟨by rw [HS.out, HX.out]; omega, by rw [HS.out]; exact hd⟩
              · exact HH.out.2.2.2.1 j (by omega))
            clear hd hfree
            go_wp2_with (first | (go_at_call 79; refine (ruleOn_yes s d _ _ _ i c _ h (HR.out.below HB.out) HX.out hi).mono ?_; rintro e w1 ⟨rfl, b1⟩; rw [HK.out]; unfold T5.val; have X1 : CB w1 w.heap.size ce 79 := HCB.out.below b1 HCB.out.lt; have hlw : w.heap.size < w1.heap.size := X1.lt; have y0 := (X1.cell (k * 5)).trans d0; have f0 := X1.fr (k * 5); have y1 := (X1.cell (k * 5 + 1)).trans d1; have f1 := X1.fr (k * 5 + 1); have y2 := (X1.cell (k * 5 + 2)).trans d2; have f2 := X1.fr (k * 5 + 2); have y3 := (X1.cell (k * 5 + 3)).trans d3; have f3 := X1.fr (k * 5 + 3); have y4 := (X1.cell (k * 5 + 4)).trans d4; have f4 := X1.fr (k * 5 + 4); have HX1 : Hid (CB w1 w.heap.size ce 79) := X1; have HB1 : Hid (Below w.heap.size w w1) := bel_on HB.out b1; clear b1 X1) | (go_at_call 80; refine (containsS_eq _ _ _ cs s _ _ hk6 ((HC.out.mono hk).below (bel_on HB1.out (by go_grown))) HD.out).mono ?_; rintro e w2 ⟨rfl, rfl⟩; clear HD) | (go_at_call 80; refine (containsS_eq _ _ _ fs s _ _ hf (HF.out.below (bel_on HB1.out (by go_grown))) HFR.out).mono ?_; rintro e w2 ⟨rfl, rfl⟩))
            go_roundw
            case rel =>
              exact ⟨k + 1, _, by omega, by go_num, hid ⟨((((((HX1.out.set _ _).set _ _).set _ _).set _ _).set _ _).alloc _), by simp [HH.out.2.1], HH.out.2.2.1.step HH.out.2.1 hlt HU.out, HAT.out, ((((((HB1.out.setCell (by simp) _).setCell (by simp) _).setCell (by simp) _).setCell (by simp) _).setCell (by simp) _).alloc (by simp; omega) _)⟩⟩
            case measure => simp [intOf]; omega
        · have HN : Hid (¬ UsP n c m cs d) := hid (fun H => by have := (H k hlt).2; rw [HS.out, hd] at this; cases this)
          have HD : Hid (hasS k cs s = true) := hd
          clear hd
          go_wp2_with (first | (go_at_call 79; refine (ruleOn_yes s d _ _ _ i c _ h (HR.out.below HB.out) HX.out hi).mono ?_; rintro e w1 ⟨rfl, b1⟩; rw [HK.out]; unfold T5.val; have X1 : CB w1 w.heap.size ce 79 := HCB.out.below b1 HCB.out.lt; have hlw : w.heap.size < w1.heap.size := X1.lt; have y0 := (X1.cell (k * 5)).trans d0; have f0 := X1.fr (k * 5); have y1 := (X1.cell (k * 5 + 1)).trans d1; have f1 := X1.fr (k * 5 + 1); have y2 := (X1.cell (k * 5 + 2)).trans d2; have f2 := X1.fr (k * 5 + 2); have y3 := (X1.cell (k * 5 + 3)).trans d3; have f3 := X1.fr (k * 5 + 3); have y4 := (X1.cell (k * 5 + 4)).trans d4; have f4 := X1.fr (k * 5 + 4); have HX1 : Hid (CB w1 w.heap.size ce 79) := X1; have HB1 : Hid (Below w.heap.size w w1) := bel_on HB.out b1; clear b1 X1) | (go_at_call 80; refine (containsS_eq _ _ _ cs s _ _ hk6 ((HC.out.mono hk).below (bel_on HB1.out (by go_grown))) HD.out).mono ?_; rintro e w2 ⟨rfl, rfl⟩; clear HD))
          go_returns
          exact ⟨bel_on HB1.out (by go_grown), .inr ⟨HN.out, rfl⟩⟩
    · obtain rfl : k = m := by omega
      have lkk : ¬ (k : Int) < (k : Int) := by omega
      obtain ⟨hC, hsz, h5, hU, hB⟩ := HH.out
      have HT : Hid (TR wo (some ⟨w.heap.size, 0, none⟩) k (usR n c cs f fs d)) := TR.of_block hC k _ h5
      have HUU : Hid (∀ j, j < k → UsAt n c cs d j) := hU
      have HB : Hid (Below w.heap.size w wo) := hB
      clear hC hsz h5 hU hB
      go_wp2
      go_returns
      exact ⟨HB.out, .inl ⟨HUU.out, rfl, HT.out⟩⟩
end Go.Proofs.Ytbhghghkgojpgaa
