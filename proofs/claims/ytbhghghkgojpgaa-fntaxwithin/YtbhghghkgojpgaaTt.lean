/- TaxOf of the program. -/
import Derived.Test.YtbhghghkgojpgaaTl
import Derived.Test.YtbhghghkgojpgaaTo
namespace Go.Proofs.Ytbhghghkgojpgaa
open Go Go.ChangeShapes Go.WideShapes Go.ChangeAt Go.RowKit
set_option linter.unusedVariables false
set_option linter.unusedSimpArgs false

def TaxI (n : Nat) (c : Nat → T5) (m : Nat) (cs : Nat → ByteArray) (f : Nat) (fs : Nat → ByteArray) (p d : Int) (w : World) (e : Ending) (w' : World) : Prop :=
  Below w.heap.size w w' ∧ ((TaxP n c m cs f fs p d ∧ ∃ pb ce, e = .returned (.tuple #[.agg #[.int .i64 (netV (usR n c cs f fs d) m p), .int .i64 (grV (usR n c cs f fs d) (netV (usR n c cs f fs d) m p) (wiV (usR n c cs f fs d) m p) m), .slice (some ⟨pb, 0, none⟩) m m], .bool true]) ∧ w.heap.size ≤ pb ∧ CB w' pb ce 34 ∧ ce.size = m * 4 ∧ C4 ce m (ptV (usR n c cs f fs d) (netV (usR n c cs f fs d) m p) (wiV (usR n c cs f fs d) m p))) ∨ (¬ TaxP n c m cs f fs p d ∧ e = .returned (.tuple #[.agg #[.int .i64 0, .int .i64 0, .slice none 0 0], .bool false])))

set_option maxRecDepth 20000 in
set_option maxHeartbeats 4000000 in
theorem billOf_no (ad : Option Addr) (m cap : Nat) (u : Nat → T5) (p : Int) (w : World) (hm : m ≤ 6) (hU : UOk u m) (hp64 : -9223372036854775808 ≤ p ∧ p ≤ 9223372036854775807) (hr : TR w ad m u) (hp : amt p = false) :
    Calls Try.prog 46 #[.slice ad m cap, .int .i64 p] w fun e w' => e = .returned (.tuple #[.agg #[.int .i64 0, .int .i64 0, .slice none 0 0], .bool false]) ∧ Below w.heap.size w w' := by
  have HR : Hid (TR w ad m u) := hr
  have HU : Hid (UOk u m) := hU
  have HP : Hid (amt p = false) := hp
  have HW0 : Hid (Below w.heap.size w (w.alloc (.cells #[.int .i64 0, .int .i64 0, .slice none 0 0] 30 (0, 0)))) := (Below.refl _ _).alloc (Nat.le_refl _) _
  clear hr hU hp
  go_enter Try.func46, Try.ntmps46
  go_wp2_with (go_at_call 81; refine (takeOut_any _ _ _ u p _ hm HU.out hp64 (HR.out.below (by go_grown))).mono ?_; rintro e w1 ⟨b1, ia, il, ic, rfl, hi⟩; rw [HP.out]; clear hi; have hR : CB w1 w.heap.size #[.int .i64 0, .int .i64 0, .slice none 0 0] 30 := (CB.new _ _).below b1 (by simp); have r0 := (hR.cell 0).trans rfl; have rf0 := hR.fr 0; have r1 := (hR.cell 1).trans rfl; have rf1 := hR.fr 1; have r2 := (hR.cell 2).trans rfl; have rf2 := hR.fr 2; have HCR : Hid (CB w1 w.heap.size #[.int .i64 0, .int .i64 0, .slice none 0 0] 30) := hR; have HBW : Hid (Below w.heap.size w w1) := bel_on HW0.out b1; clear hR b1)
  have hX := ((HCR.out.set 0 (.int .i64 0)).set 1 (.int .i64 0)).set 2 (.slice none 0 0)
  have hZ := ((HBW.out.setCell (p := ⟨w.heap.size, 0, none⟩) (by simp) (.int .i64 0)).setCell (p := ⟨w.heap.size, 1, none⟩) (by simp) (.int .i64 0)).setCell (p := ⟨w.heap.size, 2, none⟩) (by simp) (.slice none 0 0)
  have e0 := hX.cell 0
  have e1 := hX.cell 1
  have e2 := hX.cell 2
  simp at e0 e1 e2
  clear hX r0 r1 r2 rf0 rf1 rf2
  generalize (World.setCell _ _ _) = W5 at e0 e1 e2 hZ ⊢
  refine bodyPost_ret (by simp [results, Try.results46, go_sem, e0, e1, e2]; try rfl) rfl ?_
  exact ⟨rfl, hZ⟩
theorem implRules_eq {v : Bool} (ad : Option Addr) (len cap : Nat) (c : Nat → T5) (w : World) (h : (len : Int) ≤ 1048576) (hcap : len ≤ cap) (hs : ∀ j, (c j).code.size ≤ maxLen) (hr : TR w ad len c) (hv : trB len c = v) :
    Calls Try.prog 19 #[.slice ad len cap] w fun e w' => e = .returned (.bool v) ∧ Below w.heap.size w w' := by
  subst hv; exact implRules_any ad len cap c w h hcap hs hr

set_option maxRecDepth 20000 in
set_option maxHeartbeats 8000000 in
theorem implTax_any (ad : Option Addr) (n cap : Nat) (c : Nat → T5) (ca : Option Addr) (m ccap : Nat) (cs : Nat → ByteArray) (fa : Option Addr) (f fcap : Nat) (fs : Nat → ByteArray) (p d : Int) (w : World) (hn : (n : Int) ≤ 1048576) (hm : (m : Int) ≤ 1048576) (hf : (f : Int) ≤ 1048576) (hs : ∀ j, (c j).code.size ≤ maxLen) (hnc : n ≤ cap) (hcc : m ≤ ccap) (hp64 : -9223372036854775808 ≤ p ∧ p ≤ 9223372036854775807) (hr : TR w ad n c) (hc : STR w ca m cs) (hfr : STR w fa f fs) :
    Calls Try.prog 10 #[.slice ad n cap, .slice ca m ccap, .slice fa f fcap, .int .i64 p, .int .i64 d] w (TaxI n c m cs f fs p d w) := by
  have HR : Hid (TR w ad n c) := hr
  have HC : Hid (STR w ca m cs) := hc
  have HF : Hid (STR w fa f fs) := hfr
  have HS : Hid (∀ j, (c j).code.size ≤ maxLen) := hs
  clear hr hc hfr hs
  have HW0 : Hid (Below w.heap.size w (w.alloc (.cells #[.int .i64 0, .int .i64 0, .slice none 0 0] 30 (0, 0)))) := (Below.refl _ _).alloc (Nat.le_refl _) _
  cases ht : trB n c
  case false =>
    have HNP : Hid (¬ TaxP n c m cs f fs p d) := hid (fun H => by rw [trB_t H.1] at ht; cases ht)
    have HT : Hid (trB n c = false) := ht
    clear ht
    go_enter Try.func10, Try.ntmps10
    go_wp2_with (go_at_call 19; refine (implRules_eq _ _ _ c _ hn hnc HS.out (HR.out.below HW0.out) HT.out).mono ?_; rintro e w1 ⟨rfl, b1⟩; have hR : CB w1 w.heap.size #[.int .i64 0, .int .i64 0, .slice none 0 0] 30 := (CB.new _ _).below b1 (by simp); have r0 := (hR.cell 0).trans rfl; have rf0 := hR.fr 0; have r1 := (hR.cell 1).trans rfl; have rf1 := hR.fr 1; have r2 := (hR.cell 2).trans rfl; have rf2 := hR.fr 2; have HCR : Hid (CB w1 w.heap.size #[.int .i64 0, .int .i64 0, .slice none 0 0] 30) := hR; have HBW : Hid (Below w.heap.size w w1) := bel_on HW0.out b1; clear hR b1)
    have hX := ((HCR.out.set 0 (.int .i64 0)).set 1 (.int .i64 0)).set 2 (.slice none 0 0)
    have hZ := ((HBW.out.setCell (p := ⟨w.heap.size, 0, none⟩) (by simp) (.int .i64 0)).setCell (p := ⟨w.heap.size, 1, none⟩) (by simp) (.int .i64 0)).setCell (p := ⟨w.heap.size, 2, none⟩) (by simp) (.slice none 0 0)
    have e0 := hX.cell 0
    have e1 := hX.cell 1
    have e2 := hX.cell 2
    simp at e0 e1 e2
    clear hX r0 r1 r2 rf0 rf1 rf2
    generalize (World.setCell _ _ _) = W5 at e0 e1 e2 hZ ⊢
    refine bodyPost_ret (by simp [results, Try.results10, go_sem, e0, e1, e2]; try rfl) rfl ?_
    exact ⟨hZ, .inr ⟨HNP.out, rfl⟩⟩
  have HTP : Hid (TrP n c) := trB_iff ht
  have HT : Hid (trB n c = true) := ht
  clear ht
  by_cases hm6 : (6 : Int) < (m : Int)
  · have HNP : Hid (¬ TaxP n c m cs f fs p d) := hid (fun H => by have := H.2.1; omega)
    go_enter Try.func10, Try.ntmps10
    go_wp2_with (go_at_call 19; refine (implRules_eq _ _ _ c _ hn hnc HS.out (HR.out.below HW0.out) HT.out).mono ?_; rintro e w1 ⟨rfl, b1⟩; have hR : CB w1 w.heap.size #[.int .i64 0, .int .i64 0, .slice none 0 0] 30 := (CB.new _ _).below b1 (by simp); have r0 := (hR.cell 0).trans rfl; have rf0 := hR.fr 0; have r1 := (hR.cell 1).trans rfl; have rf1 := hR.fr 1; have r2 := (hR.cell 2).trans rfl; have rf2 := hR.fr 2; have HCR : Hid (CB w1 w.heap.size #[.int .i64 0, .int .i64 0, .slice none 0 0] 30) := hR; have HBW : Hid (Below w.heap.size w w1) := bel_on HW0.out b1; clear hR b1)
    have hX := ((HCR.out.set 0 (.int .i64 0)).set 1 (.int .i64 0)).set 2 (.slice none 0 0)
    have hZ := ((HBW.out.setCell (p := ⟨w.heap.size, 0, none⟩) (by simp) (.int .i64 0)).setCell (p := ⟨w.heap.size, 1, none⟩) (by simp) (.int .i64 0)).setCell (p := ⟨w.heap.size, 2, none⟩) (by simp) (.slice none 0 0)
    have e0 := hX.cell 0
    have e1 := hX.cell 1
    have e2 := hX.cell 2
    simp at e0 e1 e2
    clear hX r0 r1 r2 rf0 rf1 rf2
    generalize (World.setCell _ _ _) = W5 at e0 e1 e2 hZ ⊢
    refine bodyPost_ret (by simp [results, Try.results10, go_sem, e0, e1, e2]; try rfl) rfl ?_
    exact ⟨hZ, .inr ⟨HNP.out, rfl⟩⟩
  have hm7 : (m : Int) ≤ 6 := by omega
  clear hm6
  by_cases hf6 : (60 : Int) < (f : Int)
  · have HNP : Hid (¬ TaxP n c m cs f fs p d) := hid (fun H => by have := H.2.2.1; omega)
    go_enter Try.func10, Try.ntmps10
    go_wp2_with (go_at_call 19; refine (implRules_eq _ _ _ c _ hn hnc HS.out (HR.out.below HW0.out) HT.out).mono ?_; rintro e w1 ⟨rfl, b1⟩; have hR : CB w1 w.heap.size #[.int .i64 0, .int .i64 0, .slice none 0 0] 30 := (CB.new _ _).below b1 (by simp); have r0 := (hR.cell 0).trans rfl; have rf0 := hR.fr 0; have r1 := (hR.cell 1).trans rfl; have rf1 := hR.fr 1; have r2 := (hR.cell 2).trans rfl; have rf2 := hR.fr 2; have HCR : Hid (CB w1 w.heap.size #[.int .i64 0, .int .i64 0, .slice none 0 0] 30) := hR; have HBW : Hid (Below w.heap.size w w1) := bel_on HW0.out b1; clear hR b1)
    have hX := ((HCR.out.set 0 (.int .i64 0)).set 1 (.int .i64 0)).set 2 (.slice none 0 0)
    have hZ := ((HBW.out.setCell (p := ⟨w.heap.size, 0, none⟩) (by simp) (.int .i64 0)).setCell (p := ⟨w.heap.size, 1, none⟩) (by simp) (.int .i64 0)).setCell (p := ⟨w.heap.size, 2, none⟩) (by simp) (.slice none 0 0)
    have e0 := hX.cell 0
    have e1 := hX.cell 1
    have e2 := hX.cell 2
    simp at e0 e1 e2
    clear hX r0 r1 r2 rf0 rf1 rf2
    generalize (World.setCell _ _ _) = W5 at e0 e1 e2 hZ ⊢
    refine bodyPost_ret (by simp [results, Try.results10, go_sem, e0, e1, e2]; try rfl) rfl ?_
    exact ⟨hZ, .inr ⟨HNP.out, rfl⟩⟩
  have hf7 : (f : Int) ≤ 60 := by omega
  clear hf6
  by_cases hU : UsP n c m cs d
  case neg =>
    have HNP : Hid (¬ TaxP n c m cs f fs p d) := hid (fun H => hU H.2.2.2.2.1)
    go_enter Try.func10, Try.ntmps10
    go_wp2_with (first | (go_at_call 19; refine (implRules_eq _ _ _ c _ hn hnc HS.out (HR.out.below HW0.out) HT.out).mono ?_; rintro e w1 ⟨rfl, b1⟩; have hR : CB w1 w.heap.size #[.int .i64 0, .int .i64 0, .slice none 0 0] 30 := (CB.new _ _).below b1 (by simp); have r0 := (hR.cell 0).trans rfl; have rf0 := hR.fr 0; have r1 := (hR.cell 1).trans rfl; have rf1 := hR.fr 1; have r2 := (hR.cell 2).trans rfl; have rf2 := hR.fr 2; have HCR : Hid (CB w1 w.heap.size #[.int .i64 0, .int .i64 0, .slice none 0 0] 30) := hR; have HBW : Hid (Below w.heap.size w w1) := bel_on HW0.out b1; clear hR b1) | (go_at_call 45; refine (rulesFor_any _ _ _ c _ _ _ cs _ _ _ fs d _ hn hm hf hcc (HR.out.below HBW.out) (HC.out.below HBW.out) (HF.out.below HBW.out)).mono ?_; rintro e w2 ⟨b2, hres⟩; obtain ⟨_, rfl⟩ : ¬ UsP n c m cs d ∧ e = .returned (.tuple #[.slice none 0 0, .bool false]) := (by rcases hres with ⟨h, _⟩ | h; exact absurd h hU; exact h); clear hres; have hR2 := HCR.out.below b2 HCR.out.lt; have HB0 : Hid (Below w.heap.size w w2) := bel_on HBW.out b2; clear HCR HBW r0 r1 r2 rf0 rf1 rf2; have hR : CB w2 w.heap.size #[.int .i64 0, .int .i64 0, .slice none 0 0] 30 := hR2; have r0 := (hR.cell 0).trans rfl; have rf0 := hR.fr 0; have r1 := (hR.cell 1).trans rfl; have rf1 := hR.fr 1; have r2 := (hR.cell 2).trans rfl; have rf2 := hR.fr 2; have HCR : Hid (CB w2 w.heap.size #[.int .i64 0, .int .i64 0, .slice none 0 0] 30) := hR; have HBW : Hid (Below w.heap.size w w2) := HB0; clear hR hR2 HB0 b2))
    have hX := ((HCR.out.set 0 (.int .i64 0)).set 1 (.int .i64 0)).set 2 (.slice none 0 0)
    have hZ := ((HBW.out.setCell (p := ⟨w.heap.size, 0, none⟩) (by simp) (.int .i64 0)).setCell (p := ⟨w.heap.size, 1, none⟩) (by simp) (.int .i64 0)).setCell (p := ⟨w.heap.size, 2, none⟩) (by simp) (.slice none 0 0)
    have e0 := hX.cell 0
    have e1 := hX.cell 1
    have e2 := hX.cell 2
    simp at e0 e1 e2
    clear hX r0 r1 r2 rf0 rf1 rf2
    generalize (World.setCell _ _ _) = W5 at e0 e1 e2 hZ ⊢
    refine bodyPost_ret (by simp [results, Try.results10, go_sem, e0, e1, e2]; try rfl) rfl ?_
    exact ⟨hZ, .inr ⟨HNP.out, rfl⟩⟩
  have HU : Hid (UsP n c m cs d) := hU
  have HUO : Hid (UOk (usR n c cs f fs d) m) := u_ok HTP.out hU
  clear hU
  cases ha : amt p
  case false =>
    have HNP : Hid (¬ TaxP n c m cs f fs p d) := hid (fun H => by have := H.2.2.2.1; rw [ha] at this; cases this)
    go_enter Try.func10, Try.ntmps10
    go_wp2_with (first | (go_at_call 19; refine (implRules_eq _ _ _ c _ hn hnc HS.out (HR.out.below HW0.out) HT.out).mono ?_; rintro e w1 ⟨rfl, b1⟩; have hR : CB w1 w.heap.size #[.int .i64 0, .int .i64 0, .slice none 0 0] 30 := (CB.new _ _).below b1 (by simp); have r0 := (hR.cell 0).trans rfl; have rf0 := hR.fr 0; have r1 := (hR.cell 1).trans rfl; have rf1 := hR.fr 1; have r2 := (hR.cell 2).trans rfl; have rf2 := hR.fr 2; have HCR : Hid (CB w1 w.heap.size #[.int .i64 0, .int .i64 0, .slice none 0 0] 30) := hR; have HBW : Hid (Below w.heap.size w w1) := bel_on HW0.out b1; clear hR b1) | (go_at_call 45; refine (rulesFor_any _ _ _ c _ _ _ cs _ _ _ fs d _ hn hm hf hcc (HR.out.below HBW.out) (HC.out.below HBW.out) (HF.out.below HBW.out)).mono ?_; rintro e w2 ⟨b2, hres⟩; obtain ⟨_, rfl, hTR⟩ : UsP n c m cs d ∧ e = .returned (.tuple #[.slice (some ⟨w1.heap.size, 0, none⟩) m m, .bool true]) ∧ TR w2 (some ⟨w1.heap.size, 0, none⟩) m (usR n c cs f fs d) := (by rcases hres with h | ⟨h, _⟩; exact h; exact absurd HU.out h); clear hres; have HTR : Hid (TR w2 (some ⟨w1.heap.size, 0, none⟩) m (usR n c cs f fs d)) := hTR; clear hTR; have hR2 := HCR.out.below b2 HCR.out.lt; have HB0 : Hid (Below w.heap.size w w2) := bel_on HBW.out b2; clear HCR HBW r0 r1 r2 rf0 rf1 rf2; have hR : CB w2 w.heap.size #[.int .i64 0, .int .i64 0, .slice none 0 0] 30 := hR2; have r0 := (hR.cell 0).trans rfl; have rf0 := hR.fr 0; have r1 := (hR.cell 1).trans rfl; have rf1 := hR.fr 1; have r2 := (hR.cell 2).trans rfl; have rf2 := hR.fr 2; have HCR : Hid (CB w2 w.heap.size #[.int .i64 0, .int .i64 0, .slice none 0 0] 30) := hR; have HBW : Hid (Below w.heap.size w w2) := HB0; clear hR hR2 HB0 b2) | (go_at_call 46; refine (billOf_no _ _ _ (usR n c cs f fs d) p _ (by omega) HUO.out hp64 HTR.out ha).mono ?_; rintro e w3 ⟨rfl, b3⟩; have hR2 := HCR.out.below b3 HCR.out.lt; have HB0 : Hid (Below w.heap.size w w3) := bel_on HBW.out b3; clear HCR HBW r0 r1 r2 rf0 rf1 rf2; have hR : CB w3 w.heap.size #[.int .i64 0, .int .i64 0, .slice none 0 0] 30 := hR2; have r0 := (hR.cell 0).trans rfl; have rf0 := hR.fr 0; have r1 := (hR.cell 1).trans rfl; have rf1 := hR.fr 1; have r2 := (hR.cell 2).trans rfl; have rf2 := hR.fr 2; have HCR : Hid (CB w3 w.heap.size #[.int .i64 0, .int .i64 0, .slice none 0 0] 30) := hR; have HBW : Hid (Below w.heap.size w w3) := HB0; clear hR hR2 HB0 b3))
    have hX := ((HCR.out.set 0 (.int .i64 0)).set 1 (.int .i64 0)).set 2 (.slice none 0 0)
    have hZ := ((HBW.out.setCell (p := ⟨w.heap.size, 0, none⟩) (by simp) (.int .i64 0)).setCell (p := ⟨w.heap.size, 1, none⟩) (by simp) (.int .i64 0)).setCell (p := ⟨w.heap.size, 2, none⟩) (by simp) (.slice none 0 0)
    have e0 := hX.cell 0
    have e1 := hX.cell 1
    have e2 := hX.cell 2
    simp at e0 e1 e2
    clear hX r0 r1 r2 rf0 rf1 rf2
    generalize (World.setCell _ _ _) = W5 at e0 e1 e2 hZ ⊢
    refine bodyPost_ret (by simp [results, Try.results10, go_sem, e0, e1, e2]; try rfl) rfl ?_
    exact ⟨hZ, .inr ⟨HNP.out, rfl⟩⟩
  have HAM : Hid (amt p = true) := ha
  go_enter Try.func10, Try.ntmps10
  go_wp2_with (first | (go_at_call 19; refine (implRules_eq _ _ _ c _ hn hnc HS.out (HR.out.below HW0.out) HT.out).mono ?_; rintro e w1 ⟨rfl, b1⟩; have hR : CB w1 w.heap.size #[.int .i64 0, .int .i64 0, .slice none 0 0] 30 := (CB.new _ _).below b1 (by simp); have r0 := (hR.cell 0).trans rfl; have rf0 := hR.fr 0; have r1 := (hR.cell 1).trans rfl; have rf1 := hR.fr 1; have r2 := (hR.cell 2).trans rfl; have rf2 := hR.fr 2; have HCR : Hid (CB w1 w.heap.size #[.int .i64 0, .int .i64 0, .slice none 0 0] 30) := hR; have HBW : Hid (Below w.heap.size w w1) := bel_on HW0.out b1; clear hR b1) | (go_at_call 45; refine (rulesFor_any _ _ _ c _ _ _ cs _ _ _ fs d _ hn hm hf hcc (HR.out.below HBW.out) (HC.out.below HBW.out) (HF.out.below HBW.out)).mono ?_; rintro e w2 ⟨b2, hres⟩; obtain ⟨_, rfl, hTR⟩ : UsP n c m cs d ∧ e = .returned (.tuple #[.slice (some ⟨w1.heap.size, 0, none⟩) m m, .bool true]) ∧ TR w2 (some ⟨w1.heap.size, 0, none⟩) m (usR n c cs f fs d) := (by rcases hres with h | ⟨h, _⟩; exact h; exact absurd HU.out h); clear hres; have HTR : Hid (TR w2 (some ⟨w1.heap.size, 0, none⟩) m (usR n c cs f fs d)) := hTR; clear hTR; have hR2 := HCR.out.below b2 HCR.out.lt; have HB0 : Hid (Below w.heap.size w w2) := bel_on HBW.out b2; clear HCR HBW r0 r1 r2 rf0 rf1 rf2; have hR : CB w2 w.heap.size #[.int .i64 0, .int .i64 0, .slice none 0 0] 30 := hR2; have r0 := (hR.cell 0).trans rfl; have rf0 := hR.fr 0; have r1 := (hR.cell 1).trans rfl; have rf1 := hR.fr 1; have r2 := (hR.cell 2).trans rfl; have rf2 := hR.fr 2; have HCR : Hid (CB w2 w.heap.size #[.int .i64 0, .int .i64 0, .slice none 0 0] 30) := hR; have HBW : Hid (Below w.heap.size w w2) := HB0; clear hR hR2 HB0 b2) | (go_at_call 46; refine (billOf_any _ _ _ (usR n c cs f fs d) p _ (by omega) HUO.out hp64 HTR.out HAM.out).mono ?_; rintro e w3 ⟨b3, hres⟩; have hR2 := HCR.out.below b3 HCR.out.lt; have HB0 : Hid (Below w.heap.size w w3) := bel_on HBW.out b3; have hz3 := HCR.out.lt; clear HCR HBW r0 r1 r2 rf0 rf1 rf2; have hR : CB w3 w.heap.size #[.int .i64 0, .int .i64 0, .slice none 0 0] 30 := hR2; have r0 := (hR.cell 0).trans rfl; have rf0 := hR.fr 0; have r1 := (hR.cell 1).trans rfl; have rf1 := hR.fr 1; have r2 := (hR.cell 2).trans rfl; have rf2 := hR.fr 2; have HCR : Hid (CB w3 w.heap.size #[.int .i64 0, .int .i64 0, .slice none 0 0] 30) := hR; have HBW : Hid (Below w.heap.size w w3) := HB0; clear hR hR2 HB0 b3; rcases hres with ⟨hB, pb, ce, rfl, hpb, hce, hcz, hc4⟩ | ⟨hB, rfl⟩))
  · have HTX : Hid (TaxP n c m cs f fs p d) := hid ⟨HTP.out, by omega, by omega, HAM.out, HU.out, hB⟩
    obtain ⟨nt, hnt⟩ : ∃ y, netV (usR n c cs f fs d) m p = y := ⟨_, rfl⟩
    obtain ⟨gr, hgr⟩ : ∃ y, grV (usR n c cs f fs d) (netV (usR n c cs f fs d) m p) (wiV (usR n c cs f fs d) m p) m = y := ⟨_, rfl⟩
    have hne : pb ≠ w.heap.size := by omega
    have hX := ((HCR.out.set 0 (.int .i64 (netV (usR n c cs f fs d) m p))).set 1 (.int .i64 (grV (usR n c cs f fs d) (netV (usR n c cs f fs d) m p) (wiV (usR n c cs f fs d) m p) m))).set 2 (.slice (some ⟨pb, 0, none⟩) m m)
    have hY := ((hce.other (c := w.heap.size) (o := 0) (.int .i64 (netV (usR n c cs f fs d) m p)) hne).other (c := w.heap.size) (o := 1) (.int .i64 (grV (usR n c cs f fs d) (netV (usR n c cs f fs d) m p) (wiV (usR n c cs f fs d) m p) m)) hne).other (c := w.heap.size) (o := 2) (.slice (some ⟨pb, 0, none⟩) m m) hne
    have hZ := ((HBW.out.setCell (p := ⟨w.heap.size, 0, none⟩) (by simp) (.int .i64 (netV (usR n c cs f fs d) m p))).setCell (p := ⟨w.heap.size, 1, none⟩) (by simp) (.int .i64 (grV (usR n c cs f fs d) (netV (usR n c cs f fs d) m p) (wiV (usR n c cs f fs d) m p) m))).setCell (p := ⟨w.heap.size, 2, none⟩) (by simp) (.slice (some ⟨pb, 0, none⟩) m m)
    have e0 := hX.cell 0
    have e1 := hX.cell 1
    have e2 := hX.cell 2
    simp at e0 e1 e2
    clear hX r0 r1 r2 rf0 rf1 rf2
    generalize (World.setCell _ _ _) = W5 at e0 e1 e2 hY hZ ⊢
    refine bodyPost_ret (by simp [results, Try.results10, go_sem, e0, e1, e2]; try rfl) rfl ?_
    exact ⟨hZ, .inl ⟨HTX.out, pb, ce, rfl, by omega, hY, hcz, hc4⟩⟩
  · have HNP : Hid (¬ TaxP n c m cs f fs p d) := hid (fun H => hB H.2.2.2.2.2)
    have hX := ((HCR.out.set 0 (.int .i64 0)).set 1 (.int .i64 0)).set 2 (.slice none 0 0)
    have hZ := ((HBW.out.setCell (p := ⟨w.heap.size, 0, none⟩) (by simp) (.int .i64 0)).setCell (p := ⟨w.heap.size, 1, none⟩) (by simp) (.int .i64 0)).setCell (p := ⟨w.heap.size, 2, none⟩) (by simp) (.slice none 0 0)
    have e0 := hX.cell 0
    have e1 := hX.cell 1
    have e2 := hX.cell 2
    simp at e0 e1 e2
    clear hX r0 r1 r2 rf0 rf1 rf2
    generalize (World.setCell _ _ _) = W5 at e0 e1 e2 hZ ⊢
    refine bodyPost_ret (by simp [results, Try.results10, go_sem, e0, e1, e2]; try rfl) rfl ?_
    exact ⟨hZ, .inr ⟨HNP.out, rfl⟩⟩
end Go.Proofs.Ytbhghghkgojpgaa
