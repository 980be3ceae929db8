/- Levels of both sides; what stands by while a law over items is walked whose answer is a row of whole numbers. -/
import Derived.Test.YtmbdeafpfdeigaaJh
import Derived.Test.YtmbdeafpfdeigaaIn
import Derived.Test.YtmbdeafpfdeigaaIm
namespace Go.Proofs.Ytmbdeafpfdeigaa
open Go Go.ChangeShapes Go.WideShapes Go.ChangeAt Go.RowKit
set_option linter.unusedVariables false
set_option linter.unusedSimpArgs false

theorem IB.own {w : World} {lo b n : Nat} {z : Nat → Int} (h : IB w b n z) (hb : lo ≤ b) : OwnI w lo (some ⟨b, 0, none⟩) n z := by
  obtain ⟨cs, h1, h2⟩ := h
  by_cases h0 : n = 0
  · exact .inl h0
  · refine .inr ⟨b, cs, rfl, hb, h1, ?_, h2⟩
    have hx := h2 (n - 1) (by omega)
    rcases Nat.lt_or_ge (n - 1) cs.size with q | q
    · omega
    · rw [Array.getElem?_eq_none q] at hx; cases hx
noncomputable def lvM (n : Nat) (c : Nat → IT) : Nat := if isB n c then n else 0
theorem IsP.lv {n : Nat} {c : Nat → IT} (h : isB n c = true) : LvOk n c := itB_lv (isB_p h).2.1
set_option maxRecDepth 20000 in
set_option maxHeartbeats 2000000 in
theorem implLevels_any (ad : Option Addr) (n cap : Nat) (c : Nat → IT) (w : World) (h : (n : Int) ≤ 1048576) (hz : IZ n c) (hr : ITr w ad n c) :
    Calls Try.prog 30 #[.slice ad n cap] w fun e w' => ∃ ad cap, e = .returned (.slice ad (lvM n c) cap) ∧ OwnI w' w.heap.size ad (lvM n c) (lvS c n) ∧ Below w.heap.size w w' := by
  have HR : Hid (ITr w ad n c) := hr
  have HZ : Hid (IZ n c) := hz
  clear hr hz
  cases hv : isB n c
  · have HM : lvM n c = 0 := by simp [lvM, hv]
    have HV : Hid (isB n c = false) := hv
    rw [HM]
    clear hv HM
    go_enter Try.func30, Try.ntmps30
    go_wp2_with (go_at_call 38; refine (implItems_eq ad n cap c _ _ h HZ.out HR.out HV.out).mono ?_; rintro e w1 ⟨rfl, b1⟩; have HB1 : Hid (Below w.heap.size w w1) := b1; clear b1)
    go_returns
    refine ⟨_, _, rfl, .inl rfl, ?_⟩
    first | exact HB1.out | exact bel_on HB1.out ((Below.refl _ _).alloc (Nat.le_refl _) _)
  · have HM : lvM n c = n := by simp [lvM, hv]
    have HV : Hid (isB n c = true) := hv
    have h60 := (isB_p hv).1
    rw [HM]
    clear hv HM
    go_enter Try.func30, Try.ntmps30
    go_wp2_with (first
      | (go_at_call 38; refine (implItems_eq ad n cap c _ _ h HZ.out HR.out HV.out).mono ?_; rintro e w1 ⟨rfl, b1⟩; have HB1 : Hid (Below w.heap.size w w1) := b1; clear b1)
      | (go_at_call 69; refine (levelsOf_any ad n cap c _ (by omega) (HR.out.below HB1.out) (IsP.lv HV.out)).mono ?_; rintro e w2 ⟨rfl, i2, b2⟩; have HI2 : Hid (OwnI w2 w.heap.size (some ⟨w1.heap.size, 0, none⟩) n (lvS c n)) := hid (i2.own HB1.out.size); have HB2 : Hid (Below w.heap.size w w2) := bel_on HB1.out b2; clear i2 b2))
    go_returns
    exact ⟨_, _, rfl, HI2.out, HB2.out⟩
set_option maxRecDepth 20000 in
set_option maxHeartbeats 2000000 in
theorem specLevels_any (ad : Option Addr) (n cap : Nat) (c : Nat → IT) (w : World) (h : (n : Int) ≤ 1048576) (hz : IZ n c) (hr : ITr w ad n c) :
    Calls Try.prog 46 #[.slice ad n cap] w fun e w' => ∃ ad cap, e = .returned (.slice ad (lvM n c) cap) ∧ OwnI w' w.heap.size ad (lvM n c) (lvS c n) ∧ Below w.heap.size w w' := by
  have HR : Hid (ITr w ad n c) := hr
  have HZ : Hid (IZ n c) := hz
  clear hr hz
  cases hv : isB n c
  · have HM : lvM n c = 0 := by simp [lvM, hv]
    have HV : Hid (isB n c = false) := hv
    rw [HM]
    clear hv HM
    go_enter Try.func46, Try.ntmps46
    go_wp2_with (go_at_call 31; refine (specItems_eq ad n cap c _ _ h HZ.out HR.out HV.out).mono ?_; rintro e w1 ⟨rfl, b1⟩; have HB1 : Hid (Below w.heap.size w w1) := b1; clear b1)
    go_returns
    refine ⟨_, _, rfl, .inl rfl, ?_⟩
    first | exact HB1.out | exact bel_on HB1.out ((Below.refl _ _).alloc (Nat.le_refl _) _)
  · have HM : lvM n c = n := by simp [lvM, hv]
    have HV : Hid (isB n c = true) := hv
    have h60 := (isB_p hv).1
    rw [HM]
    clear hv HM
    go_enter Try.func46, Try.ntmps46
    go_wp2_with (first
      | (go_at_call 31; refine (specItems_eq ad n cap c _ _ h HZ.out HR.out HV.out).mono ?_; rintro e w1 ⟨rfl, b1⟩; have HB1 : Hid (Below w.heap.size w w1) := b1; clear b1)
      | (go_at_call 72; refine (l17Levels_any ad n cap c _ (by omega) (HR.out.below HB1.out) (IsP.lv HV.out)).mono ?_; rintro e w2 ⟨rfl, i2, b2⟩; have HI2 : Hid (OwnI w2 w.heap.size (some ⟨w1.heap.size, 0, none⟩) n (lvS c n)) := hid (i2.own HB1.out.size); have HB2 : Hid (Below w.heap.size w w2) := bel_on HB1.out b2; clear i2 b2))
    go_returns
    exact ⟨_, _, rfl, HI2.out, HB2.out⟩
/-- Items in a block of their own, all that they lead to behind it. -/
def AIT (w : World) (b n : Nat) (c : Nat → IT) : Prop := ITr w (some ⟨b, 0, none⟩) n c ∧ ∃ bt bw, OIT w b n n c bt bw
def AITb (w : World) (b hi n : Nat) (c : Nat → IT) : Prop := ITr w (some ⟨b, 0, none⟩) n c ∧ ∃ bt bw, OIT w b n n c bt bw ∧ ∀ j, j < n → bw j < hi
section
variable {w w' : World} {b hi n : Nat} {c : Nat → IT}
theorem AIT.lt (H : AIT w b n c) : b < w.heap.size := by obtain ⟨_, _, _, h⟩ := H; exact h.lt
theorem AIT.below (H : AIT w b n c) (k : Below w.heap.size w w') : AIT w' b n c := ⟨H.1.below k, by obtain ⟨_, bt, bw, h⟩ := H; exact ⟨bt, bw, h.below k⟩⟩
theorem AIT.bd (H : AIT w b n c) : AITb w b w.heap.size n c := ⟨H.1, by obtain ⟨_, bt, bw, h⟩ := H; exact ⟨bt, bw, h, fun j hj => (h.u j hj).lt⟩⟩
theorem AITb.below (H : AITb w b hi n c) (k : Below w.heap.size w w') : AITb w' b hi n c := ⟨H.1.below k, by obtain ⟨_, bt, bw, h, q⟩ := H; exact ⟨bt, bw, h.below k, q⟩⟩
end
theorem toITA_any (ad : Option Addr) (m cap : Nat) (c : Nat → IT) (w : World) (h : (m : Int) ≤ 1048576) (hl : ∀ j, j < m → ((c j).parn : Int) ≤ 1048576 ∧ ((c j).alsn : Int) ≤ 1048576) (H : ITr w ad m c) :
    Calls Try.prog 37 #[.slice ad m cap] w fun e w' => e = .returned (.slice (some ⟨w.heap.size, 0, none⟩) m m) ∧ AIT w' w.heap.size m c ∧ Below w.heap.size w w' :=
  (toITS_any ad m cap c w h hl H).mono fun e w' ⟨he, ⟨bt, bw, ho⟩, hb⟩ => ⟨he, ⟨ho.row, bt, bw, ho⟩, hb⟩
structure KU0 (w : World) (M : Nat) (F : Nat → Int) (ado adg : Option Addr) (lo hi hg : Nat) (x0 m0 : Nat) (c0 : Nat → IT) (W : World) : Prop where
  bl : Below w.heap.size w W
  o : OwnMI W w.heap.size lo ado M F
  g : OwnMI W hi hg adg M F
  r0 : AITb W x0 hi m0 c0
  l : w.heap.size ≤ lo ∧ lo ≤ x0 ∧ x0 < hi
structure KU1 (w : World) (M : Nat) (F : Nat → Int) (ado adg : Option Addr) (lo hi hg : Nat) (W : World) : Prop where
  bl : Below w.heap.size w W
  o : OwnMI W w.heap.size lo ado M F
  g : OwnMI W hi hg adg M F
  l : w.heap.size ≤ lo ∧ lo ≤ hi
structure KUX (w : World) (M : Nat) (F : Nat → Int) (ado adg : Option Addr) (lo : Nat) (W : World) : Prop where
  bl : Below w.heap.size w W
  o : OwnMI W w.heap.size lo ado M F
  h : IR W adg M (fun j => (j : Int) + 1)
section
variable {w W W' : World} {M : Nat} {F : Nat → Int} {ado adg : Option Addr} {lo hi hg : Nat} {x0 m0 : Nat} {c0 : Nat → IT}
theorem KU0.below (h : KU0 w M F ado adg lo hi hg x0 m0 c0 W) (b : Below W.heap.size W W') : KU0 w M F ado adg lo hi hg x0 m0 c0 W' := ⟨bel_on h.bl b, h.o.below b, h.g.below b, h.r0.below b, h.l⟩
theorem KU1.below (h : KU1 w M F ado adg lo hi hg W) (b : Below W.heap.size W W') : KU1 w M F ado adg lo hi hg W' := ⟨bel_on h.bl b, h.o.below b, h.g.below b, h.l⟩
theorem KUX.below (h : KUX w M F ado adg lo W) (b : Below W.heap.size W W') : KUX w M F ado adg lo W' := ⟨bel_on h.bl b, h.o.below b, h.h.below b⟩
theorem KU0.marked (h : KU0 w M F ado adg lo hi hg x0 m0 c0 W) (kk : ∀ y, y < W.heap.size → (y < x0 ∨ hi ≤ y) → W'.heap[y]? = W.heap[y]?) (b : Below x0 W W') : KU1 w M F ado adg lo hi hg W' := by
  have l := h.l
  exact ⟨h.bl.trans (b.mono (by omega)), h.o.keep (fun g _ h2 h3 => kk g h3 (by omega)), h.g.keep (fun g h1 _ h3 => kk g h3 (by omega)), by omega⟩
theorem KU1.marked (h : KU1 w M F ado adg lo hi hg W) (r : IR W' adg M (fun j => (j : Int) + 1)) (kk : ∀ y, y < W.heap.size → (y < hi ∨ hg ≤ y) → W'.heap[y]? = W.heap[y]?) (b : Below hi W W') : KUX w M F ado adg lo W' := by
  have l := h.l
  exact ⟨h.bl.trans (b.mono (by omega)), h.o.keep (fun g _ h2 h3 => kk g h3 (Or.inl (by omega))), r⟩
end
end Go.Proofs.Ytmbdeafpfdeigaa
