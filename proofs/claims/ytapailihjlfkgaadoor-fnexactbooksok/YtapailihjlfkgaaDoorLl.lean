/- The laws' functions over ledgers. -/
import Derived.Test.YtapailihjlfkgaaDoorLt
namespace Go.Proofs.YtapailihjlfkgaaDoor
open Go.ChangeShapes Go.WideShapes Go.ChangeAt Go.RowKit
set_option linter.unusedVariables false
set_option linter.unusedSimpArgs false

theorem szLedger_any (ad : Option Addr) (len cap : Nat) (es : Nat → E4) (hd L0 : Int) (w : World) (h0 : 0 ≤ L0) (hL : L0 ≤ 1048576) (hl : (len : Int) ≤ 9223372036854775807) (hc : ∀ j, ((es j).text.size : Int) ≤ 9223372036854775807 ∧ ((es j).n : Int) ≤ 9223372036854775807) (hr : ER w ad len es) :
    Calls Tryd.prog 47 #[.agg #[.slice ad len cap, .int .i64 hd], .int .i64 L0] w fun e w' => ∃ v : Int, e = .returned (.int .i64 v) ∧ (v = -1 ∨ (0 ≤ v ∧ v ≤ L0 ∧ (len : Int) ≤ 1048576 ∧ ∀ j, j < len → ((es j).n : Int) ≤ 1048576)) ∧ Below w.heap.size w w' := by
  have HR : Hid (ER w ad len es) := hr
  have HC : Hid (∀ j, ((es j).text.size : Int) ≤ 9223372036854775807 ∧ ((es j).n : Int) ≤ 9223372036854775807) := hc
  clear hr hc
  go_enter Tryd.func47, Tryd.ntmps47
  go_wp2_with (go_at_call 84; refine (szEntryS_any _ _ _ es _ _ h0 hL hl HC.out (HR.out.alloc _)).mono ?_; rintro e w1 ⟨v, rfl, hv, b1⟩; have HB : Hid (Below w.heap.size w w1) := bel_on ((Below.refl _ _).alloc (Nat.le_refl _) _) b1; clear b1; rcases hv with rfl | ⟨hv, hv2, hv3, hv4⟩)
  · go_returns
    exact ⟨-1, rfl, .inl rfl, HB.out⟩
  · have HV4 : Hid (∀ j, j < len → ((es j).n : Int) ≤ 1048576) := hv4
    clear hv4
    go_wp2
    go_returns
    exact ⟨v, rfl, .inr ⟨hv, hv2, hv3, HV4.out⟩, HB.out⟩

theorem OwnE.other {w : World} {B n k c o : Nat} {v : Value} {e : Nat → E4} {bl : Nat → Nat} {t tl : TypeId} (h : OwnE w B n k e bl t tl) (hB : B ≠ c) (hl : ∀ j, j < k → bl j ≠ c) : OwnE (w.setCell ⟨c, o, none⟩ v) B n k e bl t tl := by
  obtain ⟨cs, h1, h2, h3⟩ := h.main
  exact ⟨⟨cs, h1.other v hB, h2, h3⟩, fun j hj => (h.own j hj).other (hl j hj), h.apart, h.inj⟩

set_option maxRecDepth 20000 in
set_option maxHeartbeats 1000000 in
theorem toLedger_any (ad : Option Addr) (len cap : Nat) (es : Nat → E4) (hd : Int) (w : World) (h : (len : Int) ≤ 1048576) (hn : ∀ j, j < len → ((es j).n : Int) ≤ 1048576) (hr : ER w ad len es) :
    Calls Tryd.prog 50 #[.agg #[.slice ad len cap, .int .i64 hd]] w fun e w' => ∃ b bl, e = .returned (.agg #[.slice (some ⟨b, 0, none⟩) len len, .int .i64 hd]) ∧ w.heap.size ≤ b ∧ (∀ j, j < len → b < bl j) ∧ OwnE w' b len len es bl 37 78 ∧ Below w.heap.size w w' := by
  have HR : Hid (ER w ad len es) := hr
  have HN : Hid (∀ j, j < len → ((es j).n : Int) ≤ 1048576) := hn
  clear hr hn
  go_enter Tryd.func50, Tryd.ntmps50
  go_wp2_with (go_at_call 86; refine (toEntryS_any _ _ _ es _ h HN.out (HR.out.below (by go_grown))).mono ?_; rintro e w1 ⟨rfl, ⟨bl, o1, l1⟩, b1⟩; have X0 : CB w1 w.heap.size #[.slice ad len cap, .int .i64 hd] 58 := (((CB.new _ _).alloc _).alloc _).below b1 (by simp; omega); obtain ⟨C1, C2, b2⟩ := three_blocks b1; have j1 := X0.cell 1; have k0 := C2.cell 0; have k1 := C2.cell 1; have m0 := C1.cell 0; have m1 := C1.cell 1; simp at j1 k0 k1 m0 m1; have f0 := C2.fr 0; have f1 := C2.fr 1; have g0 := C1.fr 0; have g1 := C1.fr 1; have HB : Hid (Below w.heap.size w w1) := b2; have HC1 : Hid (CB w1 (w.heap.size + 1) #[.slice none 0 0, .int .i64 0] 29) := C1; have o2 : OwnE w1 (w.heap.size + 1 + 1 + 1) len len es bl 37 78 := (by simpa using o1); have l2 : ∀ j, j < len → w.heap.size + 1 + 1 + 1 < bl j := (by simpa using l1); have HO : Hid (OwnE w1 (w.heap.size + 1 + 1 + 1) len len es bl 37 78) := o2; have HL : Hid (∀ j, j < len → w.heap.size + 1 + 1 + 1 < bl j) := l2; clear o1 l1 b1 o2 l2 b2 C1 C2 X0)
  have q : ∀ x, x = w.heap.size + 1 ∨ x = w.heap.size + 1 + 1 → ∀ j, j < len → bl j ≠ x := fun x hx j hj => by have := HL.out j hj; omega
  have hX := ((HC1.out.other (c := w.heap.size + 1 + 1) (o := 0) (.slice (some ⟨w.heap.size + 1 + 1 + 1, 0, none⟩) len len) (by omega)).other (c := w.heap.size + 1 + 1) (o := 1) (.int .i64 hd) (by omega))
  have hX := (hX.set 0 (.slice (some ⟨w.heap.size + 1 + 1 + 1, 0, none⟩) len len)).set 1 (.int .i64 hd)
  have hY := (((HO.out.other (c := w.heap.size + 1 + 1) (o := 0) (v := .slice (some ⟨w.heap.size + 1 + 1 + 1, 0, none⟩) len len) (by omega) (q _ (.inr rfl))).other (c := w.heap.size + 1 + 1) (o := 1) (v := .int .i64 hd) (by omega) (q _ (.inr rfl))).other (c := w.heap.size + 1) (o := 0) (v := .slice (some ⟨w.heap.size + 1 + 1 + 1, 0, none⟩) len len) (by omega) (q _ (.inl rfl))).other (c := w.heap.size + 1) (o := 1) (v := .int .i64 hd) (by omega) (q _ (.inl rfl))
  have hZ := (((HB.out.setCell (p := ⟨w.heap.size + 1 + 1, 0, none⟩) (by simp; omega) (.slice (some ⟨w.heap.size + 1 + 1 + 1, 0, none⟩) len len)).setCell (p := ⟨w.heap.size + 1 + 1, 1, none⟩) (by simp; omega) (.int .i64 hd)).setCell (p := ⟨w.heap.size + 1, 0, none⟩) (by simp) (.slice (some ⟨w.heap.size + 1 + 1 + 1, 0, none⟩) len len)).setCell (p := ⟨w.heap.size + 1, 1, none⟩) (by simp) (.int .i64 hd)
  have e0 := hX.cell 0
  have e1 := hX.cell 1
  simp at e0 e1
  clear hX j1 k0 k1 m0 m1 f0 f1 g0 g1 HC1 HO HB
  generalize (World.setCell _ _ _) = W5 at e0 e1 hY hZ ⊢
  refine bodyPost_ret (by simp [results, Tryd.results50, go_sem, e0, e1]; try rfl) rfl ?_
  exact ⟨_, bl, rfl, by omega, HL.out, hY, hZ⟩

theorem eqLedger_same (ad be : Option Addr) (len cap cap2 : Nat) (es : Nat → E4) (hd : Int) (w : World) (h : (len : Int) ≤ 1048576) (hn : ∀ j, j < len → ((es j).n : Int) ≤ 1048576) (h1 : ER w ad len es) (h2 : ER w be len es) :
    Calls Tryd.prog 53 #[.agg #[.slice ad len cap, .int .i64 hd], .agg #[.slice be len cap2, .int .i64 hd]] w fun e w' => e = .returned (.bool true) ∧ Below w.heap.size w w' := by
  have H1 : Hid (ER w ad len es) := h1
  have H2 : Hid (ER w be len es) := h2
  have HN : Hid (∀ j, j < len → ((es j).n : Int) ≤ 1048576) := hn
  clear h1 h2 hn
  go_enter Tryd.func53, Tryd.ntmps53
  go_wp2_with (go_at_call 89; refine (eqEntryS_same _ _ _ _ _ es _ h HN.out ((H1.out.alloc _).alloc _) ((H2.out.alloc _).alloc _)).mono ?_; rintro e w1 ⟨rfl, b1⟩; have X0 : CB w1 w.heap.size #[.slice ad len cap, .int .i64 hd] 29 := ((CB.new _ _).alloc _).below b1 (by simp; omega); have X1 : CB w1 (w.heap.size + 1) #[.slice be len cap2, .int .i64 hd] 29 := (CB.newAt (by simp) _ _).below b1 (by simp); have j1 := X0.cell 1; have k1 := X1.cell 1; simp at j1 k1; have b2 : Below w.heap.size w w1 := bel_on (by go_grown) b1; have HB : Hid (Below w.heap.size w w1) := b2; clear b1 b2 X0 X1)
  go_returns
  exact ⟨rfl, HB.out⟩

end Go.Proofs.YtapailihjlfkgaaDoor
