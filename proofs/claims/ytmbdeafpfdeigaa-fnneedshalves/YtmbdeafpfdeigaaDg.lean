/- Draws of making: DrawLevels. -/
import Derived.Test.YtmbdeafpfdeigaaDf
import Derived.Test.YtmbdeafpfdeigaaXb
import Derived.Test.YtmbdeafpfdeigaaXg
namespace Go.Proofs.Ytmbdeafpfdeigaa
open Go Go.ChangeShapes Go.WideShapes Go.ChangeAt Go.RowKit
set_option linter.unusedVariables false
set_option linter.unusedSimpArgs false

def DlP (w : World) (e : Ending) (w' : World) : Prop := ∃ (ia : Option Addr) (n ic : Nat) (d : Nat → IT), e = .returned (.slice ia n ic) ∧ n ≤ 60 ∧ ITr w' ia n d ∧ (∀ j, j < n → (d j).name.size ≤ 40 ∧ (d j).parn ≤ 5 ∧ (d j).alsn ≤ 1) ∧ Below w.heap.size w w'
theorem DlP.of {b : Nat} {w w1 w' : World} {ad : Option Addr} {n cap : Nat} {c : Nat → IV} (hb : b = w.heap.size) (h : SX b w1 (.slice ad n cap) n c w') (hn : n ≤ 60) (hw : Below w.heap.size w w1) : DlP w (.returned (.slice ad n cap)) w' := by
  obtain ⟨d, h1, h2⟩ := h.row
  exact ⟨ad, n, cap, d, rfl, hn, h1, h2, moved_bel hb hw h.m⟩
set_option maxRecDepth 20000 in
set_option maxHeartbeats 8000000 in
theorem drawLevels_any (ad : Option Addr) (len cap : Nat) (w : World) (hl : (len : Int) ≤ 1048576) (hr : ByteRow w w.heap.size ad len) :
    Calls Try.prog 29 #[.slice ad len cap] w (DlP w) := by
  have HN : Hid (Calls Try.prog 52 #[.slice ad len cap] w fun e w' => e = .returned (.pointer (some ⟨w.heap.size, 0, none⟩)) ∧ Cursor w' w.heap.size ∧ Below w.heap.size w w') := new_any ad len cap w (by omega) hr
  clear hr
  go_enter Try.func29, Try.ntmps29
  go_wp2_with (first
    | (go_at_call 52; refine HN.out.mono ?_; rintro e w1 ⟨rfl, c1, b1⟩; have HB1 : Hid (Below w.heap.size w w1 ∧ Cursor w1 w.heap.size) := hid ⟨b1, c1⟩; clear c1 b1)
    | (go_at_call 68; refine (size_any _ _ _ _ _ hl (by omega)).mono ?_; rintro e wq ⟨s, rfl, s0, s1, ew⟩; replace ew := ew.symm; subst ew)
    | (go_at_call 54; refine (drawItems_any w.heap.size _ _ HB1.out.2 (by omega) (by omega)).mono ?_; rintro e w2 ⟨v, n, c, rfl, n2, n3, ho⟩; have HO : Hid (OX w.heap.size w1 v n c w2) := ho; clear ho)
    | (go_at_call 53; refine (spoilItems_any w.heap.size _ _ _ _ _ HO.out ⟨n2, by omega⟩).mono ?_; rintro e w3 ⟨a3, n9, cap9, c9, rfl, n4, hs, hsa⟩; clear hsa; have HS : Hid (SX w.heap.size w1 (.slice a3 n9 cap9) n9 c9 w3) := hs; clear hs))
  go_returns
  exact DlP.of rfl HS.out n4 HB1.out.1
end Go.Proofs.Ytmbdeafpfdeigaa
