/- Draws of making: what is asked of the items; DrawNeeds and DrawExplode. -/
import Derived.Test.YtmbdeafpfdeigaaDg
namespace Go.Proofs.Ytmbdeafpfdeigaa
open Go Go.ChangeShapes Go.WideShapes Go.ChangeAt Go.RowKit
set_option linter.unusedVariables false
set_option linter.unusedSimpArgs false

set_option maxRecDepth 20000 in
set_option maxHeartbeats 2000000 in
theorem badDay_any (b : Nat) (x : Int) (w : World) (hc : Cursor w b) : Calls Try.prog 105 #[.pointer (some ⟨b, 0, none⟩), .int .i64 x] w fun e w' => ∃ d : Int, e = .returned (.int .i64 d) ∧ Moved b w w' := by
  have HC : Hid (Cursor w b) := hc
  clear hc
  go_enter Try.func105, Try.ntmps105
  go_wp2_with (go_at_call 61; refine (spoil_any b _ _ [-1, 40001, -9223372036854775808] _ _ _ (HC.out.alloc _) (IntRow.made HC.out.lt _ _ _ rfl) rfl (by decide) (by decide)).mono ?_; rintro e w2 ⟨x2, rfl, _, m2⟩; have M2 := hid (((Moved.refl HC.out).alloc _).trans m2); clear m2)
  go_returns
  exact ⟨_, rfl, M2.out⟩
def AkP (b : Nat) (w : World) (e : Ending) (w' : World) : Prop := ∃ a q d : Int, e = .returned (.tuple #[.int .i64 a, .int .i64 q, .int .i64 d]) ∧ (-1 ≤ q ∧ q ≤ 1000001) ∧ Moved b w w'
theorem AkP.of {b : Nat} {w w' : World} {a q d : Int} (h : -1 ≤ q ∧ q ≤ 1000001) (m : Moved b w w') : AkP b w (.returned (.tuple #[.int .i64 a, .int .i64 q, .int .i64 d])) w' := ⟨a, q, d, rfl, h, m⟩
set_option maxRecDepth 20000 in
set_option maxHeartbeats 4000000 in
theorem drawAsk_any (b : Nat) (ad : Option Addr) (n cap : Nat) (w : World) (hc : Cursor w b) (hn : n ≤ 60) : Calls Try.prog 55 #[.pointer (some ⟨b, 0, none⟩), .slice ad n cap] w (AkP b w) := by
  have HM : Hid (Moved b w w) := hid (Moved.refl hc)
  clear hc
  have t1 : True := trivial
  have t2 : True := trivial
  have t3 : True := trivial
  have t4 : True := trivial
  have t5 : True := trivial
  go_enter Try.func55, Try.ntmps55
  go_wp2_with (first
    | (go_at_call 78; clear t1; refine (once_any b _ _ HM.out.1).mono ?_; rintro e w1 ⟨v, rfl, m⟩; replace HM := hid (HM.out.trans m); clear m; cases v; clear t2 t3)
    | (go_at_call 60; clear t2; refine (below_any b _ _ HM.out.1).mono ?_; rintro e w1 ⟨x, rfl, _, _, _, m⟩; replace HM := hid (HM.out.trans m); clear m)
    | (go_at_call 61; clear t3; refine (spoil_any b _ _ [-1, (n : Int)] _ _ _ (HM.out.1.alloc _) (IntRow.made HM.out.1.lt _ _ _ rfl) rfl (by simp) (by simp)).mono ?_; rintro e w2 ⟨x2, rfl, _, m⟩; replace HM := hid ((HM.out.alloc _).trans m); clear m)
    | (go_at_call 60; clear t4; refine (below_any b _ _ HM.out.1).mono ?_; rintro e w3 ⟨x3, rfl, x3a, x3b, _, m⟩; replace x3b := x3b (by omega); replace HM := hid (HM.out.trans m); clear m)
    | (go_at_call 61; refine (spoil_any b _ _ [-1, 1000000, 1000001, 100000] _ _ _ (HM.out.1.alloc _) (IntRow.made HM.out.1.lt _ _ _ rfl) rfl (by decide) (by decide)).mono ?_; rintro e w4 ⟨x4, rfl, hx4, m⟩; replace HM := hid ((HM.out.alloc _).trans m); clear m; have HQ : Hid (-1 ≤ x4 ∧ x4 ≤ 1000001) := hid (by rcases hx4 with rfl | h; (omega); (simp at h; omega)); clear hx4)
    | (go_at_call 60; clear t5; refine (below_any b _ _ HM.out.1).mono ?_; rintro e w5 ⟨x5, rfl, _, _, _, m⟩; replace HM := hid (HM.out.trans m); clear m)
    | (go_at_call 105; refine (badDay_any b _ _ HM.out.1).mono ?_; rintro e w6 ⟨x6, rfl, m⟩; replace HM := hid (HM.out.trans m); clear m))
  all_goals go_returns
  all_goals exact AkP.of HQ.out HM.out
def DnP (w : World) (e : Ending) (w' : World) : Prop := ∃ (ia : Option Addr) (n ic : Nat) (d : Nat → IT) (a q y : Int), e = .returned (.tuple #[.slice ia n ic, .int .i64 a, .int .i64 q, .int .i64 y]) ∧ n ≤ 60 ∧ ITr w' ia n d ∧ (∀ j, j < n → (d j).name.size ≤ 40 ∧ (d j).parn ≤ 5 ∧ (d j).alsn ≤ 1) ∧ (-1 ≤ q ∧ q ≤ 1000001) ∧ Below w.heap.size w w' ∧ ∃ a, ia = some a
theorem DnP.of {b : Nat} {w w1 w' : World} {ad : Option Addr} {n cap : Nat} {c : Nat → IV} {a q y : Int} (hb : b = w.heap.size) (h : SX b w1 (.slice ad n cap) n c w') (hn : n ≤ 60) (hq : -1 ≤ q ∧ q ≤ 1000001) (hw : Below w.heap.size w w1) (hsa : ∃ a, ad = some a) : DnP w (.returned (.tuple #[.slice ad n cap, .int .i64 a, .int .i64 q, .int .i64 y])) w' := by
  obtain ⟨d, h1, h2⟩ := h.row
  exact ⟨ad, n, cap, d, a, q, y, rfl, hn, h1, h2, hq, moved_bel hb hw h.m, hsa⟩
set_option maxRecDepth 20000 in
set_option maxHeartbeats 8000000 in
theorem drawNeeds_any (ad : Option Addr) (len cap : Nat) (w : World) (hl : (len : Int) ≤ 1048576) (hr : ByteRow w w.heap.size ad len) :
    Calls Try.prog 18 #[.slice ad len cap] w (DnP w) := by
  have HN : Hid (Calls Try.prog 52 #[.slice ad len cap] w fun e w' => e = .returned (.pointer (some ⟨w.heap.size, 0, none⟩)) ∧ Cursor w' w.heap.size ∧ Below w.heap.size w w') := new_any ad len cap w (by omega) hr
  clear hr
  go_enter Try.func18, Try.ntmps18
  go_wp2_with (first
    | (go_at_call 52; refine HN.out.mono ?_; rintro e w1 ⟨rfl, c1, b1⟩; have HB1 : Hid (Below w.heap.size w w1 ∧ Cursor w1 w.heap.size) := hid ⟨b1, c1⟩; clear c1 b1)
    | (go_at_call 54; refine (drawItems_any w.heap.size _ _ HB1.out.2 (by omega) (by omega)).mono ?_; rintro e w2 ⟨v, n, c, rfl, n2, n3, ho⟩; have HO : Hid (OX w.heap.size w1 v n c w2) := ho; clear ho)
    | (go_at_call 53; refine (spoilItems_any w.heap.size _ _ _ _ _ HO.out ⟨n2, by omega⟩).mono ?_; rintro e w3 ⟨a3, n9, cap9, c9, rfl, n4, hs, hsa⟩; have HSA := hid hsa; clear hsa; have HS : Hid (SX w.heap.size w1 (.slice a3 n9 cap9) n9 c9 w3) := hs; clear hs)
    | (go_at_call 55; refine (drawAsk_any w.heap.size _ _ _ _ HS.out.m.1 n4).mono ?_; rintro e w4 ⟨a4, q4, y4, rfl, hq, m⟩; replace HS := hid (HS.out.turn m); have HQ : Hid (-1 ≤ q4 ∧ q4 ≤ 1000001) := hq; clear m hq))
  go_returns
  exact DnP.of rfl HS.out n4 HQ.out HB1.out.1 HSA.out
set_option maxRecDepth 20000 in
set_option maxHeartbeats 8000000 in
theorem drawExplode_any (ad : Option Addr) (len cap : Nat) (w : World) (hl : (len : Int) ≤ 1048576) (hr : ByteRow w w.heap.size ad len) :
    Calls Try.prog 21 #[.slice ad len cap] w (DnP w) := by
  have HN : Hid (Calls Try.prog 52 #[.slice ad len cap] w fun e w' => e = .returned (.pointer (some ⟨w.heap.size, 0, none⟩)) ∧ Cursor w' w.heap.size ∧ Below w.heap.size w w') := new_any ad len cap w (by omega) hr
  clear hr
  go_enter Try.func21, Try.ntmps21
  go_wp2_with (first
    | (go_at_call 52; refine HN.out.mono ?_; rintro e w1 ⟨rfl, c1, b1⟩; have HB1 : Hid (Below w.heap.size w w1 ∧ Cursor w1 w.heap.size) := hid ⟨b1, c1⟩; clear c1 b1)
    | (go_at_call 54; refine (drawItems_any w.heap.size _ _ HB1.out.2 (by omega) (by omega)).mono ?_; rintro e w2 ⟨v, n, c, rfl, n2, n3, ho⟩; have HO : Hid (OX w.heap.size w1 v n c w2) := ho; clear ho)
    | (go_at_call 53; refine (spoilItems_any w.heap.size _ _ _ _ _ HO.out ⟨n2, by omega⟩).mono ?_; rintro e w3 ⟨a3, n9, cap9, c9, rfl, n4, hs, hsa⟩; have HSA := hid hsa; clear hsa; have HS : Hid (SX w.heap.size w1 (.slice a3 n9 cap9) n9 c9 w3) := hs; clear hs)
    | (go_at_call 55; refine (drawAsk_any w.heap.size _ _ _ _ HS.out.m.1 n4).mono ?_; rintro e w4 ⟨a4, q4, y4, rfl, hq, m⟩; replace HS := hid (HS.out.turn m); have HQ : Hid (-1 ≤ q4 ∧ q4 ≤ 1000001) := hq; clear m hq))
  go_returns
  exact DnP.of rfl HS.out n4 HQ.out HB1.out.1 HSA.out
end Go.Proofs.Ytmbdeafpfdeigaa
