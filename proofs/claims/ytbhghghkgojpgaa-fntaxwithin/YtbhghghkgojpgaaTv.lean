/- The laws' own functions over bills: likeness, marks, and that marks are found again. -/
import Derived.Test.YtbhghghkgojpgaaTq
import Derived.Test.YtbhghghkgojpgaaTu
namespace Go.Proofs.Ytbhghghkgojpgaa
open Go.ChangeShapes Go.WideShapes Go.ChangeAt Go.RowKit
set_option linter.unusedVariables false
set_option linter.unusedSimpArgs false

def bV (nt gr : Int) (ad : Option Addr) (len cap : Nat) : Value := .agg #[.int .i64 nt, .int .i64 gr, .slice ad len cap]

set_option maxRecDepth 20000 in
set_option maxHeartbeats 2000000 in
theorem eqBill_same (nt gr : Int) (a1 a2 : Option Addr) (l c1 c2 : Nat) (pt : Nat → P4) (w : World) (h : (l : Int) ≤ 1048576) (h1 : PRow w a1 l pt) (h2 : PRow w a2 l pt) :
    Calls Try.prog 23 #[bV nt gr a1 l c1, bV nt gr a2 l c2] w fun e w' => e = .returned (.bool true) ∧ Below w.heap.size w w' := by
  have H1 : Hid (PRow w a1 l pt) := h1
  have H2 : Hid (PRow w a2 l pt) := h2
  clear h1 h2
  unfold bV
  go_enter Try.func23, Try.ntmps23
  go_wp2_with (go_at_call 66; refine (eqP4S_same _ _ _ _ _ pt _ h (H1.out.below (by go_grown)) (H2.out.below (by go_grown))).mono ?_; rintro e w1 ⟨rfl, b1⟩; have HB : Hid (Below w.heap.size w w1) := bel_on (((Below.refl _ _).alloc (Nat.le_refl _) _).alloc (by simp) _) b1; clear b1)
  go_returns
  exact ⟨rfl, HB.out⟩

set_option maxRecDepth 20000 in
set_option maxHeartbeats 2000000 in
theorem markBill_is (nt gr : Int) (b len cap : Nat) (k0 : Int) (cs0 : Array Value) (w : World) (h : (len : Int) ≤ 1048576) (g0 : 0 < k0) (g1 : k0 ≤ 1000000000) (hC0 : CB w b cs0 34) (hs0 : cs0.size = len * 4) :
    Calls Try.prog 27 #[bV nt gr (some ⟨b, 0, none⟩) len cap, .int .i64 k0] w fun e w' => e = .returned (.int .i64 (k0 + 4 * (len : Int))) ∧ PRow w' (some ⟨b, 0, none⟩) len (mkP4M k0) ∧ (∀ y, y < w.heap.size → y ≠ b → w'.heap[y]? = w.heap[y]?) ∧ Below b w w' := by
  have HC : Hid (CB w b cs0 34) := hC0
  have hlt := hC0.lt
  clear hC0
  unfold bV
  go_enter Try.func27, Try.ntmps27
  go_wp2_with (go_at_call 68; refine (markP4S_is _ _ _ _ cs0 _ h g0 g1 (HC.out.alloc _) hs0).mono ?_; rintro e w1 ⟨rfl, hp, _, hk, b1⟩; have HP : Hid (PRow w1 (some ⟨b, 0, none⟩) len (mkP4M k0)) := hp; have HK : Hid (∀ y, y < w.heap.size → y ≠ b → w1.heap[y]? = w.heap[y]?) := (fun y h1 h2 => (hk y (by simp; omega) h2).trans (((Below.refl _ w).alloc (Nat.le_refl _) _).block y h1)); have HB : Hid (Below b w w1) := ((Below.refl b w).alloc (Nat.le_of_lt hlt) _).trans b1; clear hp hk b1)
  go_returns
  exact ⟨rfl, HP.out, HK.out, HB.out⟩

set_option maxRecDepth 20000 in
theorem markBill_no (nt gr : Int) (ad : Option Addr) (cap : Nat) (k0 : Int) (w : World) :
    Calls Try.prog 27 #[bV nt gr ad 0 cap, .int .i64 k0] w fun e w' => e = .returned (.int .i64 k0) ∧ Below w.heap.size w w' := by
  unfold bV
  go_enter Try.func27, Try.ntmps27
  go_wp2_with (go_at_call 68; refine (markP4S_no _ _ _ _).mono ?_; rintro e w1 ⟨rfl, rfl⟩)
  go_returns
  exact ⟨rfl, by go_grown⟩

set_option maxRecDepth 20000 in
set_option maxHeartbeats 2000000 in
theorem heldBill_is (nt gr : Int) (ad : Option Addr) (len cap : Nat) (k0 : Int) (w : World) (h : (len : Int) ≤ 1048576) (g0 : 0 < k0) (g1 : k0 ≤ 1000000000) (hr : PRow w ad len (mkP4M k0)) :
    Calls Try.prog 28 #[bV nt gr ad len cap, .int .i64 k0] w fun e w' => e = .returned (.int .i64 (k0 + 4 * (len : Int))) ∧ Below w.heap.size w w' := by
  have HR : Hid (PRow w ad len (mkP4M k0)) := hr
  clear hr
  unfold bV
  have hnn : ¬ (k0 + 4 * (len : Int) < 0) := by omega
  go_enter Try.func28, Try.ntmps28
  go_wp2_with (go_at_call 69; refine (heldP4S_is _ _ _ _ _ h g0 g1 (HR.out.below (by go_grown))).mono ?_; rintro e w1 ⟨rfl, b1⟩; have HB : Hid (Below w.heap.size w w1) := bel_on ((Below.refl _ _).alloc (Nat.le_refl _) _) b1; clear b1)
  go_returns
  exact ⟨rfl, HB.out⟩
end Go.Proofs.Ytbhghghkgojpgaa
