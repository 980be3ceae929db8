/- The laws' marks over registers; what stands by while a law over registers is walked. -/
import Derived.Test.YtdhpadcihlmhiaaDoorSr
namespace Go.Proofs.YtdhpadcihlmhiaaDoor
open Go.ChangeShapes Go.WideShapes Go.ChangeAt Go.RowKit
set_option linter.unusedVariables false
set_option linter.unusedSimpArgs false

theorem markSer_any (ad : Option Addr) (n cap lo : Nat) (c : Nat → S2) (k0 : Int) (w : World) (h : (n : Int) ≤ 1048576) (g0 : 0 < k0) (g1 : k0 ≤ 1000000000) (ho : OwnS2 w lo ad n c) :
    Calls Tryd.prog 79 #[.slice ad n cap, .int .i64 k0] w fun e w' => e = .returned (.int .i64 (k0 + 2 * (n : Int))) ∧ OwnS2 w' lo ad n (mkS2M k0) ∧ (∀ y, y < w.heap.size → (0 < n → ad ≠ some ⟨y, 0, none⟩) → w'.heap[y]? = w.heap[y]?) ∧ w.heap.size ≤ w'.heap.size ∧ Below lo w w' := by
  by_cases hz : n = 0
  · subst hz
    refine (markS2S_no ad cap k0 w).mono ?_
    rintro e w' ⟨rfl, rfl⟩
    exact ⟨by simp, .inl rfl, fun _ _ _ => rfl, Nat.le_refl _, Below.refl _ _⟩
  · rcases ho with h' | ⟨g, cs, rfl, h0, h1, h2, _⟩
    · exact absurd h' hz
    refine (markS2S_is g n cap k0 cs w h g0 g1 h1 h2).mono ?_
    rintro e w' ⟨rfl, hr, ⟨ds, q1, q2⟩, hk, hb⟩
    refine ⟨rfl, .inr ⟨g, ds, rfl, h0, q1, q2, fun j hj => ?_⟩, fun y hy hne => hk y hy (fun e => hne (by omega) (by rw [e])), hb.size, hb.mono h0⟩
    have hA := hr.cell hj
    unfold AtS2 at hA
    rw [Nat.zero_add, q1.cell, q1.cell] at hA
    exact hA
theorem markPap_any (ad : Option Addr) (n cap lo : Nat) (c : Nat → P4) (k0 : Int) (w : World) (h : (n : Int) ≤ 1048576) (g0 : 0 < k0) (g1 : k0 ≤ 1000000000) (ho : OwnP4 w lo ad n c) :
    Calls Tryd.prog 80 #[.slice ad n cap, .int .i64 k0] w fun e w' => e = .returned (.int .i64 (k0 + 4 * (n : Int))) ∧ OwnP4 w' lo ad n (mkP4M k0) ∧ (∀ y, y < w.heap.size → (0 < n → ad ≠ some ⟨y, 0, none⟩) → w'.heap[y]? = w.heap[y]?) ∧ w.heap.size ≤ w'.heap.size ∧ Below lo w w' := by
  by_cases hz : n = 0
  · subst hz
    refine (markP4S_no ad cap k0 w).mono ?_
    rintro e w' ⟨rfl, rfl⟩
    exact ⟨by simp, .inl rfl, fun _ _ _ => rfl, Nat.le_refl _, Below.refl _ _⟩
  · rcases ho with h' | ⟨g, cs, rfl, h0, h1, h2, _⟩
    · exact absurd h' hz
    refine (markP4S_is g n cap k0 cs w h g0 g1 h1 h2).mono ?_
    rintro e w' ⟨rfl, hr, ⟨ds, q1, q2⟩, hk, hb⟩
    refine ⟨rfl, .inr ⟨g, ds, rfl, h0, q1, q2, fun j hj => ?_⟩, fun y hy hne => hk y hy (fun e => hne (by omega) (by rw [e])), hb.size, hb.mono h0⟩
    have hA := hr.cell hj
    unfold AtP4 at hA
    rw [Nat.zero_add, q1.cell, q1.cell, q1.cell, q1.cell] at hA
    exact hA

theorem OwnS2.blk {w : World} {lo n : Nat} {ad : Option Addr} {c : Nat → S2} (h : OwnS2 w lo ad n c) (hn : 0 < n) : ∃ g cs, ad = some ⟨g, 0, none⟩ ∧ lo ≤ g ∧ CB w g cs 75 ∧ n * 2 ≤ cs.size := by
  rcases h with h | ⟨g, cs, e, h0, h1, h2, _⟩
  · omega
  · exact ⟨g, cs, e, h0, h1, h2⟩
theorem OwnP4.keepC {w w' : World} {lo n : Nat} {ad : Option Addr} {c : Nat → P4} (h : OwnP4 w lo ad n c) (hb : ∀ g cs, 0 < n → ad = some ⟨g, 0, none⟩ → lo ≤ g → CB w g cs 32 → w'.heap[g]? = w.heap[g]?) : OwnP4 w' lo ad n c := by
  by_cases hz : n = 0
  · exact .inl hz
  rcases h with h | ⟨g, cs, e, h0, h1, h2⟩
  · exact .inl h
  · exact .inr ⟨g, cs, e, h0, h1.block (hb g cs (by omega) e h0 h1), h2⟩
theorem OwnS2.keepC {w w' : World} {lo n : Nat} {ad : Option Addr} {c : Nat → S2} (h : OwnS2 w lo ad n c) (hb : ∀ g cs, 0 < n → ad = some ⟨g, 0, none⟩ → lo ≤ g → CB w g cs 75 → w'.heap[g]? = w.heap[g]?) : OwnS2 w' lo ad n c := by
  by_cases hz : n = 0
  · exact .inl hz
  rcases h with h | ⟨g, cs, e, h0, h1, h2⟩
  · exact .inl h
  · exact .inr ⟨g, cs, e, h0, h1.block (hb g cs (by omega) e h0 h1), h2⟩
theorem own_apart {w : World} {lo1 lo2 n1 n2 g g' : Nat} {cs cs' : Array Value} (h1 : CB w g cs 75) (h2 : CB w g' cs' 32) : (some ⟨g, 0, none⟩ : Option Addr) ≠ some ⟨g', 0, none⟩ := fun e => by
  simp only [Option.some.injEq, Addr.mk.injEq, and_true] at e
  exact CB_ne h1 h2 (by decide) e
set_option maxRecDepth 20000 in
set_option maxHeartbeats 2000000 in
theorem markReg_any (a2 a3 : Option Addr) (n1 n2 c2 c3 lo : Nat) (c : Nat → S2) (p : Nat → P4) (w : World) (h : (n1 : Int) ≤ 1048576) (hn : (n2 : Int) ≤ 1048576) (h2 : OwnS2 w lo a2 n1 c) (h3 : OwnP4 w lo a3 n2 p) (hlo : lo ≤ w.heap.size) :
    Calls Tryd.prog 30 #[.agg #[.slice a2 n1 c2, .slice a3 n2 c3], .int .i64 1] w fun e w' => e = .returned (.int .i64 (1 + 2 * (n1 : Int) + 4 * (n2 : Int))) ∧ OwnS2 w' lo a2 n1 (mkS2M 1) ∧ OwnP4 w' lo a3 n2 (mkP4M (1 + 2 * (n1 : Int))) ∧ (∀ y, y < w.heap.size → (0 < n1 → a2 ≠ some ⟨y, 0, none⟩) → (0 < n2 → a3 ≠ some ⟨y, 0, none⟩) → w'.heap[y]? = w.heap[y]?) ∧ Below lo w w' := by
  have H2 := hid h2
  have H3 := hid h3
  have HBA : Hid (Below w.heap.size w (w.alloc (.cells #[.slice a2 n1 c2, .slice a3 n2 c3] 27 (0, 0)))) := (Below.refl _ _).alloc (Nat.le_refl _) _
  have H2b := hid (h2.below HBA.out)
  have HX := hid (CB.new (w := w) #[.slice a2 n1 c2, .slice a3 n2 c3] 27)
  have HL2 : Hid (∀ y, 0 < n1 → a2 = some ⟨y, 0, none⟩ → y < w.heap.size) := fun y q e => by obtain ⟨g, cs, e', _, q1, _⟩ := h2.blk q; rw [e'] at e; simp only [Option.some.injEq, Addr.mk.injEq, and_true] at e; rw [← e]; exact q1.lt
  have HL3 : Hid (∀ y, 0 < n2 → a3 = some ⟨y, 0, none⟩ → y < w.heap.size) := fun y q e => by obtain ⟨g, cs, e', _, q1, _⟩ := h3.blk q; rw [e'] at e; simp only [Option.some.injEq, Addr.mk.injEq, and_true] at e; rw [← e]; exact q1.lt
  clear h2 h3
  go_enter Tryd.func30, Tryd.ntmps30
  go_wp2_with (first
    | (go_at_call 79; go_loud (refine (markSer_any a2 n1 c2 lo c 1 _ h (by omega) (by omega) H2b.out).mono ?_; rintro e w1 ⟨rfl, o1, hk1, hs1, b1⟩; have HK1 := hid hk1; have HO1 := hid o1; have HB1 := hid b1; have X1 : CB w1 w.heap.size #[.slice a2 n1 c2, .slice a3 n2 c3] 27 := HX.out.block (hk1 w.heap.size (by simp) (fun q e => by have := HL2.out _ q e; omega)); have k1 := (X1.cell 1).trans rfl; have H3b : Hid (OwnP4 w1 lo a3 n2 p) := (H3.out.below HBA.out).keepC (fun g cs q e hlo hc => hk1 g hc.lt (fun q' e' => by obtain ⟨g2, cs2, e2, _, hc2, _⟩ := H2b.out.blk q'; rw [e2] at e'; exact own_apart (lo1 := 0) (lo2 := 0) (n1 := 0) (n2 := 0) hc2 hc e')); clear hk1 o1 b1 X1))
    | (go_at_call 80; go_loud (refine (markPap_any a3 n2 c3 lo p _ _ (by omega) (by omega) (by omega) H3b.out).mono ?_; rintro e w2 ⟨rfl, o2, hk2, hs2, b2⟩; have HK2 := hid hk2; have HO2 := hid o2; have HB2 := hid b2; clear hk2 o2 b2)))
  go_returns
  refine ⟨rfl, ?_, HO2.out, fun y hy q1 q2 => ?_, ?_⟩
  · exact HO1.out.keepC (fun g cs q e hlo hc => HK2.out g hc.lt (fun q' e' => by obtain ⟨g2, cs2, e2, _, hc2, _⟩ := H3b.out.blk q'; rw [e2] at e'; exact own_apart (lo1 := 0) (lo2 := 0) (n1 := 0) (n2 := 0) hc hc2 e'.symm))
  · have e1 := HK1.out y (by simp; omega) q1
    have e2 := HK2.out y (by have : (w.alloc (.cells #[.slice a2 n1 c2, .slice a3 n2 c3] 27 (0, 0))).heap.size ≤ w1.heap.size := hs1; simp at this; omega) q2
    rw [e2, e1, HBA.out.block y hy]
  · exact ((HBA.out.mono hlo).trans HB1.out).trans HB2.out
set_option maxRecDepth 20000 in
set_option maxHeartbeats 2000000 in
theorem heldReg_any (a2 a3 : Option Addr) (n1 n2 c2 c3 : Nat) (w : World) (h : (n1 : Int) ≤ 1048576) (hn : (n2 : Int) ≤ 1048576) (h2 : SRw w a2 n1 (mkS2M 1)) (h3 : PRw w a3 n2 (mkP4M (1 + 2 * (n1 : Int)))) :
    Calls Tryd.prog 31 #[.agg #[.slice a2 n1 c2, .slice a3 n2 c3], .int .i64 1] w fun e w' => e = .returned (.int .i64 (1 + 2 * (n1 : Int) + 4 * (n2 : Int))) ∧ Below w.heap.size w w' := by
  have H2 := hid h2
  have H3 := hid h3
  have HBA : Hid (Below w.heap.size w (w.alloc (.cells #[.slice a2 n1 c2, .slice a3 n2 c3] 27 (0, 0)))) := (Below.refl _ _).alloc (Nat.le_refl _) _
  have HX := hid (CB.new (w := w) #[.slice a2 n1 c2, .slice a3 n2 c3] 27)
  have g1 : ¬ (1 : Int) + 2 * (n1 : Int) < 0 := by omega
  have g2 : ¬ (1 : Int) + 2 * (n1 : Int) + 4 * (n2 : Int) < 0 := by omega
  clear h2 h3
  go_enter Tryd.func31, Tryd.ntmps31
  go_wp2_with (first
    | (go_at_call 81; go_loud (refine (heldS2S_is a2 n1 c2 1 _ h (by omega) (by omega) (H2.out.below HBA.out)).mono ?_; rintro e w1 ⟨rfl, b1⟩; have X1 := HX.out.below b1 HX.out.lt; have k1 := (X1.cell 1).trans rfl; have HB1 : Hid (Below w.heap.size w w1) := bel_on HBA.out b1; clear b1 X1))
    | (go_at_call 82; go_loud (refine (heldP4S_is a3 n2 c3 _ _ hn (by omega) (by omega) (H3.out.below HB1.out)).mono ?_; rintro e w2 ⟨rfl, ew⟩; replace ew := ew.symm; subst ew)))
  go_returns
  exact ⟨rfl, HB1.out⟩
end Go.Proofs.YtdhpadcihlmhiaaDoor
