/- Orders that are spoilt: l12SpoilOrder. -/
import Derived.Test.YtghphlnpginmhaaXt
namespace Go.Proofs.Ytghphlnpginmhaa
open Go Go.ChangeShapes Go.WideShapes Go.ChangeAt Go.RowKit
set_option linter.unusedVariables false
set_option linter.unusedSimpArgs false

/-- All blocks but b and g are as they were. -/
def Kp (b g : Nat) (W W' : World) : Prop := W.heap.size ≤ W'.heap.size ∧ ∀ k, k < W.heap.size → k ≠ b → k ≠ g → W'.heap[k]? = W.heap[k]?
theorem Kp.refl (b g : Nat) (W : World) : Kp b g W W := ⟨Nat.le_refl _, fun _ _ _ _ => rfl⟩
theorem Kp.alloc {b g : Nat} {W V : World} (h : Kp b g W V) (o : Obj) : Kp b g W (V.alloc o) :=
  ⟨by simp; have := h.1; omega, fun k hk hb hg => (((Below.refl V.heap.size V).alloc (Nat.le_refl _) o).block k (by have := h.1; omega)).trans (h.2 k hk hb hg)⟩
theorem Kp.moved {b g : Nat} {W V V' : World} (h : Kp b g W V) (m : Moved b V V') : Kp b g W V' :=
  ⟨Nat.le_trans h.1 m.2.size, fun k hk hb hg => (m.2.block k (by have := h.1; omega) hb).trans (h.2 k hk hb hg)⟩
theorem Kp.set {b g : Nat} {W V : World} (h : Kp b g W V) (o : Nat) (u : Value) : Kp b g W (V.setCell ⟨g, o, none⟩ u) :=
  ⟨by simpa using h.1, fun k hk hb hg => (Below.heap_setCell _ _ _ _ (by show k ≠ g; exact hg)).trans (h.2 k hk hb hg)⟩
/-- What spoiling leaves. -/
def SpP (b : Nat) (w : World) (g : Nat) (W : World) (e : Ending) (W' : World) : Prop := ∃ (a n oc : Nat) (c : Nat → OL3), e = .returned (.slice (some ⟨a, 0, none⟩) n oc) ∧ n ≤ 4 ∧ (∀ j, (c j).item.size ≤ 40) ∧ OLr W' (some ⟨a, 0, none⟩) n c ∧ b < a ∧ a < W'.heap.size ∧ Moved b w W' ∧ Kp b g W W'
theorem sp_of {b : Nat} {w : World} {base g n oc : Nat} {c : Nat → OL3} {W W' : World} (h : DXOL3 b w base g n oc c W') (k : Kp b g W W') (hn : n ≤ 4) (hs : ∀ j, (c j).item.size ≤ 40) : SpP b w g W (.returned (.slice (some ⟨g, 0, none⟩) n oc)) W' :=
  ⟨g, n, oc, c, rfl, hn, hs, h.row, by have := h.gge.1; have := h.bb; omega, h.gge.2, h.mv, k⟩
theorem sp_none {b : Nat} {w : World} {base g n oc : Nat} {c : Nat → OL3} {W W' : World} (h : DXOL3 b w base g n oc c W') (k : Kp b g W W') (o : Obj) : SpP b w g W (.returned (.slice (some ⟨W'.heap.size, 0, none⟩) 0 0)) (W'.alloc o) :=
  ⟨W'.heap.size, 0, 0, fun _ => ⟨ByteArray.empty, 0, 0⟩, rfl, by omega, fun _ => Nat.zero_le _, .inl rfl, by have := h.cur.lt; omega, by simp, ⟨h.cur.alloc _, h.trn.alloc _⟩, k.alloc _⟩
set_option maxRecDepth 20000 in
set_option maxHeartbeats 8000000 in
theorem spoilOrder_any (b : Nat) (w : World) (base g n oc : Nat) (c : Nat → OL3) (W : World) (h : DXOL3 b w base g n oc c W) (hn : 1 ≤ n ∧ n ≤ 4) (ho : OrD c) :
    Calls Try.prog 76 #[.pointer (some ⟨b, 0, none⟩), .slice (some ⟨g, 0, none⟩) n oc] W (SpP b w g W) := by
  have RR : Hid (DXOL3 b w base g n oc c W) := h
  have KK : Hid (Kp b g W W) := Kp.refl _ _ _
  have HO : Hid (∀ j, (c j).item.size ≤ 40) := fun j => (ho j).1
  have hn4 : (n : Int) ≤ 4 := by omega
  have hn1 : (1 : Int) ≤ (n : Int) := by omega
  have HN : Hid (n ≤ 4) := hn.2
  have tk0 : True := trivial
  have tkY : True := trivial
  clear h ho hn
  go_enter Try.func76, Try.ntmps76
  go_wp2_with (first
    | (go_at_call 74; refine (once_any b _ _ RR.out.cur).mono ?_; rintro e w4 ⟨x, rfl, m4⟩; replace RR := hid (RR.out.moved m4); replace KK := hid (KK.out.moved m4); clear m4; cases x)
    | (go_at_call 59; clear tk0; refine (below_any b _ _ RR.out.cur).mono ?_; rintro e w7 ⟨x, rfl, x0, x1, _, m7⟩; obtain ⟨j, rfl, hj⟩ := nat_of x0 (x1 (by omega)); have hj2 : (j : Int) < (n : Int) := (by omega); replace RR := hid (RR.out.moved m7); replace KK := hid (KK.out.moved m7); clear m7 x1)
    | (go_at_call 59; clear tkY; refine (below_any b _ _ RR.out.cur).mono ?_; rintro e w8 ⟨x, rfl, x0, x1, _, m7⟩; replace RR := hid (RR.out.moved m7); replace KK := hid (KK.out.moved m7); rcases (show x = 0 ∨ x = 1 ∨ x = 2 ∨ x = 3 by have := x1 (by decide); omega) with rfl | rfl | rfl | rfl; (have tk1 : True := trivial); rotate_left; (have tk2 : True := trivial); rotate_left; (have tk3 : True := trivial); rotate_left; rotate_left; all_goals clear m7 x1 x0)
    | (go_at_call 119; clear tk1; refine (anyName_any b _ RR.out.cur).mono ?_; rintro e w5 ⟨⟨s, rfl, hs⟩, m5⟩; have HS : Hid (s.size ≤ 40) := hs; have KK2 := hid (KK.out.moved m5); have RR2 := hid (RR.out.moved m5); have c0 := RR2.out.row.cell hj; simp only [Nat.zero_add] at c0; obtain ⟨e0, e1, e2⟩ := c0; have f0 := RR2.out.fr (j * 3); have RR3 := hid (RR2.out.put0 hj s); have KK3 := hid (KK2.out.set (j * 3) (.string s)); clear m5 hs)
    | (go_at_call 75; clear tk2; refine (pick_any b _ [0, 1000000, 1000001] _ _ _ (RR.out.alloc _).cur (IntRow.madeAt rfl RR.out.cur.lt _ _ _ rfl) rfl (by decide) (by decide)).mono ?_; rintro e w5 ⟨v, rfl, hv, m5⟩; have KK2 := hid ((KK.out.alloc _).moved m5); have RR2 := hid ((RR.out.alloc _).moved m5); have c0 := RR2.out.row.cell hj; simp only [Nat.zero_add] at c0; obtain ⟨e0, e1, e2⟩ := c0; have f1 := RR2.out.fr (j * 3 + 1); have RR3 := hid (RR2.out.put1 hj v); have KK3 := hid (KK2.out.set (j * 3 + 1) (.int .i64 v)); clear m5 hv)
    | (go_at_call 75; clear tk3; refine (pick_any b _ [-1, 100000, 100001] _ _ _ (RR.out.alloc _).cur (IntRow.madeAt rfl RR.out.cur.lt _ _ _ rfl) rfl (by decide) (by decide)).mono ?_; rintro e w5 ⟨v, rfl, hv, m5⟩; have KK2 := hid ((KK.out.alloc _).moved m5); have RR2 := hid ((RR.out.alloc _).moved m5); have c0 := RR2.out.row.cell hj; simp only [Nat.zero_add] at c0; obtain ⟨e0, e1, e2⟩ := c0; have f2 := RR2.out.fr (j * 3 + 2); have RR3 := hid (RR2.out.put2 hj v); have KK3 := hid (KK2.out.set (j * 3 + 2) (.int .i64 v)); clear m5 hv))
  · go_returns
    exact sp_of RR.out KK.out HN.out HO.out
  · go_returns
    exact sp_of RR3.out KK3.out HN.out (fun i => by split; exact HS.out; exact HO.out i)
  · go_returns
    exact sp_of RR3.out KK3.out HN.out (fun i => by split <;> exact HO.out i)
  · go_returns
    exact sp_of RR3.out KK3.out HN.out (fun i => by split <;> exact HO.out i)
  · go_returns
    exact sp_none RR.out KK.out _
end Go.Proofs.Ytghphlnpginmhaa
