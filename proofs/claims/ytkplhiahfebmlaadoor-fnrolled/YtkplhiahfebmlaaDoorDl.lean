/- The draw of what Roll is asked for: a chart that may be spoilt, and a list. -/
import Derived.Test.YtkplhiahfebmlaaDoorDq
import Derived.Test.YtkplhiahfebmlaaDoorMk
import Derived.Test.YtkplhiahfebmlaaDoorNw
namespace Go.Proofs.YtkplhiahfebmlaaDoor
open Go.ChangeShapes Go.WideShapes Go.ChangeAt Go.RowKit
set_option linter.unusedVariables false
set_option linter.unusedSimpArgs false

def iv (l : List Int) : List Value := l.map (Value.int .i64)
theorem iv_snoc (l : List Int) (x : Int) : iv (l ++ [x]) = iv l ++ [.int .i64 x] := by simp [iv]

/-- The draw under way, with the list. -/
structure D2 (w : World) (b : Nat) (v : Value) (l : List C3) (u : Value) (m : Nat) (zs : List Int) (W : World) : Prop where
  d0 : D0 w b v l W
  row : W.ownsRow w.heap.size 3 1 u m (iv zs)
section
variable {w W W' : World} {b m : Nat} {v u : Value} {l : List C3} {zs : List Int}
theorem D2.moved (h : D2 w b v l u m zs W) (k : Moved b W W') : D2 w b v l u m zs W' :=
  ⟨h.d0.moved k, row_block h.row (fun g hg => k.2.block g (h.row.lt g hg).2 (by have := (h.row.lt g hg).1; have := h.d0.lo; omega))⟩
theorem D2.alloc (h : D2 w b v l u m zs W) (o : Obj) : D2 w b v l u m zs (W.alloc o) := ⟨h.d0.alloc o, h.row.alloc o⟩
theorem D2.grown (h : D2 w b v l u m zs W) {u' : Value} {m' : Nat} {zs' : List Int} (g : W.grownBy W' u.ownBlock) (hr : W'.ownsRow w.heap.size 3 1 u' m' (iv zs')) : D2 w b v l u' m' zs' W' := by
  have hlo := h.d0.lo
  refine ⟨⟨h.d0.cur.grown g (fun j hj => by have := (h.row.lt j hj).1; omega), h.d0.trn.grown g (fun j hj => (h.row.lt j hj).1), ?_, hlo⟩, hr⟩
  refine row_block h.d0.row (fun j hj => g.block j (h.d0.row.lt j hj).2 (fun e => ?_))
  obtain ⟨c1, e1⟩ := row_cells h.d0.row hj
  obtain ⟨c2, e2⟩ := row_cells h.row e.symm
  rw [e1] at e2
  simp at e2
end

def RollP (w : World) (e : Ending) (w' : World) : Prop :=
  ∃ (l : List C3) (ad : Option Addr) (cap m : Nat) (ai : Option Addr) (capi : Nat) (z : Nat → Int), e = .returned (.tuple #[.slice ad l.length cap, .slice ai m capi]) ∧ CR w' ad l.length (gl l) ∧ IR w' ai m z ∧ FewB l ∧ l.length ≤ 70 ∧ m ≤ 200 ∧ Below w.heap.size w w'

theorem D2.fin {w w1 W : World} {m : Nat} {ad ai : Option Addr} {cap capi : Nat} {l : List C3} {zs : List Int} (h : D2 w1 w.heap.size (.slice ad l.length cap) l (.slice ai m capi) m zs W) (hb : Below w.heap.size w w1) (hF : FewB l) (hl : l.length ≤ 70) (hm : m ≤ 200) : RollP w (.returned (.tuple #[.slice ad l.length cap, .slice ai m capi])) W := by
  obtain ⟨ad', cap', e, hcr⟩ := h.d0.cr
  simp only [Value.slice.injEq] at e
  have hlen : zs.length = m := by have := h.row.1; simpa [iv] using this
  refine ⟨l, ad, cap, m, ai, capi, fun j => zs.getD j 0, rfl, by rw [e.1]; exact hcr, row_IR h.row (fun j hj => ?_), hF, hl, hm, hb.trans (h.d0.trn.below (Nat.le_refl _) hb.size)⟩
  simp only [iv, List.getElem?_map, List.getD_eq_getElem?_getD]
  rw [List.getElem?_eq_getElem (by omega)]
  rfl

theorem IntRow.madeAt {w : World} {b n : Nat} (hb : b < w.heap.size) (hn : w.heap.size = n) (cs : Array Value) (t : TypeId) (zs : List Int) (hz : cs.toList = zs.map (Value.int .i64)) : IntRow (w.alloc (.cells cs t)) b (some ⟨n, 0, none⟩) zs := hn ▸ IntRow.made hb cs t zs hz

set_option maxRecDepth 20000 in
set_option maxHeartbeats 1000000 in
theorem drawRoll_any (a0 : Option Addr) (len0 cap0 : Nat) (w : World) (hl : len0 ≤ 9223372036854775000) (hr : ByteRow w w.heap.size a0 len0) :
    Calls Tryd.prog 12 #[.slice a0 len0 cap0] w (RollP w) := by
  have HN : Hid (Calls Tryd.prog 37 #[.slice a0 len0 cap0] w fun e w' => e = .returned (.pointer (some ⟨w.heap.size, 0, none⟩)) ∧ Cursor w' w.heap.size ∧ Below w.heap.size w w') := new_any a0 len0 cap0 w hl hr
  obtain ⟨b, hb⟩ : ∃ b, w.heap.size = b := ⟨_, rfl⟩
  rw [hb] at HN
  have HBB : Hid (w.heap.size = b) := hb
  obtain ⟨i0, hi, hz0, hz1, hz2⟩ := info3
  have tok1 : True := trivial
  clear hr hl hb
  go_enter Tryd.func12, Tryd.ntmps12
  go_wp2_with (first
    | (go_at_call 37; refine HN.out.mono ?_; rintro e w1 ⟨rfl, c1, b1⟩; have HC1 : Hid (Cursor w1 b) := c1; have HB1 : Hid (Below w.heap.size w w1) := (HBB.out ▸ b1); clear c1 b1)
    | (go_at_call 39; refine (drawChart_any b 10 w1 HC1.out (by omega)).mono ?_; rintro e w2 ⟨l0, ad0, cp0, rfl, d2, lo2, fe2, la2, lb2⟩; have HD2 : Hid (D0 w1 b (.slice ad0 l0.length cp0) l0 w2) := d2; have HF2 : Hid (FewB l0) := fe2; have HLA : Hid (1 ≤ l0.length) := la2; have HLB : Hid (l0.length ≤ 70) := lb2; clear d2 lo2 fe2 la2 lb2)
    | (go_at_call 38; refine (spoilChart_any b w1 w2 l0 ad0 cp0 HD2.out HF2.out HLA.out HLB.out).mono ?_; rintro e w3 ⟨l, ad, cap, rfl, d3, fe3, lb3⟩; have HD3 : Hid (D2 w1 b (.slice ad l.length cap) l (.slice (some ⟨w3.heap.size, 0, none⟩) 0 0) 0 [] (w3.alloc (.cells #[] 3 (0, 0)))) := ⟨d3.alloc _, row_lower (World.ownsRow_made (base := w3.heap.size) w3 #[] 0 (Nat.le_refl _) (Nat.zero_le _) rfl) d3.trn.size⟩; have HF3 : Hid (FewB l) := fe3; have hl70 : (l.length : Int) ≤ 70 := (by omega); clear d3 fe3 lb3)
    | (go_at_call 40; refine (spoil_any b _ _ [1, -1] 2 2 _ (HD3.out.alloc _).d0.cur (IntRow.madeAt (n := w3.heap.size + 1) (HD3.out.d0.cur.lt) (by simp) _ _ _ rfl) rfl (by decide) (by decide)).mono ?_; rintro e w4 ⟨x, rfl, hx, m4⟩; have HD4 : Hid (D2 w1 b (.slice ad l.length cap) l (.slice (some ⟨w3.heap.size, 0, none⟩) 0 0) 0 [] w4) := (HD3.out.alloc _).moved m4; have hx2 : -1 ≤ x ∧ x ≤ 1 := (by simp at hx; omega); clear m4 hx))
  go_loopw [6, 7] (fun u n wr => ∃ (m : Nat) (adv : Option Addr) (capv : Nat) (nn : Int) (zs : List Int), u = .slice adv m capv ∧ n = .int .i64 nn ∧ (m : Int) + nn ≤ 71 ∧ m ≤ 71 ∧ -1 ≤ nn ∧ nn ≤ 71 ∧ D2 w1 b (.slice ad l.length cap) l (.slice adv m capv) m zs wr) (fun u n _ => (intOf n + 1).toNat)
  case atStart => exact ⟨0, _, _, _, [], rfl, rfl, by omega, by omega, by omega, by omega, HD4.out⟩
  case round =>
    obtain ⟨m, adv, capv, nn, zs, rfl, rfl, h1, h2, h3, h4, hD⟩ := hrel
    have HD : Hid (D2 w1 b (.slice ad l.length cap) l (.slice adv m capv) m zs wr) := hD
    clear hD
    by_cases hn : 0 < nn
    · go_wp2_with (first
        | (go_at_call 41; refine (amount_any b wr HD.out.d0.cur).mono ?_; rintro e w5 ⟨y, rfl, m5⟩; have HD5 : Hid (D2 w1 b (.slice ad l.length cap) l (.slice adv m capv) m zs w5) := HD.out.moved m5; clear m5)
        | (go_at_call 40; refine (spoil_any b _ _ [1000000000000000, -1000000000000000, 1000000000000001, -1000000000000001] 4 4 _ (HD5.out.alloc _).d0.cur (IntRow.made (HD5.out.d0.cur.lt) _ _ _ rfl) rfl (by decide) (by decide)).mono ?_; rintro e w6 ⟨q, rfl, _, m6⟩; have HD6 : Hid (D2 w1 b (.slice ad l.length cap) l (.slice adv m capv) m zs w6) := (HD5.out.alloc _).moved m6; clear m6)
        | (at_builtin; refine wpList_append_own_at _ rfl _ _ 25 rfl w1.heap.size 3 i0 (.int .i64 0) 1 8 Tryd.underlying25 hi hz0 hz1 hz2 rfl (by decide) (.slice adv m capv) m (iv zs) rfl (HD6.out.row.alloc _) ⟨w6.heap.size, 0, none⟩ 1 1 [.int .i64 q] rfl rfl (cell_one_at rfl) (fun u hu => by simp at hu; subst hu; rfl) (by unfold maxLen; omega) (by omega) (by have := HD6.out.d0.trn.size; simp; omega) ?_; intro v' w9 hown9 hgrow9 _ hloc9; obtain ⟨ad9, cap9, rfl⟩ := row_form hown9; have HN9 : Hid (D2 w1 b (.slice ad l.length cap) l (.slice ad9 (m + 1) cap9) (m + 1) (zs ++ [q]) w9) := (HD6.out.alloc _).grown hgrow9 (by rw [iv_snoc]; exact hown9); clear hown9 hgrow9 hloc9))
      go_roundw
      case rel => exact ⟨m + 1, ad9, cap9, nn - 1, zs ++ [q], rfl, by go_num, by omega, by omega, by omega, by omega, HN9.out⟩
      case measure => simp [intOf]; omega
    · have HFin : Hid (RollP w (.returned (.tuple #[.slice ad l.length cap, .slice adv m capv])) wr) := by
        have hd := HD.out
        rw [← HBB.out] at hd
        exact hd.fin HB1.out HF3.out (by omega) (by omega)
      go_wp2
      go_returns
      exact HFin.out

end Go.Proofs.YtkplhiahfebmlaaDoor
