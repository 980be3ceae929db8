/- The laws' own functions over rows of whole numbers. What stands by while a law over a frame and a ledger is walked. -/
import Derived.Test.YtgnhpjlfdkpaiaaDoorTh
import Derived.Test.YtgnhpjlfdkpaiaaDoorTo
import Derived.Test.YtgnhpjlfdkpaiaaDoorHs
import Derived.WalkSpells
import Derived.Test.YtgnhpjlfdkpaiaaDoorB4
import Derived.Test.YtgnhpjlfdkpaiaaDoorLl
import Derived.Test.YtgnhpjlfdkpaiaaDoorGg
namespace Go.Proofs.YtgnhpjlfdkpaiaaDoor
open Go.ChangeShapes Go.WideShapes Go.ChangeAt Go.RowKit
set_option linter.unusedVariables false
set_option linter.unusedSimpArgs false

theorem row_below {w w' : World} {base : Nat} {e : TypeId} {size : Nat} {v : Value} {n : Nat} {xs : List Value} (h : w.ownsRow base e size v n xs) (k : Below w.heap.size w w') : w'.ownsRow base e size v n xs := row_block h (fun g hg => k.block g (h.lt g hg).2)
theorem row_IR {w : World} {base m cap : Nat} {ad : Option Addr} {xs : List Value} {z : Nat → Int} (h : w.ownsRow base 3 1 (.slice ad m cap) m xs) (hz : ∀ j, j < m → xs[j]? = some (.int .i64 (z j))) : IR w ad m z := by
  by_cases h0 : m = 0
  · exact .inl h0
  · obtain ⟨g, cp, e, hlt, _, hc⟩ := row_get h (j := 0) (by omega)
    simp only [Value.slice.injEq] at e
    refine .inr ⟨g, 0, e.1, hlt, fun j hj => ?_⟩
    rw [Nat.zero_add, hc j hj, hz j hj]
/-- A row of whole numbers in a block of the call's own, and what else is left. -/
theorem row_block_of {w : World} {base m : Nat} {v : Value} {xs : List Value} (h : w.ownsRow base 3 1 v m xs) (hm : 0 < m) : ∃ g cap cur, v = .slice (some ⟨g, 0, none⟩) m cap ∧ base ≤ g ∧ CB w g cur 3 ∧ m ≤ cur.size := by
  rcases h.2 with ⟨rfl, rfl⟩ | ⟨g, cap, cur, rfl, hb', hgg, h1, h2, h3, h4⟩
  · omega
  · exact ⟨g, cap, cur, rfl, hb', hgg, by omega⟩
set_option maxRecDepth 20000 in
set_option maxHeartbeats 2000000 in
theorem eqIntS_same (ad be : Option Addr) (len cap cap2 : Nat) (z : Nat → Int) (w : World) (h : (len : Int) ≤ 1048576) (h1 : IR w ad len z) (h2 : IR w be len z) :
    Calls Tryd.prog 48 #[.slice ad len cap, .slice be len cap2] w fun e w' => e = .returned (.bool true) ∧ Below w.heap.size w w' := by
  have H1 : Hid (IR w ad len z) := h1
  have H2 : Hid (IR w be len z) := h2
  clear h1 h2
  go_enter Tryd.func48, Tryd.ntmps48
  go_wp2
  go_loopw [5] (fun i wr => ∃ (k q : Nat), k ≤ len ∧ i = .int .i64 (k : Int) ∧ wr = w.drewN q) (fun i _ => len - (intOf i).toNat)
  case atStart => exact ⟨0, 0, Nat.zero_le _, rfl, rfl⟩
  case round =>
    obtain ⟨k, q, hk, rfl, rfl⟩ := hrel
    by_cases hlt : k < len
    · obtain ⟨kb, off, rfl, _⟩ := H1.out.addr (by omega)
      obtain ⟨kb2, off2, rfl, _⟩ := H2.out.addr (by omega)
      have c1 := H1.out.cell hlt
      have c2 := H2.out.cell hlt
      generalize z k = y at c1 c2
      have hlt2 : (k : Int) < (len : Int) := by omega
      go_wp2
      go_quiet (fail)
      go_wp2
      go_roundw
      case rel => exact ⟨k + 1, q + nq, by omega, by go_num, rfl⟩
      case measure => simp [intOf]; omega
    · go_wp2
      go_returns
      exact ⟨rfl, ⟨rfl, rfl, rfl, Nat.le_refl _, fun _ _ => rfl⟩⟩
set_option maxRecDepth 20000 in
set_option maxHeartbeats 2000000 in
theorem heldIntS_any (ad : Option Addr) (len cap : Nat) (w : World) (h : (len : Int) ≤ 1048576) (h1 : IR w ad len (fun j => (j : Int) + 1)) :
    Calls Tryd.prog 50 #[.slice ad len cap, .int .i64 1] w fun e w' => e = .returned (.int .i64 ((len : Int) + 1)) ∧ w' = w := by
  have H1 : Hid (IR w ad len (fun j => (j : Int) + 1)) := h1
  clear h1
  go_enter Tryd.func50, Tryd.ntmps50
  go_wp2
  go_loop [1, 5] (fun u i => ∃ (k : Nat), k ≤ len ∧ i = .int .i64 (k : Int) ∧ u = .int .i64 ((k : Int) + 1)) (fun u i => len - (intOf i).toNat)
  case atStart => exact ⟨0, Nat.zero_le _, rfl, rfl⟩
  case round =>
    obtain ⟨k, hk, rfl, rfl⟩ := hrel
    by_cases hlt : k < len
    · obtain ⟨kb, off, rfl, _⟩ := H1.out.addr (by omega)
      have c1 := H1.out.cell hlt
      have hlt2 : (k : Int) < (len : Int) := by omega
      go_wp2
      go_round
      case rel => exact ⟨k + 1, by omega, by go_num, by go_num⟩
      case measure => simp [intOf]; omega
    · obtain rfl : k = len := by omega
      go_wp2
      go_returns
      exact ⟨rfl, rfl⟩
set_option maxRecDepth 20000 in
set_option maxHeartbeats 2000000 in
theorem markIntS_any (ad : Option Addr) (len cap base : Nat) (xs : List Value) (w : World) (h : (len : Int) ≤ 1048576) (h1 : w.ownsRow base 3 1 (.slice ad len cap) len xs) :
    Calls Tryd.prog 49 #[.slice ad len cap, .int .i64 1] w fun e w' => e = .returned (.int .i64 ((len : Int) + 1)) ∧ IR w' ad len (fun j => (j : Int) + 1) ∧ (∀ y, y < w.heap.size → some y ≠ Value.ownBlock (.slice ad len cap) → w'.heap[y]? = w.heap[y]?) ∧ Below base w w' := by
  by_cases h0 : len = 0
  · subst h0
    go_enter Tryd.func49, Tryd.ntmps49
    go_wp2
    refine wp_loop_rounds 1 ?_
    rw [rounds_succ]
    go_wp2
    go_returns
    exact ⟨rfl, .inl rfl, fun _ _ _ => rfl, Below.refl _ _⟩
  obtain ⟨g, cp, cur, e, hbg, hC, hsz⟩ := row_block_of h1 (by omega)
  obtain ⟨rfl, rfl⟩ : ad = some ⟨g, 0, none⟩ ∧ cap = cp := by simp only [Value.slice.injEq] at e; exact ⟨e.1, e.2.2⟩
  have HC : Hid (CB w g cur 3) := hC
  clear hC e h1
  go_enter Tryd.func49, Tryd.ntmps49
  go_wp2
  go_loopw [1, 5] (fun u i wr => ∃ (k : Nat) (cs : Array Value), k ≤ len ∧ i = .int .i64 (k : Int) ∧ u = .int .i64 ((k : Int) + 1) ∧ CB wr g cs 3 ∧ len ≤ cs.size ∧ (∀ j, j < k → cs[j]? = some (.int .i64 ((j : Int) + 1))) ∧ (∀ y, y ≠ g → wr.heap[y]? = w.heap[y]?) ∧ Below base w wr) (fun u i _ => len - (intOf i).toNat)
  case atStart => exact ⟨0, cur, Nat.zero_le _, rfl, rfl, HC.out, hsz, fun j hj => by omega, fun y hy => rfl, Below.refl _ _⟩
  case round =>
    obtain ⟨k, cs, hk, rfl, rfl, hC, hs, hcs, hkeep, hB⟩ := hrel
    by_cases hlt : k < len
    · have hlt2 : (k : Int) < (len : Int) := by omega
      obtain ⟨v1, d1⟩ : ∃ v, cs[k]? = some v := ⟨cs[k]'(by omega), Array.getElem?_eq_getElem (by omega)⟩
      have x1 := (hC.cell k).trans d1
      have f1 := hC.fr k
      have HN : Hid (CB (wr.setCell ⟨g, k, none⟩ (.int .i64 ((k : Int) + 1))) g (cs.setIfInBounds k (.int .i64 ((k : Int) + 1))) 3 ∧ len ≤ (cs.setIfInBounds k (.int .i64 ((k : Int) + 1))).size ∧ (∀ j, j < k + 1 → (cs.setIfInBounds k (.int .i64 ((k : Int) + 1)))[j]? = some (.int .i64 ((j : Int) + 1))) ∧ (∀ y, y ≠ g → (wr.setCell ⟨g, k, none⟩ (.int .i64 ((k : Int) + 1))).heap[y]? = w.heap[y]?) ∧ Below base w (wr.setCell ⟨g, k, none⟩ (.int .i64 ((k : Int) + 1)))) := by
        refine ⟨hC.set _ _, by simpa using hs, fun j hj => ?_, fun y hy => (heap_set hy).trans (hkeep y hy), hB.setCell hbg _⟩
        by_cases e : j = k
        · subst e; rw [get_set_eq (by omega)]
        · rw [get_set_ne (by omega)]; exact hcs j (by omega)
      clear hC hs hcs hkeep hB d1
      go_wp2
      go_roundw
      case rel =>
        obtain ⟨z1, z2, z3, z4, z5⟩ := HN.out
        exact ⟨k + 1, _, by omega, by go_num, by go_num, z1, z2, z3, z4, z5⟩
      case measure => simp [intOf]; omega
    · obtain rfl : k = len := by omega
      have HN : Hid (IR wr (some ⟨g, 0, none⟩) k (fun j => (j : Int) + 1) ∧ (∀ y, y < w.heap.size → some y ≠ Value.ownBlock (.slice (some ⟨g, 0, none⟩) k cap) → wr.heap[y]? = w.heap[y]?) ∧ Below base w wr) :=
        ⟨IR.of_block hC k _ hcs, fun y _ hy => hkeep y (fun q => hy (by rw [q]; rfl)), hB⟩
      clear hC hs hcs hkeep hB
      go_wp2
      go_returns
      exact ⟨rfl, HN.out.1, HN.out.2.1, HN.out.2.2⟩
end Go.Proofs.YtgnhpjlfdkpaiaaDoor


namespace Go.Proofs.YtgnhpjlfdkpaiaaDoor
open Go.ChangeShapes Go.WideShapes Go.ChangeAt Go.RowKit
set_option linter.unusedVariables false
set_option linter.unusedSimpArgs false

/-- The law's two boxes, and what came in. -/
structure TB (w : World) (fa : Option Addr) (flen fcap : Nat) (fc : Nat → C3) (fd fu : Int) (ad : Option Addr) (len cap : Nat) (es : Nat → E4) (hd : Int) (W : World) : Prop where
  xf : CB W w.heap.size #[.slice fa flen fcap, .int .i64 fd, .int .i64 fu] 59
  xl : CB W (w.heap.size + 1) #[.slice ad len cap, .int .i64 hd] 74
  cr : CR W fa flen fc
  er : ER W ad len es
  bl : Below w.heap.size w W
section
variable {w W W' : World} {fa : Option Addr} {flen fcap : Nat} {fc : Nat → C3} {fd fu : Int} {ad : Option Addr} {len cap : Nat} {es : Nat → E4} {hd : Int}
theorem TB.below (h : TB w fa flen fcap fc fd fu ad len cap es hd W) (b : Below W.heap.size W W') : TB w fa flen fcap fc fd fu ad len cap es hd W' := ⟨h.xf.below b h.xf.lt, h.xl.below b h.xl.lt, h.cr.below b, h.er.below b, bel_on h.bl b⟩
theorem TB.alloc (h : TB w fa flen fcap fc fd fu ad len cap es hd W) (o : Obj) : TB w fa flen fcap fc fd fu ad len cap es hd (W.alloc o) := h.below ((Below.refl _ _).alloc (Nat.le_refl _) o)
theorem TB.drew (h : TB w fa flen fcap fc fd fu ad len cap es hd W) : TB w fa flen fcap fc fd fu ad len cap es hd W.drew := h.below (Below.refl _ _).drew
theorem CB.kr2 {lo hi b : Nat} {cs : Array Value} {t : TypeId} (h : CB W b cs t) (k : KR lo hi W W') (hb : b < lo ∨ hi ≤ b) : CB W' b cs t := by
  have := h.lt
  unfold CB at h ⊢; rw [k.block b this hb]; exact h
theorem KR.bel {lo hi B : Nat} (k : KR lo hi W W') (h : B ≤ lo) (hB : B ≤ W.heap.size) : Below B W W' := ⟨k.os, k.tape, k.output, k.size, fun j hj => k.block j (by omega) (by omega)⟩
theorem TB.kr {lo hi : Nat} (h : TB w fa flen fcap fc fd fu ad len cap es hd W) (k : KR lo hi W W') (hlo : w.heap.size + 2 ≤ lo) (hc : CR w fa flen fc) (he : ER w ad len es) : TB w fa flen fcap fc fd fu ad len cap es hd W' := by
  have b : Below w.heap.size w W' := h.bl.trans (k.bel (by omega) h.bl.size)
  exact ⟨h.xf.kr2 k (by omega), h.xl.kr2 k (by omega), hc.below b, he.below b, b⟩
theorem row_kr {lo hi base : Nat} {v : Value} {n : Nat} {xs : List Value} (h : W.ownsRow base 3 1 v n xs) (k : KR lo hi W W') (hb : ∀ g, v.ownBlock = some g → g < lo ∨ hi ≤ g) : W'.ownsRow base 3 1 v n xs := row_block h (fun g hg => k.block g (h.lt g hg).2 (hb g hg))
end
/-- The program's boxes and rows. -/
structure UB (fc : Nat → C3) (flen : Nat) (fd fu : Int) (es : Nat → E4) (len : Nat) (hd : Int) (p9 b9 p10 b10 lo hi : Nat) (cs9 : Array Value) (bo : Nat) (vo : Value) (bg : Nat) (vg : Value) (M : Nat) (xs : List Value) (W : World) : Prop where
  x9 : CB W p9 #[.slice (some ⟨b9, 0, none⟩) flen flen, .int .i64 fd, .int .i64 fu] 26
  x10 : CB W p10 #[.slice (some ⟨b10, 0, none⟩) len len, .int .i64 hd] 29
  c9 : CR W (some ⟨b9, 0, none⟩) flen fc
  k9 : CB W b9 cs9 182
  n10 : NewE lo hi W (some ⟨b10, 0, none⟩) len es 32 56
  o : W.ownsRow bo 3 1 vo M xs
  g : W.ownsRow bg 3 1 vg M xs
section
variable {fc : Nat → C3} {flen : Nat} {fd fu : Int} {es : Nat → E4} {len : Nat} {hd : Int} {p9 b9 p10 b10 lo hi : Nat} {cs9 : Array Value} {bo : Nat} {vo : Value} {bg : Nat} {vg : Value} {M : Nat} {xs : List Value} {W W' : World}
theorem UB.below (h : UB fc flen fd fu es len hd p9 b9 p10 b10 lo hi cs9 bo vo bg vg M xs W) (b : Below W.heap.size W W') : UB fc flen fd fu es len hd p9 b9 p10 b10 lo hi cs9 bo vo bg vg M xs W' :=
  ⟨h.x9.below b h.x9.lt, h.x10.below b h.x10.lt, h.c9.below b, h.k9.below b h.k9.lt, h.n10.below b, row_below h.o b, row_below h.g b⟩
theorem UB.drew (h : UB fc flen fd fu es len hd p9 b9 p10 b10 lo hi cs9 bo vo bg vg M xs W) : UB fc flen fd fu es len hd p9 b9 p10 b10 lo hi cs9 bo vo bg vg M xs W.drew := h.below (Below.refl _ _).drew
end
end Go.Proofs.YtgnhpjlfdkpaiaaDoor

