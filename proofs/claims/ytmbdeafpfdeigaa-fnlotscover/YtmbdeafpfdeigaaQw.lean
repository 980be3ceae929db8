/- Draws of lots and what is missing. -/
import Derived.Test.YtmbdeafpfdeigaaDc
import Derived.Test.YtmbdeafpfdeigaaIn
import Derived.Test.YtmbdeafpfdeigaaXo
import Derived.Deep.QuietTactic
import Derived.BigQuiet
namespace Go.Proofs.Ytmbdeafpfdeigaa
open Go Go.ChangeShapes Go.WideShapes Go.ChangeAt Go.RowKit
set_option linter.unusedVariables false
set_option linter.unusedSimpArgs false

/-- A row of numbers of its own beside the cursor. -/
structure LX (b : Nat) (w1 : World) (v : Value) (k : Nat) (z : Nat → Int) (W : World) : Prop where
  m : Moved b w1 W
  p : W.ownsRow w1.heap.size 3 1 v k (intR z k)
  lo : b < w1.heap.size
section
variable {b : Nat} {w1 W W' : World} {v : Value} {k : Nat} {z : Nat → Int}
theorem LX.turn (h : LX b w1 v k z W) (m : Moved b W W') : LX b w1 v k z W' := by
  have := h.lo
  refine ⟨h.m.trans m, arow_block h.p (fun g hg => ?_), h.lo⟩
  obtain ⟨g1, g2⟩ := h.p.lt g hg
  exact m.2.block g g2 (by omega)
theorem LX.alloc (h : LX b w1 v k z W) (o : Obj) : LX b w1 v k z (W.alloc o) := h.turn ((Moved.refl h.m.1).alloc o)
theorem LX.grow (h : LX b w1 v k z W) {v' : Value} {x : Int} (hgr : W.grownBy W' v.ownBlock) (hown : W'.ownsRow w1.heap.size 3 1 v' (k + 1) (intR z k ++ [.int .i64 x])) : LX b w1 v' (k + 1) (fun j => if j = k then x else z j) W' := by
  refine ⟨h.m.grown h.lo hgr (fun g e => (h.p.lt g e).1), ?_, h.lo⟩
  have e : intR (fun j => if j = k then x else z j) (k + 1) = intR z k ++ [.int .i64 x] := by
    simp only [intR, if_true]
    rw [intR_congr (d := z) (fun j hj => by simp; omega)]
  rw [e]; exact hown
end
/-- What l18DrawList leaves. -/
def LiP (b : Nat) (w : World) (e : Ending) (w' : World) : Prop := ∃ (a : Option Addr) (n cp : Nat) (z : Nat → Int), e = .returned (.slice a n cp) ∧ n ≤ 60 ∧ n ≤ cp ∧ w'.ownsRow w.heap.size 3 1 (.slice a n cp) n (intR z n) ∧ Moved b w w'
theorem own_cap {W : World} {base n s cp : Nat} {t : TypeId} {a : Option Addr} {xs : List Value} (h : W.ownsRow base t s (.slice a n cp) n xs) : n ≤ cp := by
  rcases h.2 with ⟨e, e2⟩ | ⟨g, cap, cur, e, _, _, h3, _⟩
  · omega
  · simp only [Value.slice.injEq] at e
    omega
theorem LiP.of {b : Nat} {w W : World} {a : Option Addr} {n cp : Nat} {z : Nat → Int} (h : LX b w (.slice a n cp) n z W) (hn : n ≤ 60) : LiP b w (.returned (.slice a n cp)) W :=
  ⟨a, n, cp, z, rfl, hn, own_cap h.p, h.p, h.m⟩
set_option maxRecDepth 20000 in
set_option maxHeartbeats 4000000 in
theorem drawList_any (b : Nat) (q0 : Int) (w : World) (hc : Cursor w b) (h1 : q0 ≤ 60) :
    Calls Try.prog 80 #[.pointer (some ⟨b, 0, none⟩), .int .i64 q0] w (LiP b w) := by
  have HP0 : Hid (LX b w (.slice (some ⟨w.heap.size, 0, none⟩) 0 0) 0 (fun _ => 0) (w.alloc (.cells #[] 3 (0, 0)))) := hid ⟨(Moved.refl hc).alloc _, ⟨rfl, .inr ⟨w.heap.size, 0, #[], rfl, Nat.le_refl _, CB.new _ _, by omega, by unfold maxLen; omega, rfl, rfl⟩⟩, hc.lt⟩
  obtain ⟨i0, hi, hz0, hz1, hz2⟩ := info3
  have HLQ : Hid (q0 ≤ 60) := h1
  clear hc
  go_enter Try.func80, Try.ntmps80
  go_wp2
  go_loopw [1, 5] (fun u v wr => ∃ (k : Nat) (q : Int) (z : Nat → Int), (k : Int) + q ≤ 60 ∧ k ≤ 60 ∧ (k = 0 ∨ 0 ≤ q) ∧ u = .int .i64 q ∧ Hid (LX b w v k z wr)) (fun u _ _ => (intOf u).toNat)
  case atStart => exact ⟨0, _, fun _ => 0, by have := HLQ.out; omega, by omega, .inl rfl, rfl, HP0⟩
  case round =>
    clear HP0
    obtain ⟨k, q, z, hkq, hk60, hkk, rfl, HH⟩ := hrel
    obtain ⟨pa, pc, rfl⟩ := own_form HH.out.p
    by_cases h0 : 0 < q
    · have hwq : IntKind.i64.wrap (q - 1) = q - 1 := IntWalk.i64_in _ ⟨by omega, by omega⟩
      go_wp2_with (first
        | (go_at_call 60; refine (below_any b _ _ HH.out.m.1).mono ?_; rintro e w5 ⟨x5, rfl, x50, x51, _, m5⟩; have H5 := hid (HH.out.turn m5); clear m5 x51)
        | (go_at_call 78; refine (once_any b _ _ H5.out.m.1).mono ?_; rintro e w6 ⟨vb, rfl, m6⟩; replace H5 := hid (H5.out.turn m6); clear m6; cases vb)
        | (go_at_call 61; (first
            | (refine (spoil_any b _ _ [x5, x5, x5, x5, -1, 1000000, 1000001] _ _ _ (H5.out.alloc _).m.1 (IntRow.made H5.out.m.1.lt _ _ _ rfl) rfl (by simp) (by simp)).mono ?_)
            | (refine (spoil_any b _ _ [0, 0, 0, 0, -1, 1000000, 1000001] _ _ _ (H5.out.alloc _).m.1 (IntRow.made H5.out.m.1.lt _ _ _ rfl) rfl (by simp) (by simp)).mono ?_)); rintro e w7 ⟨x6, rfl, hx6, m6⟩; have H6 := hid ((H5.out.alloc _).turn m6); clear m6 hx6 H5)
        | (at_builtin; go_loud (refine wpList_append_own_at _ rfl _ _ 24 rfl w.heap.size 3 i0 (.int .i64 0) 1 8 Try.underlying24 hi hz0 hz1 hz2 rfl (by decide) (.slice pa k pc) k (intR z k) rfl (H6.out.alloc _).p ⟨w7.heap.size, 0, none⟩ 1 1 [.int .i64 x6] rfl rfl (ocells_at rfl) (fun u hu => by simp at hu; subst hu; rfl) (by unfold maxLen; omega) (by omega) (by have := (H6.out.alloc (.cells #[.int .i64 x6] 3 (0, 0))).m.2.size; exact this) ?_); intro v9 w9 hown hgrow hnil hat; obtain ⟨pa9, pc9, rfl⟩ := own_form hown; have H9 : Hid (LX b w (.slice pa9 (k + 1) pc9) (k + 1) (fun j => if j = k then x6 else z j) w9) := hid ((H6.out.alloc _).grow hgrow hown); clear hown hgrow hnil hat))
      all_goals go_roundw
      all_goals first
        | exact ⟨k + 1, q - 1, _, by omega, by omega, by omega, rfl, H9⟩
        | (simp [intOf]; omega)
    · go_wp2
      go_returns
      exact LiP.of HH.out (by omega)
/-- What l18DrawLots leaves. -/
def LtP (b : Nat) (w : World) (e : Ending) (w' : World) : Prop := ∃ lk lz lu lh : Int, e = .returned (.agg #[.int .i64 lk, .int .i64 lz, .int .i64 lu, .int .i64 lh]) ∧ Moved b w w'
theorem LtP.of {b : Nat} {w w' : World} (lk lz lu lh : Int) (m : Moved b w w') : LtP b w (.returned (.agg #[.int .i64 lk, .int .i64 lz, .int .i64 lu, .int .i64 lh])) w' := ⟨lk, lz, lu, lh, rfl, m⟩
set_option maxRecDepth 20000 in
set_option maxHeartbeats 4000000 in
theorem drawLots_any (b : Nat) (w : World) (hc : Cursor w b) :
    Calls Try.prog 77 #[.pointer (some ⟨b, 0, none⟩)] w (LtP b w) := by
  have hlt := hc.lt
  have HLT : Hid (b < w.heap.size) := hid hlt
  have HM : Hid (Moved b w (w.alloc (.cells #[.int .i64 0, .int .i64 0, .int .i64 0, .int .i64 0] 48 (0, 0))) ∧ CB (w.alloc (.cells #[.int .i64 0, .int .i64 0, .int .i64 0, .int .i64 0] 48 (0, 0))) w.heap.size #[.int .i64 0, .int .i64 0, .int .i64 0, .int .i64 0] 48) := hid ⟨(Moved.refl hc).alloc _, CB.new _ _⟩
  clear hc
  have tb0 : True := trivial
  have ts0 : True := trivial
  have tb1 : True := trivial
  have ts1 : True := trivial
  have tb2 : True := trivial
  have ts2 : True := trivial
  have tb3 : True := trivial
  have ts3 : True := trivial
  go_enter Try.func77, Try.ntmps77
  go_wp2_with (first
    | (go_at_call 60; clear tb0; refine (below_any b _ _ HM.out.1.1).mono ?_; rintro e v0 ⟨x0, rfl, xa0, xb0, _, m⟩; replace xb0 := xb0 (by decide); replace HM := hid (And.intro (HM.out.1.trans m) (HM.out.2.turns m.2 (by have := HLT.out; omega))); have hw0 : IntKind.i64.wrap (1 + x0) = 1 + x0 := IntWalk.i64_in _ ⟨by omega, by omega⟩; clear m)
    | (go_at_call 61; clear ts0; refine (spoil_any b _ _ [0, 5] _ _ _ (HM.out.1.1.alloc _) (IntRow.made HM.out.1.1.lt _ _ _ rfl) rfl (by decide) (by decide)).mono ?_; rintro e y0 ⟨z0, rfl, _, m⟩; replace HM := hid (And.intro ((HM.out.1.alloc _).trans m) ((HM.out.2.alloc _).turns m.2 (by have := HLT.out; omega))); clear m)
    | (go_at_call 60; clear tb1; refine (below_any b _ _ HM.out.1.1).mono ?_; rintro e v1 ⟨x1, rfl, xa1, xb1, _, m⟩; replace xb1 := xb1 (by decide); replace HM := hid (And.intro (HM.out.1.trans m) (HM.out.2.turns m.2 (by have := HLT.out; omega))); have hw1 : IntKind.i64.wrap (1 + x1) = 1 + x1 := IntWalk.i64_in _ ⟨by omega, by omega⟩; clear m)
    | (go_at_call 61; clear ts1; refine (spoil_any b _ _ [0, 1000000, 1000001] _ _ _ (HM.out.1.1.alloc _) (IntRow.made HM.out.1.1.lt _ _ _ rfl) rfl (by decide) (by decide)).mono ?_; rintro e y1 ⟨z1, rfl, _, m⟩; replace HM := hid (And.intro ((HM.out.1.alloc _).trans m) ((HM.out.2.alloc _).turns m.2 (by have := HLT.out; omega))); clear m)
    | (go_at_call 60; clear tb2; refine (below_any b _ _ HM.out.1.1).mono ?_; rintro e v2 ⟨x2, rfl, xa2, xb2, _, m⟩; replace xb2 := xb2 (by decide); replace HM := hid (And.intro (HM.out.1.trans m) (HM.out.2.turns m.2 (by have := HLT.out; omega))); have hw2 : IntKind.i64.wrap (1 + x2) = 1 + x2 := IntWalk.i64_in _ ⟨by omega, by omega⟩; clear m)
    | (go_at_call 61; clear ts2; refine (spoil_any b _ _ [-1, 10000000, 10000001] _ _ _ (HM.out.1.1.alloc _) (IntRow.made HM.out.1.1.lt _ _ _ rfl) rfl (by decide) (by decide)).mono ?_; rintro e y2 ⟨z2, rfl, _, m⟩; replace HM := hid (And.intro ((HM.out.1.alloc _).trans m) ((HM.out.2.alloc _).turns m.2 (by have := HLT.out; omega))); clear m)
    | (go_at_call 60; clear tb3; refine (below_any b _ _ HM.out.1.1).mono ?_; rintro e v3 ⟨x3, rfl, xa3, xb3, _, m⟩; replace xb3 := xb3 (by decide); replace HM := hid (And.intro (HM.out.1.trans m) (HM.out.2.turns m.2 (by have := HLT.out; omega))); have hw3 : IntKind.i64.wrap (1 + x3) = 1 + x3 := IntWalk.i64_in _ ⟨by omega, by omega⟩; clear m)
    | (go_at_call 61; clear ts3; refine (spoil_any b _ _ [-1, 1000, 1001] _ _ _ (HM.out.1.1.alloc _) (IntRow.made HM.out.1.1.lt _ _ _ rfl) rfl (by decide) (by decide)).mono ?_; rintro e y3 ⟨z3, rfl, _, m⟩; replace HM := hid (And.intro ((HM.out.1.alloc _).trans m) ((HM.out.2.alloc _).turns m.2 (by have := HLT.out; omega))); clear m; have r0 : y3.cell? ⟨w.heap.size, 0, none⟩ = some (.int .i64 0) := (HM.out.2.cell 0).trans rfl; have r1 : y3.cell? ⟨w.heap.size, 1, none⟩ = some (.int .i64 0) := (HM.out.2.cell 1).trans rfl; have r2 : y3.cell? ⟨w.heap.size, 2, none⟩ = some (.int .i64 0) := (HM.out.2.cell 2).trans rfl; have r3 : y3.cell? ⟨w.heap.size, 3, none⟩ = some (.int .i64 0) := (HM.out.2.cell 3).trans rfl; have f0 := HM.out.2.fr 0; have f1 := HM.out.2.fr 1; have f2 := HM.out.2.fr 2; have f3 := HM.out.2.fr 3))
  have HF : Hid (CB ((((y3.setCell ⟨w.heap.size, 0, none⟩ (.int .i64 z0)).setCell ⟨w.heap.size, 1, none⟩ (.int .i64 z1)).setCell ⟨w.heap.size, 2, none⟩ (.int .i64 z2)).setCell ⟨w.heap.size, 3, none⟩ (.int .i64 z3)) w.heap.size #[.int .i64 z0, .int .i64 z1, .int .i64 z2, .int .i64 z3] 48 ∧ Moved b w ((((y3.setCell ⟨w.heap.size, 0, none⟩ (.int .i64 z0)).setCell ⟨w.heap.size, 1, none⟩ (.int .i64 z1)).setCell ⟨w.heap.size, 2, none⟩ (.int .i64 z2)).setCell ⟨w.heap.size, 3, none⟩ (.int .i64 z3))) := hid ⟨(((HM.out.2.set 0 _).set 1 _).set 2 _).set 3 _, (((HM.out.1.setHigh HLT.out (Nat.le_refl _) 0 _).setHigh HLT.out (Nat.le_refl _) 1 _).setHigh HLT.out (Nat.le_refl _) 2 _).setHigh HLT.out (Nat.le_refl _) 3 _⟩
  generalize (((y3.setCell ⟨w.heap.size, 0, none⟩ (.int .i64 z0)).setCell ⟨w.heap.size, 1, none⟩ (.int .i64 z1)).setCell ⟨w.heap.size, 2, none⟩ (.int .i64 z2)).setCell ⟨w.heap.size, 3, none⟩ (.int .i64 z3) = W4 at HF ⊢
  have s0 : W4.cell? ⟨w.heap.size, 0, none⟩ = some (.int .i64 z0) := (HF.out.1.cell 0).trans rfl
  have s1 : W4.cell? ⟨w.heap.size, 1, none⟩ = some (.int .i64 z1) := (HF.out.1.cell 1).trans rfl
  have s2 : W4.cell? ⟨w.heap.size, 2, none⟩ = some (.int .i64 z2) := (HF.out.1.cell 2).trans rfl
  have s3 : W4.cell? ⟨w.heap.size, 3, none⟩ = some (.int .i64 z3) := (HF.out.1.cell 3).trans rfl
  refine bodyPost_ret (v := .agg #[.int .i64 z0, .int .i64 z1, .int .i64 z2, .int .i64 z3]) (by simp [results, Try.results77, go_sem, s0, s1, s2, s3]; try rfl) rfl ?_
  exact LtP.of _ _ _ _ HF.out.2
/-- What stands while the lots and what is missing are drawn. -/
structure TX (b : Nat) (w1 : World) (rb lb : Nat) (cs : Array Value) (W : World) : Prop where
  m : Moved b w1 W
  l : CB W lb cs 48
  r : CB W rb #[.int .i64 0, .int .i64 0, .int .i64 0, .int .i64 0] 48
  ne : lb ≠ b ∧ rb ≠ b
theorem TX.turn {b : Nat} {w1 : World} {rb lb : Nat} {cs : Array Value} {W W' : World} (h : TX b w1 rb lb cs W) (m : Moved b W W') : TX b w1 rb lb cs W' := ⟨h.m.trans m, h.l.turns m.2 h.ne.1, h.r.turns m.2 h.ne.2, h.ne⟩
theorem TX.alloc {b : Nat} {w1 : World} {rb lb : Nat} {cs : Array Value} {W : World} (h : TX b w1 rb lb cs W) (o : Obj) : TX b w1 rb lb cs (W.alloc o) := h.turn ((Moved.refl h.m.1).alloc o)
/-- What DrawLotsOf leaves. -/
def LoP (w : World) (e : Ending) (w' : World) : Prop := ∃ (lk lz lu lh : Int) (a : Option Addr) (n cp : Nat) (z : Nat → Int), e = .returned (.tuple #[.agg #[.int .i64 lk, .int .i64 lz, .int .i64 lu, .int .i64 lh], .slice a n cp]) ∧ n ≤ 60 ∧ n ≤ cp ∧ IR w' a n z ∧ Below w.heap.size w w'
set_option maxRecDepth 20000 in
set_option maxHeartbeats 4000000 in
theorem drawLotsOf_any (ad : Option Addr) (len cap : Nat) (w : World) (hl : (len : Int) ≤ 1048576) (hr : ByteRow w w.heap.size ad len) :
    Calls Try.prog 33 #[.slice ad len cap] w (LoP w) := by
  have hr0 : ByteRow (w.alloc (.cells #[.int .i64 0, .int .i64 0, .int .i64 0, .int .i64 0] 48 (0, 0))) (w.heap.size + 1) ad len := by
    rcases hr with h | ⟨k, off, e, hb, hk, hc⟩
    · exact .inl h
    · refine .inr ⟨k, off, e, by omega, by simp; omega, fun j hj => ?_⟩
      obtain ⟨c, g1, g2, g3⟩ := hc j hj
      exact ⟨c, g1, g2, (World.cell?_of_block (((Below.refl w.heap.size w).alloc (Nat.le_refl _) _).block k hk)).trans g3⟩
  have HN : Hid (Calls Try.prog 52 #[.slice ad len cap] (w.alloc (.cells #[.int .i64 0, .int .i64 0, .int .i64 0, .int .i64 0] 48 (0, 0))) fun e w' => e = .returned (.pointer (some ⟨w.heap.size + 1, 0, none⟩)) ∧ Cursor w' (w.heap.size + 1) ∧ Below (w.heap.size + 1) (w.alloc (.cells #[.int .i64 0, .int .i64 0, .int .i64 0, .int .i64 0] 48 (0, 0))) w') := hid (by
    have := new_any ad len cap (w.alloc (.cells #[.int .i64 0, .int .i64 0, .int .i64 0, .int .i64 0] 48 (0, 0))) (by omega) (by simpa using hr0)
    simpa using this)
  have HC0 : Hid (CB (w.alloc (.cells #[.int .i64 0, .int .i64 0, .int .i64 0, .int .i64 0] 48 (0, 0))) w.heap.size #[.int .i64 0, .int .i64 0, .int .i64 0, .int .i64 0] 48) := hid (CB.new _ _)
  clear hr hr0
  have tk1 : True := trivial
  go_enter Try.func33, Try.ntmps33
  go_wp2_with (first
    | (go_at_call 52; refine HN.out.mono ?_; rintro e w1 ⟨rfl, c1, b1⟩; have HM : Hid (Moved (w.heap.size + 1) w1 w1 ∧ Below w.heap.size w w1 ∧ CB w1 w.heap.size #[.int .i64 0, .int .i64 0, .int .i64 0, .int .i64 0] 48 ∧ w.heap.size + 1 < w1.heap.size) := hid ⟨Moved.refl c1, ((Below.refl _ _).alloc (Nat.le_refl _) _).trans (b1.mono (by omega)), HC0.out.below b1 (by omega), c1.lt⟩; clear c1 b1)
    | (go_at_call 77; refine (drawLots_any _ _ HM.out.1.1).mono ?_; rintro e w2 ⟨lk, lz, lu, lh, rfl, m⟩; have HB : Hid (TX (w.heap.size + 1) w1 w.heap.size w2.heap.size #[.int .i64 lk, .int .i64 lz, .int .i64 lu, .int .i64 lh] (w2.alloc (.cells #[.int .i64 lk, .int .i64 lz, .int .i64 lu, .int .i64 lh] 48 (0, 0)))) := hid ⟨m.alloc _, CB.new _ _, (HM.out.2.2.1.turns m.2 (by omega)).alloc _, by have := HM.out.2.2.2; have := m.2.size; omega⟩; clear m)
    | (go_at_call 68; go_loud (refine (size_any _ _ _ _ _ hl (by omega)).mono ?_; rintro e wq ⟨s, rfl, s0, s1, ew⟩; replace ew := ew.symm; subst ew))
    | (go_at_call 60; go_loud (refine (below_any _ _ _ HB.out.m.1).mono ?_; rintro e w3 ⟨x3, rfl, x30, x31, _, m⟩; replace x31 := x31 (by omega); replace HB := hid (HB.out.turn m); clear m))
    | (go_at_call 78; refine (once_any _ _ _ HB.out.m.1).mono ?_; rintro e w4 ⟨vb, rfl, m⟩; replace HB := hid (HB.out.turn m); clear m; cases vb)
    | (go_at_call 79; refine (pick_any _ _ [40, 41] _ _ _ (HB.out.m.1.alloc _) (IntRow.made HB.out.m.1.lt _ _ _ rfl) rfl (by decide) (by decide)).mono ?_; rintro e w5 ⟨x3, rfl, hx3, m⟩; have x31 : x3 < 60 := (by simp at hx3; omega); replace HB := hid ((HB.out.alloc _).turn m); clear m hx3))
  · obtain ⟨lb, hlb⟩ : ∃ x, w2.heap.size = x := ⟨_, rfl⟩
    rw [hlb] at HB ⊢
    clear hlb
    have c0 : w4.drew.cell? ⟨lb, 0, none⟩ = some (.int .i64 lk) := (HB.out.l.cell 0).trans rfl
    have c1 : w4.drew.cell? ⟨lb, 1, none⟩ = some (.int .i64 lz) := (HB.out.l.cell 1).trans rfl
    have c2 : w4.drew.cell? ⟨lb, 2, none⟩ = some (.int .i64 lu) := (HB.out.l.cell 2).trans rfl
    have c3 : w4.drew.cell? ⟨lb, 3, none⟩ = some (.int .i64 lh) := (HB.out.l.cell 3).trans rfl
    go_region_with (go_at_call 80; go_loud (refine (drawList_any _ x3 _ HB.out.m.1.drew (by omega)).mono ?_; rintro e w7 ⟨a, n, cp, z, rfl, hn, hcp, hir, m⟩; have HD := hid (HB.out.turn ((Moved.refl HB.out.m.1).drew.trans m)); have HI : Hid (w7.ownsRow w4.heap.size 3 1 (.slice a n cp) n (intR z n) ∧ n ≤ 60 ∧ n ≤ cp) := hid ⟨hir, hn, hcp⟩; clear m hir hn hcp; have e0 : w7.cell? ⟨lb, 0, none⟩ = some (.int .i64 lk) := (HD.out.l.cell 0).trans rfl; have e1 : w7.cell? ⟨lb, 1, none⟩ = some (.int .i64 lz) := (HD.out.l.cell 1).trans rfl; have e2 : w7.cell? ⟨lb, 2, none⟩ = some (.int .i64 lu) := (HD.out.l.cell 2).trans rfl; have e3 : w7.cell? ⟨lb, 3, none⟩ = some (.int .i64 lh) := (HD.out.l.cell 3).trans rfl; have r0 : w7.cell? ⟨w.heap.size, 0, none⟩ = some (.int .i64 0) := (HD.out.r.cell 0).trans rfl; have r1 : w7.cell? ⟨w.heap.size, 1, none⟩ = some (.int .i64 0) := (HD.out.r.cell 1).trans rfl; have r2 : w7.cell? ⟨w.heap.size, 2, none⟩ = some (.int .i64 0) := (HD.out.r.cell 2).trans rfl; have r3 : w7.cell? ⟨w.heap.size, 3, none⟩ = some (.int .i64 0) := (HD.out.r.cell 3).trans rfl; have f0 := HD.out.r.fr 0; have f1 := HD.out.r.fr 1; have f2 := HD.out.r.fr 2; have f3 := HD.out.r.fr 3))
    all_goals go_wp2
    all_goals (
      have hblk : ∀ g, (Value.slice a n cp).ownBlock = some g → ((((w7.setCell ⟨w.heap.size, 0, none⟩ (.int .i64 lk)).setCell ⟨w.heap.size, 1, none⟩ (.int .i64 lz)).setCell ⟨w.heap.size, 2, none⟩ (.int .i64 lu)).setCell ⟨w.heap.size, 3, none⟩ (.int .i64 lh)).heap[g]? = w7.heap[g]? := fun g hg => by
        have h1 := (HI.out.1.lt g hg).1
        have h2 : g ≠ w.heap.size := by have := HB.out.r.lt; omega
        rw [heap_set h2, heap_set h2, heap_set h2, heap_set h2]
      have HF : Hid (CB ((((w7.setCell ⟨w.heap.size, 0, none⟩ (.int .i64 lk)).setCell ⟨w.heap.size, 1, none⟩ (.int .i64 lz)).setCell ⟨w.heap.size, 2, none⟩ (.int .i64 lu)).setCell ⟨w.heap.size, 3, none⟩ (.int .i64 lh)) w.heap.size #[.int .i64 lk, .int .i64 lz, .int .i64 lu, .int .i64 lh] 48 ∧ IR ((((w7.setCell ⟨w.heap.size, 0, none⟩ (.int .i64 lk)).setCell ⟨w.heap.size, 1, none⟩ (.int .i64 lz)).setCell ⟨w.heap.size, 2, none⟩ (.int .i64 lu)).setCell ⟨w.heap.size, 3, none⟩ (.int .i64 lh)) a n z ∧ Below w.heap.size w ((((w7.setCell ⟨w.heap.size, 0, none⟩ (.int .i64 lk)).setCell ⟨w.heap.size, 1, none⟩ (.int .i64 lz)).setCell ⟨w.heap.size, 2, none⟩ (.int .i64 lu)).setCell ⟨w.heap.size, 3, none⟩ (.int .i64 lh))) := hid ⟨(((HD.out.r.set 0 _).set 1 _).set 2 _).set 3 _, row_IR (arow_block HI.out.1 hblk) (fun j hj => intR_get z n j hj), ((((HM.out.2.1.trans (HD.out.m.2.below (by omega) HM.out.2.1.size)).setCell (Nat.le_refl _) _).setCell (Nat.le_refl _) _).setCell (Nat.le_refl _) _).setCell (Nat.le_refl _) _⟩
      clear hblk
      generalize ((((w7.setCell ⟨w.heap.size, 0, none⟩ (.int .i64 lk)).setCell ⟨w.heap.size, 1, none⟩ (.int .i64 lz)).setCell ⟨w.heap.size, 2, none⟩ (.int .i64 lu)).setCell ⟨w.heap.size, 3, none⟩ (.int .i64 lh)) = W9 at HF ⊢
      have s0 : W9.cell? ⟨w.heap.size, 0, none⟩ = some (.int .i64 lk) := (HF.out.1.cell 0).trans rfl
      have s1 : W9.cell? ⟨w.heap.size, 1, none⟩ = some (.int .i64 lz) := (HF.out.1.cell 1).trans rfl
      have s2 : W9.cell? ⟨w.heap.size, 2, none⟩ = some (.int .i64 lu) := (HF.out.1.cell 2).trans rfl
      have s3 : W9.cell? ⟨w.heap.size, 3, none⟩ = some (.int .i64 lh) := (HF.out.1.cell 3).trans rfl
      refine bodyPost_ret (v := .tuple #[.agg #[.int .i64 lk, .int .i64 lz, .int .i64 lu, .int .i64 lh], .slice a n cp]) (by simp [results, Try.results33, go_sem, s0, s1, s2, s3]; try rfl) rfl ?_
      exact ⟨lk, lz, lu, lh, a, n, cp, z, rfl, HI.out.2.1, HI.out.2.2, HF.out.2.1, HF.out.2.2⟩)
  · obtain ⟨lb, hlb⟩ : ∃ x, w2.heap.size = x := ⟨_, rfl⟩
    rw [hlb] at HB ⊢
    clear hlb
    have c0 : w5.drew.cell? ⟨lb, 0, none⟩ = some (.int .i64 lk) := (HB.out.l.cell 0).trans rfl
    have c1 : w5.drew.cell? ⟨lb, 1, none⟩ = some (.int .i64 lz) := (HB.out.l.cell 1).trans rfl
    have c2 : w5.drew.cell? ⟨lb, 2, none⟩ = some (.int .i64 lu) := (HB.out.l.cell 2).trans rfl
    have c3 : w5.drew.cell? ⟨lb, 3, none⟩ = some (.int .i64 lh) := (HB.out.l.cell 3).trans rfl
    go_region_with (go_at_call 80; go_loud (refine (drawList_any _ x3 _ HB.out.m.1.drew (by omega)).mono ?_; rintro e w7 ⟨a, n, cp, z, rfl, hn, hcp, hir, m⟩; have HD := hid (HB.out.turn ((Moved.refl HB.out.m.1).drew.trans m)); have HI : Hid (w7.ownsRow w5.heap.size 3 1 (.slice a n cp) n (intR z n) ∧ n ≤ 60 ∧ n ≤ cp) := hid ⟨hir, hn, hcp⟩; clear m hir hn hcp; have e0 : w7.cell? ⟨lb, 0, none⟩ = some (.int .i64 lk) := (HD.out.l.cell 0).trans rfl; have e1 : w7.cell? ⟨lb, 1, none⟩ = some (.int .i64 lz) := (HD.out.l.cell 1).trans rfl; have e2 : w7.cell? ⟨lb, 2, none⟩ = some (.int .i64 lu) := (HD.out.l.cell 2).trans rfl; have e3 : w7.cell? ⟨lb, 3, none⟩ = some (.int .i64 lh) := (HD.out.l.cell 3).trans rfl; have r0 : w7.cell? ⟨w.heap.size, 0, none⟩ = some (.int .i64 0) := (HD.out.r.cell 0).trans rfl; have r1 : w7.cell? ⟨w.heap.size, 1, none⟩ = some (.int .i64 0) := (HD.out.r.cell 1).trans rfl; have r2 : w7.cell? ⟨w.heap.size, 2, none⟩ = some (.int .i64 0) := (HD.out.r.cell 2).trans rfl; have r3 : w7.cell? ⟨w.heap.size, 3, none⟩ = some (.int .i64 0) := (HD.out.r.cell 3).trans rfl; have f0 := HD.out.r.fr 0; have f1 := HD.out.r.fr 1; have f2 := HD.out.r.fr 2; have f3 := HD.out.r.fr 3))
    all_goals go_wp2
    all_goals (
      have hblk : ∀ g, (Value.slice a n cp).ownBlock = some g → ((((w7.setCell ⟨w.heap.size, 0, none⟩ (.int .i64 lk)).setCell ⟨w.heap.size, 1, none⟩ (.int .i64 lz)).setCell ⟨w.heap.size, 2, none⟩ (.int .i64 lu)).setCell ⟨w.heap.size, 3, none⟩ (.int .i64 lh)).heap[g]? = w7.heap[g]? := fun g hg => by
        have h1 := (HI.out.1.lt g hg).1
        have h2 : g ≠ w.heap.size := by have := HB.out.r.lt; omega
        rw [heap_set h2, heap_set h2, heap_set h2, heap_set h2]
      have HF : Hid (CB ((((w7.setCell ⟨w.heap.size, 0, none⟩ (.int .i64 lk)).setCell ⟨w.heap.size, 1, none⟩ (.int .i64 lz)).setCell ⟨w.heap.size, 2, none⟩ (.int .i64 lu)).setCell ⟨w.heap.size, 3, none⟩ (.int .i64 lh)) w.heap.size #[.int .i64 lk, .int .i64 lz, .int .i64 lu, .int .i64 lh] 48 ∧ IR ((((w7.setCell ⟨w.heap.size, 0, none⟩ (.int .i64 lk)).setCell ⟨w.heap.size, 1, none⟩ (.int .i64 lz)).setCell ⟨w.heap.size, 2, none⟩ (.int .i64 lu)).setCell ⟨w.heap.size, 3, none⟩ (.int .i64 lh)) a n z ∧ Below w.heap.size w ((((w7.setCell ⟨w.heap.size, 0, none⟩ (.int .i64 lk)).setCell ⟨w.heap.size, 1, none⟩ (.int .i64 lz)).setCell ⟨w.heap.size, 2, none⟩ (.int .i64 lu)).setCell ⟨w.heap.size, 3, none⟩ (.int .i64 lh))) := hid ⟨(((HD.out.r.set 0 _).set 1 _).set 2 _).set 3 _, row_IR (arow_block HI.out.1 hblk) (fun j hj => intR_get z n j hj), ((((HM.out.2.1.trans (HD.out.m.2.below (by omega) HM.out.2.1.size)).setCell (Nat.le_refl _) _).setCell (Nat.le_refl _) _).setCell (Nat.le_refl _) _).setCell (Nat.le_refl _) _⟩
      clear hblk
      generalize ((((w7.setCell ⟨w.heap.size, 0, none⟩ (.int .i64 lk)).setCell ⟨w.heap.size, 1, none⟩ (.int .i64 lz)).setCell ⟨w.heap.size, 2, none⟩ (.int .i64 lu)).setCell ⟨w.heap.size, 3, none⟩ (.int .i64 lh)) = W9 at HF ⊢
      have s0 : W9.cell? ⟨w.heap.size, 0, none⟩ = some (.int .i64 lk) := (HF.out.1.cell 0).trans rfl
      have s1 : W9.cell? ⟨w.heap.size, 1, none⟩ = some (.int .i64 lz) := (HF.out.1.cell 1).trans rfl
      have s2 : W9.cell? ⟨w.heap.size, 2, none⟩ = some (.int .i64 lu) := (HF.out.1.cell 2).trans rfl
      have s3 : W9.cell? ⟨w.heap.size, 3, none⟩ = some (.int .i64 lh) := (HF.out.1.cell 3).trans rfl
      refine bodyPost_ret (v := .tuple #[.agg #[.int .i64 lk, .int .i64 lz, .int .i64 lu, .int .i64 lh], .slice a n cp]) (by simp [results, Try.results33, go_sem, s0, s1, s2, s3]; try rfl) rfl ?_
      exact ⟨lk, lz, lu, lh, a, n, cp, z, rfl, HI.out.2.1, HI.out.2.2, HF.out.2.1, HF.out.2.2⟩)
end Go.Proofs.Ytmbdeafpfdeigaa
