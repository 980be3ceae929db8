/- Rows of Job in memory, each with a row of Task; the laws' own functions over them: sizes, copies, likeness; such rows that came in. -/
import Derived.Test.YtogolmbgboihdaaTa
import Derived.Deep.RegionHeld3
import Derived.Deep.RegionWith
import Derived.Outline
import Derived.Handy
import Derived.Laws.EntriesVeiled
namespace Go.Proofs.Ytogolmbgboihdaa
open Go.ChangeShapes Go.WideShapes Go.ChangeAt Go.RowKit
set_option linter.unusedVariables false
set_option linter.unusedSimpArgs false

structure JB where
  rdy : Int
  due : Int
  wgt : Int
  rn : Nat
  rz : Nat → TK3
def AtJB (w : World) (k o : Nat) (c : JB) : Prop :=
  ∃ ra rc, c.rn ≤ rc ∧ w.cell? ⟨k, o, none⟩ = some (.int .i64 c.rdy) ∧ w.cell? ⟨k, o + 1, none⟩ = some (.int .i64 c.due) ∧ w.cell? ⟨k, o + 2, none⟩ = some (.int .i64 c.wgt) ∧ w.cell? ⟨k, o + 3, none⟩ = some (.slice ra c.rn rc) ∧ TKr w ra c.rn c.rz
theorem AtJB.below {w w' : World} {k o : Nat} {c : JB} (H : AtJB w k o c) (hb : k < w.heap.size) (t : Below w.heap.size w w') : AtJB w' k o c := by
  obtain ⟨ra, rc, hrc, h0, h1, h2, h3, hR⟩ := H
  refine ⟨ra, rc, hrc, ?_, ?_, ?_, ?_, hR.below t⟩ <;> (rw [World.cell?_of_block (w := w) (t.block k hb)]; assumption)
def JBr (w : World) (ad : Option Addr) (len : Nat) (c : Nat → JB) : Prop :=
  len = 0 ∨ ∃ k off, ad = some ⟨k, off, none⟩ ∧ k < w.heap.size ∧ ∀ j, j < len → AtJB w k (off + j * 4) (c j)
theorem JBr.below {w w' : World} {ad : Option Addr} {len : Nat} {c : Nat → JB} (H : JBr w ad len c) (t : Below w.heap.size w w') : JBr w' ad len c := by
  rcases H with h | ⟨k, off, e, hk, hc⟩
  · exact .inl h
  · exact .inr ⟨k, off, e, Nat.lt_of_lt_of_le hk t.size, fun j hj => (hc j hj).below hk t⟩
theorem JBr.alloc {w : World} {ad : Option Addr} {len : Nat} {c : Nat → JB} (H : JBr w ad len c) (o : Obj) : JBr (w.alloc o) ad len c := H.below ((Below.refl _ _).alloc (Nat.le_refl _) o)
theorem JBr.drewN {w : World} {ad : Option Addr} {len : Nat} {c : Nat → JB} (H : JBr w ad len c) (q : Nat) : JBr (w.drewN q) ad len c := H
theorem JBr.cell {w : World} {k off len : Nat} {c : Nat → JB} (H : JBr w (some ⟨k, off, none⟩) len c) {j : Nat} (hj : j < len) : AtJB w k (off + j * 4) (c j) := by
  rcases H with h | ⟨k', off', e, hk, hc⟩
  · omega
  · simp only [Option.some.injEq, Addr.mk.injEq] at e
    obtain ⟨rfl, rfl, _⟩ := e
    exact hc j hj
theorem JBr.addr {w : World} {ad : Option Addr} {len : Nat} {c : Nat → JB} (H : JBr w ad len c) (h : 0 < len) : ∃ k off, ad = some ⟨k, off, none⟩ ∧ k < w.heap.size := by
  rcases H with h' | ⟨k', off', e, hk, hc⟩
  · omega
  · exact ⟨k', off', e, hk⟩
theorem JBr.mono {w : World} {ad : Option Addr} {len n : Nat} {c : Nat → JB} (H : JBr w ad len c) (h : n ≤ len) : JBr w ad n c := by
  rcases H with h' | ⟨k', off', e, hk, hc⟩
  · exact .inl (by omega)
  · exact .inr ⟨k', off', e, hk, fun j hj => hc j (by omega)⟩

set_option maxRecDepth 20000 in
set_option maxHeartbeats 2000000 in
theorem szJB_any (x0 : Int) (x1 : Int) (x2 : Int) (ra : Option Addr) (rn rc : Nat) (rz : Nat → TK3) (L : Int) (w : World) (h0 : 0 ≤ L) (hL : L ≤ 1048576) (hrn : (rn : Int) ≤ 9223372036854775807)  (hR : TKr w ra rn rz) :
    Calls Try.prog 65 #[.agg #[.int .i64 x0, .int .i64 x1, .int .i64 x2, .slice ra rn rc], .int .i64 L] w fun e w' => ∃ v : Int, e = .returned (.int .i64 v) ∧ (v = -1 ∨ (0 ≤ v ∧ v ≤ 1048576 ∧ (rn : Int) ≤ 1048576)) ∧ Below w.heap.size w w' := by
  have HR : Hid (TKr w ra rn rz) := hR
  have HBL : Hid (Below w.heap.size w (w.alloc (.cells #[.int .i64 x0, .int .i64 x1, .int .i64 x2, .slice ra rn rc] 102 (0, 0)))) := (Below.refl _ _).alloc (Nat.le_refl _) _
  clear hR
  go_enter Try.func65, Try.ntmps65
  go_wp2_with (go_at_call 94; go_loud (refine (szTK3S_any _ _ _ _ _ (by omega) (by omega) hrn).mono ?_; rintro e w' ⟨v, rfl, hv, ew⟩; replace ew := ew.symm; subst ew; rcases hv with rfl | ⟨hv0, hv1, hv2⟩))
  all_goals go_returns
  all_goals first
    | exact ⟨-1, rfl, .inl rfl, HBL.out⟩
    | exact ⟨v, rfl, .inr ⟨by omega, by omega, hv2⟩, HBL.out⟩
set_option maxRecDepth 20000 in
set_option maxHeartbeats 4000000 in
theorem szJBS_any (ad : Option Addr) (len cap : Nat) (c : Nat → JB) (L0 : Int) (w : World) (g0 : 0 ≤ L0) (g1 : L0 ≤ 1048576) (hl : (len : Int) ≤ 9223372036854775807) (hrn : ∀ j, ((c j).rn : Int) ≤ 9223372036854775807)  (hr : JBr w ad len c) :
    Calls Try.prog 25 #[.slice ad len cap, .int .i64 L0] w fun e w' => ∃ v : Int, e = .returned (.int .i64 v) ∧ (v = -1 ∨ (0 ≤ v ∧ v ≤ 1048576 ∧ (len : Int) ≤ 1048576 ∧ ∀ j, j < len → ((c j).rn : Int) ≤ 1048576)) ∧ Below w.heap.size w w' := by
  have HR : Hid (JBr w ad len c) := hr
  have HRN : Hid (∀ j, ((c j).rn : Int) ≤ 9223372036854775807) := hrn

  clear hr hrn 
  by_cases h : (len : Int) ≤ L0
  · have h2 : (0 : Int) ≤ L0 - (len : Int) := by omega
    go_enter Try.func25, Try.ntmps25
    go_wp2
    go_loopw [1, 5] (fun l i wr => ∃ (k : Nat) (L : Int), k ≤ len ∧ i = .int .i64 (k : Int) ∧ l = .int .i64 L ∧ 0 ≤ L ∧ L ≤ 1048576 ∧ Hid ((∀ j, j < k → ((c j).rn : Int) ≤ 1048576) ∧ Below w.heap.size w wr)) (fun _ i _ => len - (intOf i).toNat)
    case atStart => exact ⟨0, _, Nat.zero_le _, rfl, rfl, by omega, by omega, fun j hj => by omega, Below.refl _ _⟩
    case round =>
      obtain ⟨k, L, hk, rfl, rfl, hL0, hL1, HH⟩ := hrel
      by_cases hlt : k < len
      · have hlt2 : (k : Int) < (len : Int) := by omega
        obtain ⟨kb, off, rfl, _⟩ := HR.out.addr (by omega)
        obtain ⟨ra, rc, _, c0, c1, c2, c3, r5⟩ := (HR.out.below HH.out.2).cell hlt
        have HSZ : Hid (Calls Try.prog 65 #[.agg #[.int .i64 (c k).rdy, .int .i64 (c k).due, .int .i64 (c k).wgt, .slice ra (c k).rn rc], .int .i64 L] wr _) := szJB_any (c k).rdy (c k).due (c k).wgt ra (c k).rn rc (c k).rz L wr hL0 hL1 (HRN.out k)  r5
        have HN : Hid (∀ v : Int, ((c k).rn : Int) ≤ 1048576 → ∀ j, j < k + 1 → ((c j).rn : Int) ≤ 1048576) := fun _ q j hj => by
          by_cases e : j = k
          · subst e; exact q
          · exact HH.out.1 j (by omega)
        clear r5
        generalize (c k).rdy = x0 at c0 HSZ
        generalize (c k).due = x1 at c1 HSZ
        generalize (c k).wgt = x2 at c2 HSZ
        generalize (c k).rn = rn at c3 HSZ HN
        go_wp2_with (go_at_call 65; go_loud (refine HSZ.out.mono ?_; rintro e w1 ⟨v, rfl, hv, b1⟩; have HB1 : Hid (Below w.heap.size w w1) := bel_on HH.out.2 b1; clear b1 HSZ; rcases hv with rfl | ⟨hv0, hv1, hv2⟩))
        · go_returns
          exact ⟨-1, rfl, .inl rfl, HB1.out⟩
        · have hv3 : ¬ v < 0 := by omega
          go_wp2
          go_roundw
          case rel => exact ⟨k + 1, v, by omega, by go_num, rfl, hv0, hv1, HN.out v hv2, HB1.out⟩
          case measure => simp [intOf]; omega
      · obtain rfl : k = len := by omega
        have lkk : ¬ (k : Int) < (k : Int) := by omega
        go_wp2
        go_returns
        exact ⟨L, rfl, .inr ⟨hL0, hL1, by omega, HH.out.1⟩, HH.out.2⟩
  · have h3 : L0 - (len : Int) < 0 := by omega
    go_enter Try.func25, Try.ntmps25
    go_wp2
    go_returns
    exact ⟨-1, rfl, .inl rfl, Below.refl _ _⟩

def zerosJB (n : Nat) : Array Value := madeCells #[.int .i64 0, .int .i64 0, .int .i64 0, .slice none 0 0] (n * 4)
theorem zerosJB_size (n : Nat) : (zerosJB n).size = n * 4 := size_madeCells _ _
set_option maxRecDepth 100000 in
theorem mkJB (n : Nat) (h : (n : Int) ≤ 1048576) (w : World) : (Instr.makeSlice 25 (.int .i64 (n : Int)) (.int .i64 (n : Int))).run Try.prog w = .ok (.slice (some ⟨w.heap.size, 0, none⟩) n n) (w.alloc (.cells (zerosJB n) 34)) := by
  obtain ⟨i, hi⟩ : ∃ i, Try.prog.info? 34 = some i := ⟨_, rfl⟩
  have hz : i.zero = some (.agg #[.int .i64 0, .int .i64 0, .int .i64 0, .slice none 0 0]) := by
    have : (Try.prog.info? 34).bind (·.zero) = some (.agg #[.int .i64 0, .int .i64 0, .int .i64 0, .slice none 0 0]) := by kernel_rfl
    rw [hi] at this; exact this
  have hs : i.size = 4 := by
    have : (Try.prog.info? 34).map (·.size) = some 4 := by kernel_rfl
    rw [hi] at this; simpa using this
  have hb : i.bytes = 48 := by
    have : (Try.prog.info? 34).map (·.bytes) = some 48 := by kernel_rfl
    rw [hi] at this; simpa using this
  have hr := run_make (P := Try.prog) w 25 34 i (.agg #[.int .i64 0, .int .i64 0, .int .i64 0, .slice none 0 0]) Try.underlying25 hi hz .i64 .i64 n n (by omega) (by omega) (by rw [hb]; omega) (by omega)
  simp only [Int.toNat_natCast, hs] at hr
  exact hr

/-- A row of tasks in a block of its own. -/
def SAt (w : World) (b n : Nat) (z : Nat → TK3) : Prop := TKr w (some ⟨b, 0, none⟩) n z ∧ ∃ cs, CB w b cs 38 ∧ cs.size = n * 3
section
variable {w w' : World} {b n : Nat} {z : Nat → TK3}
theorem SAt.lt (H : SAt w b n z) : b < w.heap.size := by obtain ⟨_, cs, h, _⟩ := H; exact h.lt
theorem SAt.below (H : SAt w b n z) (k : Below w.heap.size w w') : SAt w' b n z := by obtain ⟨h, cs, h1, h2⟩ := H; exact ⟨h.below k, cs, h1.below k h1.lt, h2⟩
theorem SAt.other (H : SAt w b n z) {c o : Nat} (u : Value) (h : b ≠ c) : SAt (w.setCell ⟨c, o, none⟩ u) b n z := by
  obtain ⟨h0, cs, h1, h2⟩ := H
  exact ⟨h0.other u (fun k off e => by simp only [Option.some.injEq, Addr.mk.injEq] at e; omega), cs, h1.other u h, h2⟩
end
theorem toStr_at {ad : Option Addr} {len cap : Nat} {z : Nat → TK3} {w : World} {b : Nat} (hb : w.heap.size = b) (h : (len : Int) ≤ 1048576) (hr : TKr w ad len z) :
    Calls Try.prog 96 #[.slice ad len cap] w fun e w' => e = .returned (.slice (some ⟨b, 0, none⟩) len len) ∧ SAt w' b len z ∧ Below w.heap.size w w' := by
  subst hb; exact toTK3S_any ad len cap z w h hr
theorem two_bl {w w1 : World} {bs cs : Array Value} {s t : TypeId} (b : Below ((w.alloc (.cells bs s (0, 0))).alloc (.cells cs t (0, 0))).heap.size ((w.alloc (.cells bs s (0, 0))).alloc (.cells cs t (0, 0))) w1) :
    CB w1 w.heap.size bs s ∧ CB w1 (w.heap.size + 1) cs t ∧ Below w.heap.size w w1 := by
  refine ⟨?_, ?_, ?_⟩
  · exact ((CB.new bs s).alloc _).below b (by simp; omega)
  · exact (CB.newAt (by simp) cs t).below b (by simp)
  · exact bel_on (((Below.refl _ _).alloc (Nat.le_refl _) _).alloc (by simp) _) b
theorem three_bl {w w1 : World} {bs cs ds : Array Value} {s t u : TypeId} (b : Below (((w.alloc (.cells bs s (0, 0))).alloc (.cells cs t (0, 0))).alloc (.cells ds u (0, 0))).heap.size (((w.alloc (.cells bs s (0, 0))).alloc (.cells cs t (0, 0))).alloc (.cells ds u (0, 0))) w1) :
    CB w1 w.heap.size bs s ∧ CB w1 (w.heap.size + 1) cs t ∧ CB w1 (w.heap.size + 1 + 1) ds u ∧ Below w.heap.size w w1 := by
  refine ⟨?_, ?_, ?_, ?_⟩
  · exact (((CB.new bs s).alloc _).alloc _).below b (by simp; omega)
  · exact ((CB.newAt (by simp) cs t).alloc _).below b (by simp)
  · exact (CB.newAt (by simp) ds u).below b (by simp)
  · exact bel_on ((((Below.refl _ _).alloc (Nat.le_refl _) _).alloc (by simp) _).alloc (by simp; omega) _) b

set_option maxRecDepth 20000 in
set_option maxHeartbeats 4000000 in
theorem toJB_any (x0 : Int) (x1 : Int) (x2 : Int) (ra : Option Addr) (rn rc : Nat) (rz : Nat → TK3) (w : World) (h1 : (rn : Int) ≤ 1048576) (hT : TKr w ra rn rz) :
    Calls Try.prog 69 #[.agg #[.int .i64 x0, .int .i64 x1, .int .i64 x2, .slice ra rn rc]] w fun e w' => ∃ bt, e = .returned (.agg #[.int .i64 x0, .int .i64 x1, .int .i64 x2, .slice (some ⟨bt, 0, none⟩) rn rn]) ∧ w.heap.size ≤ bt ∧ SAt w' bt rn rz ∧ Below w.heap.size w w' := by
  have HT : Hid (TKr w ra rn rz) := hT
  have HBL : Hid (Below w.heap.size w (((w.alloc (.cells #[.int .i64 x0, .int .i64 x1, .int .i64 x2, .slice ra rn rc] 102 (0, 0))).alloc (.cells #[.int .i64 0, .int .i64 0, .int .i64 0, .slice none 0 0] 34 (0, 0))).alloc (.cells #[.int .i64 x0, .int .i64 x1, .int .i64 x2, .slice none 0 0] 34 (0, 0)))) := (((Below.refl _ _).alloc (Nat.le_refl _) _).alloc (by simp) _).alloc (by simp; omega) _
  clear hT
  go_enter Try.func69, Try.ntmps69
  go_wp2_with (go_at_call 96; go_loud (refine (toStr_at (b := w.heap.size + 1 + 1 + 1) (by simp) h1 (HT.out.below HBL.out)).mono ?_; rintro e w1 ⟨rfl, o1, b1⟩; obtain ⟨C0, C1, C2, b2⟩ := three_bl b1; have k0 := (C2.cell 0).trans rfl; have m0 := (C1.cell 0).trans rfl; have g0 := C1.fr 0; have k1 := (C2.cell 1).trans rfl; have m1 := (C1.cell 1).trans rfl; have g1 := C1.fr 1; have k2 := (C2.cell 2).trans rfl; have m2 := (C1.cell 2).trans rfl; have g2 := C1.fr 2; have k3 := (C2.cell 3).trans rfl; have m3 := (C1.cell 3).trans rfl; have g3 := C1.fr 3; have f3 := C2.fr 3;  have HC1 : Hid (CB w1 (w.heap.size + 1) #[.int .i64 0, .int .i64 0, .int .i64 0, .slice none 0 0] 34) := C1; have HO1 : Hid (SAt w1 (w.heap.size + 1 + 1 + 1) rn rz) := o1; have HB1 : Hid (Below w.heap.size w w1) := b2; have hs1 := o1.lt; clear C0 C1 C2 b1 b2 o1))
  have hX := (((((HC1.out.other (c := w.heap.size + 1 + 1) (o := 3) (.slice (some ⟨w.heap.size + 1 + 1 + 1, 0, none⟩) rn rn) (by omega)).set 0 (.int .i64 x0)).set 1 (.int .i64 x1)).set 2 (.int .i64 x2)).set 3 (.slice (some ⟨w.heap.size + 1 + 1 + 1, 0, none⟩) rn rn))
  have hY := (((((HO1.out.other (c := w.heap.size + 1 + 1) (o := 3) (.slice (some ⟨w.heap.size + 1 + 1 + 1, 0, none⟩) rn rn) (by omega)).other (c := w.heap.size + 1) (o := 0) (.int .i64 x0) (by omega)).other (c := w.heap.size + 1) (o := 1) (.int .i64 x1) (by omega)).other (c := w.heap.size + 1) (o := 2) (.int .i64 x2) (by omega)).other (c := w.heap.size + 1) (o := 3) (.slice (some ⟨w.heap.size + 1 + 1 + 1, 0, none⟩) rn rn) (by omega))
  have hZ := (((((HB1.out.setCell (p := ⟨w.heap.size + 1 + 1, 3, none⟩) (by simp; omega) (.slice (some ⟨w.heap.size + 1 + 1 + 1, 0, none⟩) rn rn)).setCell (p := ⟨w.heap.size + 1, 0, none⟩) (by simp) (.int .i64 x0)).setCell (p := ⟨w.heap.size + 1, 1, none⟩) (by simp) (.int .i64 x1)).setCell (p := ⟨w.heap.size + 1, 2, none⟩) (by simp) (.int .i64 x2)).setCell (p := ⟨w.heap.size + 1, 3, none⟩) (by simp) (.slice (some ⟨w.heap.size + 1 + 1 + 1, 0, none⟩) rn rn))
  have e0 := hX.cell 0
  have e1 := hX.cell 1
  have e2 := hX.cell 2
  have e3 := hX.cell 3
  simp at e0 e1 e2 e3
  clear hX k0 m0 g0 k1 m1 g1 k2 m2 g2 k3 m3 g3 f3 HC1 HO1 HB1 HBL
  generalize (World.setCell _ _ _) = W5 at e0 e1 e2 e3 hY hZ ⊢
  refine bodyPost_ret (by simp [results, Try.results69, go_sem, e0, e1, e2, e3]; try rfl) rfl ?_
  exact ⟨_, rfl, by omega, hY, hZ⟩

set_option maxRecDepth 20000 in
set_option maxHeartbeats 1000000 in
theorem eqJB_same (x0 : Int) (x1 : Int) (x2 : Int) (ra rb : Option Addr) (rn rc rd : Nat) (rz : Nat → TK3) (w : World) (h1 : (rn : Int) ≤ 1048576) (hT : TKr w ra rn rz) (hT2 : TKr w rb rn rz) :
    Calls Try.prog 76 #[.agg #[.int .i64 x0, .int .i64 x1, .int .i64 x2, .slice ra rn rc], .agg #[.int .i64 x0, .int .i64 x1, .int .i64 x2, .slice rb rn rd]] w fun e w' => e = .returned (.bool true) ∧ Below w.heap.size w w' := by
  have HT : Hid (TKr w ra rn rz) := hT
  have HT2 : Hid (TKr w rb rn rz) := hT2
  have HBL : Hid (Below w.heap.size w ((w.alloc (.cells #[.int .i64 x0, .int .i64 x1, .int .i64 x2, .slice ra rn rc] 34 (0, 0))).alloc (.cells #[.int .i64 x0, .int .i64 x1, .int .i64 x2, .slice rb rn rd] 34 (0, 0)))) := ((Below.refl _ _).alloc (Nat.le_refl _) _).alloc (by simp) _
  clear hT hT2
  go_enter Try.func76, Try.ntmps76
  go_wp2_with (go_at_call 103; go_loud (refine (eqTK3S_same _ _ _ _ _ rz _ h1 (HT.out.below HBL.out) (HT2.out.below HBL.out)).mono ?_; rintro e w1 ⟨rfl, b1⟩; obtain ⟨C1, C2, b2⟩ := two_bl b1;  have HB1 : Hid (Below w.heap.size w w1) := b2; clear b1 b2 C1 C2))
  go_returns
  exact ⟨rfl, HB1.out⟩

/-- Rows in a block of their own, each one's tasks in a block of its own behind it. -/
structure OJB (w : World) (B m k : Nat) (c : Nat → JB) (bt : Nat → Nat) : Prop where
  main : ∃ cs, CB w B cs 34 ∧ cs.size = m * 4 ∧ ∀ j, j < k → cs[j * 4]? = some (.int .i64 (c j).rdy) ∧ cs[j * 4 + 1]? = some (.int .i64 (c j).due) ∧ cs[j * 4 + 2]? = some (.int .i64 (c j).wgt) ∧ cs[j * 4 + 3]? = some (.slice (some ⟨bt j, 0, none⟩) (c j).rn (c j).rn)
  t : ∀ j, j < k → SAt w (bt j) (c j).rn (c j).rz
  ap : ∀ j, j < k → B < bt j
  inc : ∀ i j, i < j → j < k → bt i < bt j
section
variable {w w' : World} {B m k : Nat} {c : Nat → JB} {bt : Nat → Nat}
theorem OJB.lt (H : OJB w B m k c bt) : B < w.heap.size := by obtain ⟨cs, h, _⟩ := H.main; exact h.lt
theorem OJB.below (H : OJB w B m k c bt) (b : Below w.heap.size w w') : OJB w' B m k c bt := by
  obtain ⟨cs, h, h2⟩ := H.main
  exact ⟨⟨cs, h.below b h.lt, h2⟩, fun j hj => (H.t j hj).below b, H.ap, H.inc⟩
theorem OJB.row (H : OJB w B m m c bt) : JBr w (some ⟨B, 0, none⟩) m c := by
  obtain ⟨cs, h, h1, h2⟩ := H.main
  refine .inr ⟨B, 0, rfl, h.lt, fun j hj => ?_⟩
  obtain ⟨q0, q1, q2, q3⟩ := h2 j hj
  refine ⟨some ⟨bt j, 0, none⟩, (c j).rn, Nat.le_refl _, ?_, ?_, ?_, ?_, (H.t j hj).1⟩ <;> (rw [Nat.zero_add, h.cell]; assumption)
theorem OJB.step {t1 : Nat} (H : OJB w B m k c bt) (hk : k < m) (h1 : SAt w t1 (c k).rn (c k).rz) (hb : B < t1) (hn : ∀ j, j < k → bt j < t1) :
    OJB ((((w.setCell ⟨B, k * 4, none⟩ (.int .i64 (c k).rdy)).setCell ⟨B, k * 4 + 1, none⟩ (.int .i64 (c k).due)).setCell ⟨B, k * 4 + 2, none⟩ (.int .i64 (c k).wgt)).setCell ⟨B, k * 4 + 3, none⟩ (.slice (some ⟨t1, 0, none⟩) (c k).rn (c k).rn)) B m (k + 1) c (fun j => if j = k then t1 else bt j) := by
  obtain ⟨cs, c1, c2, c3⟩ := H.main
  refine ⟨⟨_, ((((c1.set _ _).set _ _).set _ _).set _ _), by simpa using c2, fun j hj => ?_⟩, fun j hj => ?_, fun j hj => ?_, fun i j hi hj => ?_⟩
  · by_cases e : j = k
    · subst e
      simp only [if_true]
      refine ⟨?_, ?_, ?_, ?_⟩
      · rw [get_set_ne (by omega), get_set_ne (by omega), get_set_ne (by omega), get_set_eq (by (try simp); omega)]
      · rw [get_set_ne (by omega), get_set_ne (by omega), get_set_eq (by (try simp); omega)]
      · rw [get_set_ne (by omega), get_set_eq (by (try simp); omega)]
      · rw [get_set_eq (by (try simp); omega)]
    · simp only [if_neg e]
      obtain ⟨q0, q1, q2, q3⟩ := c3 j (by omega)
      refine ⟨?_, ?_, ?_, ?_⟩ <;> (rw [get_set_ne (by omega), get_set_ne (by omega), get_set_ne (by omega), get_set_ne (by omega)]; assumption)
  · by_cases e : j = k
    · subst e; simp only [if_true]; have hne : t1 ≠ B := by omega
      exact ((((h1.other _ hne).other _ hne).other _ hne).other _ hne)
    · simp only [if_neg e]; have hne : bt j ≠ B := by have := H.ap j (by omega); omega
      exact (((((H.t j (by omega)).other _ hne).other _ hne).other _ hne).other _ hne)
  · by_cases e : j = k
    · simp only [if_pos e]; exact hb
    · simp only [if_neg e]; exact H.ap j (by omega)
  · by_cases e : j = k
    · have e2 : i ≠ k := by omega
      simp only [if_pos e, if_neg e2]; exact hn i (by omega)
    · have e2 : i ≠ k := by omega
      simp only [if_neg e, if_neg e2]; exact H.inc i j hi (by omega)
end

set_option maxRecDepth 20000 in
set_option maxHeartbeats 4000000 in
theorem toJBS_any (ad : Option Addr) (m cap : Nat) (c : Nat → JB) (w : World) (h : (m : Int) ≤ 1048576) (hl : ∀ j, j < m → ((c j).rn : Int) ≤ 1048576) (HR0 : JBr w ad m c) :
    Calls Try.prog 28 #[.slice ad m cap] w fun e w' => e = .returned (.slice (some ⟨w.heap.size, 0, none⟩) m m) ∧ (∃ bt, OJB w' w.heap.size m m c bt) ∧ Below w.heap.size w w' := by
  have HR : Hid (JBr w ad m c) := HR0
  have HN : Hid (∀ j, j < m → ((c j).rn : Int) ≤ 1048576) := hl
  have hmk := mkJB m h
  clear HR0 hl
  go_enter Try.func28, Try.ntmps28
  go_wp2
  go_loopw [4] (fun i wr => ∃ (k : Nat) (bt : Nat → Nat), k ≤ m ∧ i = .int .i64 (k : Int) ∧ Hid (OJB wr w.heap.size m k c bt ∧ Below w.heap.size w wr)) (fun i _ => m - (intOf i).toNat)
  case atStart => exact ⟨0, fun _ => 0, Nat.zero_le _, rfl, ⟨⟨zerosJB m, CB.new _ _, zerosJB_size _, fun j hj => by omega⟩, fun j hj => by omega, fun j hj => by omega, fun i j hi hj => by omega⟩, (Below.refl _ _).alloc (Nat.le_refl _) _⟩
  case round =>
    obtain ⟨k, bt, hk, rfl, HO⟩ := hrel
    by_cases hlt : k < m
    · obtain ⟨kb, off, rfl, hkb⟩ := HR.out.addr (by omega)
      have HB : Hid (Below w.heap.size w wr) := HO.out.2
      obtain ⟨ra, rc, _, c0, c1, c2, c3, r5⟩ := (HR.out.below HB.out).cell hlt
      have HT : Hid (TKr wr ra (c k).rn (c k).rz) := r5
      obtain ⟨cs, hC, hsz, _⟩ := HO.out.1.main
      obtain ⟨v0, d0⟩ : ∃ v, cs[k * 4]? = some v := ⟨cs[k * 4]'(by omega), Array.getElem?_eq_getElem (by omega)⟩
      obtain ⟨v1, d1⟩ : ∃ v, cs[k * 4 + 1]? = some v := ⟨cs[k * 4 + 1]'(by omega), Array.getElem?_eq_getElem (by omega)⟩
      obtain ⟨v2, d2⟩ : ∃ v, cs[k * 4 + 2]? = some v := ⟨cs[k * 4 + 2]'(by omega), Array.getElem?_eq_getElem (by omega)⟩
      obtain ⟨v3, d3⟩ : ∃ v, cs[k * 4 + 3]? = some v := ⟨cs[k * 4 + 3]'(by omega), Array.getElem?_eq_getElem (by omega)⟩
      have HC : Hid (CB wr w.heap.size cs 34) := hC
      have hnk := HN.out k hlt
      have hlt2 : (k : Int) < (m : Int) := by omega
      have HD0 : Hid (cs[k * 4]? = some v0) := d0
      have HD1 : Hid (cs[k * 4 + 1]? = some v1) := d1
      have HD2 : Hid (cs[k * 4 + 2]? = some v2) := d2
      have HD3 : Hid (cs[k * 4 + 3]? = some v3) := d3
      clear hC hsz r5 d0 d1 d2 d3
      go_wp2_with (go_at_call 69; go_loud (refine (toJB_any _ _ _ _ _ _ (c k).rz _ hnk HT.out).mono ?_; rintro e w1 ⟨t1, rfl, hb, o1, b1⟩; have X1 : CB w1 w.heap.size cs 34 := HC.out.below b1 HC.out.lt; have y0 := (X1.cell (k * 4)).trans HD0.out; have f0 := X1.fr (k * 4); have y1 := (X1.cell (k * 4 + 1)).trans HD1.out; have f1 := X1.fr (k * 4 + 1); have y2 := (X1.cell (k * 4 + 2)).trans HD2.out; have f2 := X1.fr (k * 4 + 2); have y3 := (X1.cell (k * 4 + 3)).trans HD3.out; have f3 := X1.fr (k * 4 + 3); have HP : Hid (wr.heap.size ≤ t1) := hb; have HO1 : Hid (SAt w1 t1 (c k).rn (c k).rz) := o1; have HX : Hid (OJB w1 w.heap.size m k c bt) := HO.out.1.below b1; have HB1 : Hid (Below w.heap.size w w1) := bel_on HB.out b1; clear X1 b1 o1 hb))
      go_roundw
      case rel =>
        have hlt3 := HC.out.lt
        have hp := HP.out
        exact ⟨k + 1, _, by omega, by go_num, HX.out.step hlt HO1.out (by omega) (fun j hj => by have := (HO.out.1.t j hj).lt; omega), ((((HB1.out.setCell (by simp) _).setCell (by simp) _).setCell (by simp) _).setCell (by simp) _)⟩
      case measure => simp [intOf]; omega
    · obtain rfl : k = m := by omega
      have lkk : ¬ (k : Int) < (k : Int) := by omega
      go_wp2
      go_returns
      exact ⟨rfl, ⟨bt, HO.out.1⟩, HO.out.2⟩

set_option maxRecDepth 20000 in
set_option maxHeartbeats 4000000 in
theorem eqJBS_same (ad be : Option Addr) (m cap cap2 : Nat) (c : Nat → JB) (w : World) (h : (m : Int) ≤ 1048576) (hl : ∀ j, j < m → ((c j).rn : Int) ≤ 1048576) (h1 : JBr w ad m c) (h2 : JBr w be m c) :
    Calls Try.prog 31 #[.slice ad m cap, .slice be m cap2] w fun e w' => e = .returned (.bool true) ∧ Below w.heap.size w w' := by
  have H1 : Hid (JBr w ad m c) := h1
  have H2 : Hid (JBr w be m c) := h2
  have HN : Hid (∀ j, j < m → ((c j).rn : Int) ≤ 1048576) := hl
  clear h1 h2 hl
  go_enter Try.func31, Try.ntmps31
  go_wp2
  go_loopw [5] (fun i wr => ∃ (k : Nat), k ≤ m ∧ i = .int .i64 (k : Int) ∧ Hid (Below w.heap.size w wr)) (fun i _ => m - (intOf i).toNat)
  case atStart => exact ⟨0, Nat.zero_le _, rfl, Below.refl _ _⟩
  case round =>
    obtain ⟨k, hk, rfl, HB⟩ := hrel
    by_cases hlt : k < m
    · have hlt2 : (k : Int) < (m : Int) := by omega
      obtain ⟨kb, off, rfl, _⟩ := H1.out.addr (by omega)
      obtain ⟨kb2, off2, rfl, _⟩ := H2.out.addr (by omega)
      obtain ⟨ra, rc, _, c0, c1, c2, c3, r5⟩ := (H1.out.below HB.out).cell hlt
      obtain ⟨rb, rd, _, e0, e1, e2, e3, s5⟩ := (H2.out.below HB.out).cell hlt
      have hBd : Below w.heap.size w wr.drew := HB.out.drew
      have hnk := HN.out k hlt
      have HEQ : Hid (Calls Try.prog 76 #[.agg #[.int .i64 (c k).rdy, .int .i64 (c k).due, .int .i64 (c k).wgt, .slice ra (c k).rn rc], .agg #[.int .i64 (c k).rdy, .int .i64 (c k).due, .int .i64 (c k).wgt, .slice rb (c k).rn rd]] wr.drew fun e w' => e = .returned (.bool true) ∧ Below wr.drew.heap.size wr.drew w') := eqJB_same _ _ _ _ _ _ _ _ (c k).rz _ hnk r5 s5
      clear r5 s5 hnk
      generalize (c k).rdy = x0 at c0 e0 HEQ
      generalize (c k).due = x1 at c1 e1 HEQ
      generalize (c k).wgt = x2 at c2 e2 HEQ
      generalize (c k).rn = rn at c3 e3 HEQ
      go_wp2
      go_region_held3 (fun w' => (w'.cell? ⟨kb, off + k * 4, none⟩ = some (.int .i64 x0) ∧ w'.cell? ⟨kb, off + k * 4 + 1, none⟩ = some (.int .i64 x1) ∧ w'.cell? ⟨kb, off + k * 4 + 2, none⟩ = some (.int .i64 x2) ∧ w'.cell? ⟨kb, off + k * 4 + 3, none⟩ = some (.slice ra rn rc)) ∧ (w'.cell? ⟨kb2, off2 + k * 4, none⟩ = some (.int .i64 x0) ∧ w'.cell? ⟨kb2, off2 + k * 4 + 1, none⟩ = some (.int .i64 x1) ∧ w'.cell? ⟨kb2, off2 + k * 4 + 2, none⟩ = some (.int .i64 x2) ∧ w'.cell? ⟨kb2, off2 + k * 4 + 3, none⟩ = some (.slice rb rn rd)) ∧ Below w.heap.size w w')
        (refine ⟨⟨?_, ?_, ?_, ?_⟩, ⟨?_, ?_, ?_, ?_⟩, ?_⟩ <;> first | assumption | (simp [*]; done))
        (first
        | (go_at_call 76; refine HEQ.out.mono ?_; rintro e w2 ⟨rfl, b2⟩; have q0_0 : w2.cell? ⟨kb, off + k * 4, none⟩ = some (.int .i64 x0) := keep_cell b2 (by simp [*]); have q0_1 : w2.cell? ⟨kb, off + k * 4 + 1, none⟩ = some (.int .i64 x1) := keep_cell b2 (by simp [*]); have q0_2 : w2.cell? ⟨kb, off + k * 4 + 2, none⟩ = some (.int .i64 x2) := keep_cell b2 (by simp [*]); have q0_3 : w2.cell? ⟨kb, off + k * 4 + 3, none⟩ = some (.slice ra rn rc) := keep_cell b2 (by simp [*]); have q1_0 : w2.cell? ⟨kb2, off2 + k * 4, none⟩ = some (.int .i64 x0) := keep_cell b2 (by simp [*]); have q1_1 : w2.cell? ⟨kb2, off2 + k * 4 + 1, none⟩ = some (.int .i64 x1) := keep_cell b2 (by simp [*]); have q1_2 : w2.cell? ⟨kb2, off2 + k * 4 + 2, none⟩ = some (.int .i64 x2) := keep_cell b2 (by simp [*]); have q1_3 : w2.cell? ⟨kb2, off2 + k * 4 + 3, none⟩ = some (.slice rb rn rd) := keep_cell b2 (by simp [*]); have q4 : Below w.heap.size w w2 := bel_on (by assumption) b2))
      go_wp2
      go_roundw
      case rel => exact ⟨k + 1, by omega, by go_num, q4⟩
      case measure => simp [intOf]; omega
    · obtain rfl : k = m := by omega
      have lkk : ¬ (k : Int) < (k : Int) := by omega
      go_wp2
      go_returns
      exact ⟨rfl, HB.out⟩

theorem slice_of {H : Type} {enc : TypeId × Value → H} {P : Program} {w : World} {sp : Nat → Bool} {held : Bool} {t e : TypeId} {fuel : Nat} {v : Value} {x : DataW H × List MemPlace}
    (ht : P.underlying t = some (.slice e)) (h : DataW.trod enc P w 0 sp held fuel t [v] = some x) : ∃ ad len cap, v = .slice ad len cap ∧ DataW.Trod enc P w 0 sp held t (.slice ad len cap) x.1 x.2 := by
  rcases Go.Deep.open_slice ht h with ⟨hcs, _⟩ | ⟨a, l, c, m, k, D, Pl, hcs, _⟩
  · have hv : v = .slice none 0 0 := by simpa using hcs
    subst hv
    exact ⟨none, 0, 0, rfl, fuel, by simpa [Value.cells] using h⟩
  · have hv : v = .slice (some a) l c := by simpa using hcs
    subst hv
    exact ⟨some a, l, c, rfl, fuel, by simpa [Value.cells] using h⟩
theorem inner_at {H : Type} {enc : TypeId × Value → H} {P : Program} {w : World} {sp : Nat → Bool} {held : Bool} {t e : TypeId} {fuel : Nat} {v : Value} {x : DataW H × List MemPlace}
    (ht : P.underlying t = some (.slice e)) {q0 q1 q2 : Field} (ti : P.underlying e = some (.struct #[q0, q1, q2])) (ci : P.cellsOf e = 3) (hoi : q0.offset = 0 ∧ q1.offset = 1 ∧ q2.offset = 2) (hci : P.cellsOf q0.type = 1 ∧ P.cellsOf q1.type = 1 ∧ P.cellsOf q2.type = 1) (tq0 : P.underlying q0.type = some (.int .i64)) (tq1 : P.underlying q1.type = some (.int .i64)) (tq2 : P.underlying q2.type = some (.int .i64)) (h : DataW.trod enc P w 0 sp held fuel t [v] = some x) : ∃ ad len cap z, v = .slice ad len cap ∧ len ≤ maxLen ∧ TKr w ad len z ∧ len ≤ cap := by
  have h0 := h
  obtain ⟨ad, len, cap, rfl, hT⟩ := slice_of ht h
  obtain ⟨z, h1, h3⟩ := TK3_of ht ti ci hoi hci tq0 tq1 tq2 hT
  refine ⟨ad, len, cap, z, rfl, h1, h3, ?_⟩
  rcases Go.Deep.open_slice ht h0 with ⟨hcs, _⟩ | ⟨a, l, c, m, k, D, Pl, hcs, _, hl, hm, _⟩
  · simp at hcs; omega
  · simp at hcs; omega
theorem JB_of {H : Type} {enc : TypeId × Value → H} {P : Program} {w : World} {sp : Nat → Bool} {held : Bool} {t e si : TypeId} {f0 f1 f2 f3 : Field} {ad : Option Addr} {len cap : Nat} {d : DataW H} {p : List MemPlace}
    (ht : P.underlying t = some (.slice e)) (he : P.underlying e = some (.struct #[f0, f1, f2, f3])) (ce : P.cellsOf e = 4)
    (ho : f0.offset = 0 ∧ f1.offset = 1 ∧ f2.offset = 2 ∧ f3.offset = 3) (hc : P.cellsOf f0.type = 1 ∧ P.cellsOf f1.type = 1 ∧ P.cellsOf f2.type = 1 ∧ P.cellsOf f3.type = 1)
    (t0 : P.underlying f0.type = some (.int .i64)) (t1 : P.underlying f1.type = some (.int .i64)) (t2 : P.underlying f2.type = some (.int .i64)) (t3 : P.underlying f3.type = some (.slice si)) {q0 q1 q2 : Field} (ti : P.underlying si = some (.struct #[q0, q1, q2])) (ci : P.cellsOf si = 3) (hoi : q0.offset = 0 ∧ q1.offset = 1 ∧ q2.offset = 2) (hci : P.cellsOf q0.type = 1 ∧ P.cellsOf q1.type = 1 ∧ P.cellsOf q2.type = 1) (tq0 : P.underlying q0.type = some (.int .i64)) (tq1 : P.underlying q1.type = some (.int .i64)) (tq2 : P.underlying q2.type = some (.int .i64))
    (h : DataW.Trod enc P w 0 sp held t (.slice ad len cap) d p) : ∃ r : Nat → JB, len ≤ maxLen ∧ (∀ j, (r j).rn ≤ maxLen) ∧ JBr w ad len r := by
  obtain ⟨ho0, ho1, ho2, ho3⟩ := ho
  obtain ⟨hc0, hc1, hc2, hc3⟩ := hc
  obtain ⟨hl, h0 | ⟨b, off, e1, hb, hx⟩⟩ := structs_of ht he ce (by omega) (fun i f hf => by
    match i, hf with
    | 0, hf => simp at hf; subst hf; exact ⟨ho0, hc0, by omega⟩
    | 1, hf => simp at hf; subst hf; exact ⟨ho1, hc1, by omega⟩
    | 2, hf => simp at hf; subst hf; exact ⟨ho2, hc2, by omega⟩
    | 3, hf => simp at hf; subst hf; exact ⟨ho3, hc3, by omega⟩
    | n + 4, hf => simp at hf) h
  · exact ⟨fun _ => ⟨0, 0, 0, 0, fun _ => ⟨0, 0, 0⟩⟩, hl, fun j => Nat.zero_le _, .inl h0⟩
  · have key : ∀ j, ∃ x : JB, (x.rn ≤ maxLen) ∧ (j < len → AtJB w b (off + j * 4) x) := fun j => by
      by_cases hj : j < len
      · obtain ⟨v0, fu0, y0, c0, g0⟩ := hx j hj 0 f0 rfl
        obtain ⟨v1, fu1, y1, c1, g1⟩ := hx j hj 1 f1 rfl
        obtain ⟨v2, fu2, y2, c2, g2⟩ := hx j hj 2 f2 rfl
        obtain ⟨v3, fu3, y3, c3, g3⟩ := hx j hj 3 f3 rfl
        obtain ⟨d0, e0, _, _⟩ := DataW.trod_int t0 g0
        obtain rfl : v0 = .int .i64 d0 := by simpa using e0
        obtain ⟨d1, e1, _, _⟩ := DataW.trod_int t1 g1
        obtain rfl : v1 = .int .i64 d1 := by simpa using e1
        obtain ⟨d2, e2, _, _⟩ := DataW.trod_int t2 g2
        obtain rfl : v2 = .int .i64 d2 := by simpa using e2
        obtain ⟨a1, n1, k1, z1, rfl, l1, r1, l3⟩ := inner_at t3 ti ci hoi hci tq0 tq1 tq2 g3
        exact ⟨⟨d0, d1, d2, n1, z1⟩, l1, fun _ => ⟨a1, k1, l3, c0, c1, c2, c3, r1⟩⟩
      · exact ⟨⟨0, 0, 0, 0, fun _ => ⟨0, 0, 0⟩⟩, Nat.zero_le _, fun h => absurd h hj⟩
    exact ⟨fun j => Classical.choose (key j), hl, fun j => (Classical.choose_spec (key j)).1, .inr ⟨b, off, e1, hb, fun j hj => (Classical.choose_spec (key j)).2 hj⟩⟩

end Go.Proofs.Ytogolmbgboihdaa
