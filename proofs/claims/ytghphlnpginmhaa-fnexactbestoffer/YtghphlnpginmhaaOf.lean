/- Rows of Offer in memory, each with a row of texts; the laws' own functions over them: sizes, copies, likeness; such rows that came in. -/
import Derived.Test.YtghphlnpginmhaaSc
import Derived.Deep.RegionHeld3
import Derived.Deep.RegionWith
import Derived.Outline
import Derived.Handy
import Derived.Laws.EntriesVeiled
namespace Go.Proofs.Ytghphlnpginmhaa
open Go.ChangeShapes Go.WideShapes Go.ChangeAt Go.RowKit
set_option linter.unusedVariables false
set_option linter.unusedSimpArgs false

structure OF where
  who : ByteArray
  item : ByteArray
  cur : Int
  fst : Int
  lst : Int
  lea : Int
  rn : Nat
  rz : Nat → SC2
def AtOF (w : World) (k o : Nat) (c : OF) : Prop :=
  ∃ ra rc, c.rn ≤ rc ∧ w.cell? ⟨k, o, none⟩ = some (.string c.who) ∧ w.cell? ⟨k, o + 1, none⟩ = some (.string c.item) ∧ w.cell? ⟨k, o + 2, none⟩ = some (.int .i64 c.cur) ∧ w.cell? ⟨k, o + 3, none⟩ = some (.int .i64 c.fst) ∧ w.cell? ⟨k, o + 4, none⟩ = some (.int .i64 c.lst) ∧ w.cell? ⟨k, o + 5, none⟩ = some (.int .i64 c.lea) ∧ w.cell? ⟨k, o + 6, none⟩ = some (.slice ra c.rn rc) ∧ SCr w ra c.rn c.rz
theorem AtOF.below {w w' : World} {k o : Nat} {c : OF} (H : AtOF w k o c) (hb : k < w.heap.size) (t : Below w.heap.size w w') : AtOF w' k o c := by
  obtain ⟨ra, rc, hrc, h0, h1, h2, h3, h4, h5, h6, hR⟩ := H
  refine ⟨ra, rc, hrc, ?_, ?_, ?_, ?_, ?_, ?_, ?_, hR.below t⟩ <;> (rw [World.cell?_of_block (w := w) (t.block k hb)]; assumption)
def OFr (w : World) (ad : Option Addr) (len : Nat) (c : Nat → OF) : Prop :=
  len = 0 ∨ ∃ k off, ad = some ⟨k, off, none⟩ ∧ k < w.heap.size ∧ ∀ j, j < len → AtOF w k (off + j * 7) (c j)
theorem OFr.below {w w' : World} {ad : Option Addr} {len : Nat} {c : Nat → OF} (H : OFr w ad len c) (t : Below w.heap.size w w') : OFr w' ad len c := by
  rcases H with h | ⟨k, off, e, hk, hc⟩
  · exact .inl h
  · exact .inr ⟨k, off, e, Nat.lt_of_lt_of_le hk t.size, fun j hj => (hc j hj).below hk t⟩
theorem OFr.alloc {w : World} {ad : Option Addr} {len : Nat} {c : Nat → OF} (H : OFr w ad len c) (o : Obj) : OFr (w.alloc o) ad len c := H.below ((Below.refl _ _).alloc (Nat.le_refl _) o)
theorem OFr.drewN {w : World} {ad : Option Addr} {len : Nat} {c : Nat → OF} (H : OFr w ad len c) (q : Nat) : OFr (w.drewN q) ad len c := H
theorem OFr.cell {w : World} {k off len : Nat} {c : Nat → OF} (H : OFr w (some ⟨k, off, none⟩) len c) {j : Nat} (hj : j < len) : AtOF w k (off + j * 7) (c j) := by
  rcases H with h | ⟨k', off', e, hk, hc⟩
  · omega
  · simp only [Option.some.injEq, Addr.mk.injEq] at e
    obtain ⟨rfl, rfl, _⟩ := e
    exact hc j hj
theorem OFr.addr {w : World} {ad : Option Addr} {len : Nat} {c : Nat → OF} (H : OFr w ad len c) (h : 0 < len) : ∃ k off, ad = some ⟨k, off, none⟩ ∧ k < w.heap.size := by
  rcases H with h' | ⟨k', off', e, hk, hc⟩
  · omega
  · exact ⟨k', off', e, hk⟩
theorem OFr.mono {w : World} {ad : Option Addr} {len n : Nat} {c : Nat → OF} (H : OFr w ad len c) (h : n ≤ len) : OFr w ad n c := by
  rcases H with h' | ⟨k', off', e, hk, hc⟩
  · exact .inl (by omega)
  · exact .inr ⟨k', off', e, hk, fun j hj => hc j (by omega)⟩

set_option maxRecDepth 20000 in
set_option maxHeartbeats 2000000 in
theorem szOF_any (x0 : ByteArray) (x1 : ByteArray) (x2 : Int) (x3 : Int) (x4 : Int) (x5 : Int) (ra : Option Addr) (rn rc : Nat) (rz : Nat → SC2) (L : Int) (w : World) (h0 : 0 ≤ L) (hL : L ≤ 1048576) (hrn : (rn : Int) ≤ 9223372036854775807) (hs0 : (x0.size : Int) ≤ 9223372036854775807) (hs1 : (x1.size : Int) ≤ 9223372036854775807) (hR : SCr w ra rn rz) :
    Calls Try.prog 21 #[.agg #[.string x0, .string x1, .int .i64 x2, .int .i64 x3, .int .i64 x4, .int .i64 x5, .slice ra rn rc], .int .i64 L] w fun e w' => ∃ v : Int, e = .returned (.int .i64 v) ∧ (v = -1 ∨ (0 ≤ v ∧ v ≤ 1048576 ∧ (rn : Int) ≤ 1048576)) ∧ Below w.heap.size w w' := by
  have HR : Hid (SCr w ra rn rz) := hR
  have HBL : Hid (Below w.heap.size w (w.alloc (.cells #[.string x0, .string x1, .int .i64 x2, .int .i64 x3, .int .i64 x4, .int .i64 x5, .slice ra rn rc] 52 (0, 0)))) := (Below.refl _ _).alloc (Nat.le_refl _) _
  clear hR
  by_cases g0 : L < (x0.size : Int)
  · have d : L - (x0.size : Int) < 0 := by omega
    go_enter Try.func21, Try.ntmps21
    go_wp2
    go_returns
    exact ⟨-1, rfl, .inl rfl, by go_grown⟩
  have d0 : ¬ L - (x0.size : Int) < 0 := by omega
  by_cases g1 : L - (x0.size : Int) < (x1.size : Int)
  · have d : L - (x0.size : Int) - (x1.size : Int) < 0 := by omega
    go_enter Try.func21, Try.ntmps21
    go_wp2
    go_returns
    exact ⟨-1, rfl, .inl rfl, by go_grown⟩
  have d1 : ¬ L - (x0.size : Int) - (x1.size : Int) < 0 := by omega
  go_enter Try.func21, Try.ntmps21
  go_wp2_with (go_at_call 85; go_loud (refine (szSC2S_any _ _ _ _ _ (by omega) (by omega) hrn).mono ?_; rintro e w' ⟨v, rfl, hv, ew⟩; replace ew := ew.symm; subst ew; rcases hv with rfl | ⟨hv0, hv1, hv2⟩))
  all_goals go_returns
  all_goals first
    | exact ⟨-1, rfl, .inl rfl, HBL.out⟩
    | exact ⟨v, rfl, .inr ⟨by omega, by omega, hv2⟩, HBL.out⟩
set_option maxRecDepth 20000 in
set_option maxHeartbeats 4000000 in
theorem szOFS_any (ad : Option Addr) (len cap : Nat) (c : Nat → OF) (L0 : Int) (w : World) (g0 : 0 ≤ L0) (g1 : L0 ≤ 1048576) (hl : (len : Int) ≤ 9223372036854775807) (hrn : ∀ j, ((c j).rn : Int) ≤ 9223372036854775807) (hc0 : ∀ j, ((c j).who.size : Int) ≤ 9223372036854775807) (hc1 : ∀ j, ((c j).item.size : Int) ≤ 9223372036854775807) (hr : OFr w ad len c) :
    Calls Try.prog 27 #[.slice ad len cap, .int .i64 L0] w fun e w' => ∃ v : Int, e = .returned (.int .i64 v) ∧ (v = -1 ∨ (0 ≤ v ∧ v ≤ 1048576 ∧ (len : Int) ≤ 1048576 ∧ ∀ j, j < len → ((c j).rn : Int) ≤ 1048576)) ∧ Below w.heap.size w w' := by
  have HR : Hid (OFr w ad len c) := hr
  have HRN : Hid (∀ j, ((c j).rn : Int) ≤ 9223372036854775807) := hrn
  have HC0 : Hid (∀ j, ((c j).who.size : Int) ≤ 9223372036854775807) := hc0
  have HC1 : Hid (∀ j, ((c j).item.size : Int) ≤ 9223372036854775807) := hc1
  clear hr hrn hc0 hc1
  by_cases h : (len : Int) ≤ L0
  · have h2 : (0 : Int) ≤ L0 - (len : Int) := by omega
    go_enter Try.func27, Try.ntmps27
    go_wp2
    go_loopw [1, 5] (fun l i wr => ∃ (k : Nat) (L : Int), k ≤ len ∧ i = .int .i64 (k : Int) ∧ l = .int .i64 L ∧ 0 ≤ L ∧ L ≤ 1048576 ∧ Hid ((∀ j, j < k → ((c j).rn : Int) ≤ 1048576) ∧ Below w.heap.size w wr)) (fun _ i _ => len - (intOf i).toNat)
    case atStart => exact ⟨0, _, Nat.zero_le _, rfl, rfl, by omega, by omega, fun j hj => by omega, Below.refl _ _⟩
    case round =>
      obtain ⟨k, L, hk, rfl, rfl, hL0, hL1, HH⟩ := hrel
      by_cases hlt : k < len
      · have hlt2 : (k : Int) < (len : Int) := by omega
        obtain ⟨kb, off, rfl, _⟩ := HR.out.addr (by omega)
        obtain ⟨ra, rc, _, c0, c1, c2, c3, c4, c5, c6, r5⟩ := (HR.out.below HH.out.2).cell hlt
        have HSZ : Hid (Calls Try.prog 21 #[.agg #[.string (c k).who, .string (c k).item, .int .i64 (c k).cur, .int .i64 (c k).fst, .int .i64 (c k).lst, .int .i64 (c k).lea, .slice ra (c k).rn rc], .int .i64 L] wr _) := szOF_any (c k).who (c k).item (c k).cur (c k).fst (c k).lst (c k).lea ra (c k).rn rc (c k).rz L wr hL0 hL1 (HRN.out k) (HC0.out k) (HC1.out k) r5
        have HN : Hid (∀ v : Int, ((c k).rn : Int) ≤ 1048576 → ∀ j, j < k + 1 → ((c j).rn : Int) ≤ 1048576) := fun _ q j hj => by
          by_cases e : j = k
          · subst e; exact q
          · exact HH.out.1 j (by omega)
        clear r5
        generalize (c k).who = x0 at c0 HSZ
        generalize (c k).item = x1 at c1 HSZ
        generalize (c k).cur = x2 at c2 HSZ
        generalize (c k).fst = x3 at c3 HSZ
        generalize (c k).lst = x4 at c4 HSZ
        generalize (c k).lea = x5 at c5 HSZ
        generalize (c k).rn = rn at c6 HSZ HN
        go_wp2_with (go_at_call 21; go_loud (refine HSZ.out.mono ?_; rintro e w1 ⟨v, rfl, hv, b1⟩; have HB1 : Hid (Below w.heap.size w w1) := bel_on HH.out.2 b1; clear b1 HSZ; rcases hv with rfl | ⟨hv0, hv1, hv2⟩))
        · go_returns
          exact ⟨-1, rfl, .inl rfl, HB1.out⟩
        · have hv3 : ¬ v < 0 := by omega
          go_wp2
          go_roundw
          case rel => exact ⟨k + 1, v, by omega, by go_num, rfl, hv0, hv1, HN.out v hv2, HB1.out⟩
          case measure => simp [intOf]; omega
      · obtain rfl : k = len := by omega
        have lkk : ¬ (k : Int) < (k : Int) := by omega
        go_wp2
        go_returns
        exact ⟨L, rfl, .inr ⟨hL0, hL1, by omega, HH.out.1⟩, HH.out.2⟩
  · have h3 : L0 - (len : Int) < 0 := by omega
    go_enter Try.func27, Try.ntmps27
    go_wp2
    go_returns
    exact ⟨-1, rfl, .inl rfl, Below.refl _ _⟩

def zerosOF (n : Nat) : Array Value := madeCells #[.string ByteArray.empty, .string ByteArray.empty, .int .i64 0, .int .i64 0, .int .i64 0, .int .i64 0, .slice none 0 0] (n * 7)
theorem zerosOF_size (n : Nat) : (zerosOF n).size = n * 7 := size_madeCells _ _
set_option maxRecDepth 100000 in
theorem mkOF (n : Nat) (h : (n : Int) ≤ 1048576) (w : World) : (Instr.makeSlice 24 (.int .i64 (n : Int)) (.int .i64 (n : Int))).run Try.prog w = .ok (.slice (some ⟨w.heap.size, 0, none⟩) n n) (w.alloc (.cells (zerosOF n) 34)) := by
  obtain ⟨i, hi⟩ : ∃ i, Try.prog.info? 34 = some i := ⟨_, rfl⟩
  have hz : i.zero = some (.agg #[.string ByteArray.empty, .string ByteArray.empty, .int .i64 0, .int .i64 0, .int .i64 0, .int .i64 0, .slice none 0 0]) := by
    have : (Try.prog.info? 34).bind (·.zero) = some (.agg #[.string ByteArray.empty, .string ByteArray.empty, .int .i64 0, .int .i64 0, .int .i64 0, .int .i64 0, .slice none 0 0]) := by kernel_rfl
    rw [hi] at this; exact this
  have hs : i.size = 7 := by
    have : (Try.prog.info? 34).map (·.size) = some 7 := by kernel_rfl
    rw [hi] at this; simpa using this
  have hb : i.bytes = 88 := by
    have : (Try.prog.info? 34).map (·.bytes) = some 88 := by kernel_rfl
    rw [hi] at this; simpa using this
  have hr := run_make (P := Try.prog) w 24 34 i (.agg #[.string ByteArray.empty, .string ByteArray.empty, .int .i64 0, .int .i64 0, .int .i64 0, .int .i64 0, .slice none 0 0]) Try.underlying24 hi hz .i64 .i64 n n (by omega) (by omega) (by rw [hb]; omega) (by omega)
  simp only [Int.toNat_natCast, hs] at hr
  exact hr

/-- A row of texts in a block of its own. -/
def SAt (w : World) (b n : Nat) (z : Nat → SC2) : Prop := SCr w (some ⟨b, 0, none⟩) n z ∧ ∃ cs, CB w b cs 138 ∧ cs.size = n * 2
section
variable {w w' : World} {b n : Nat} {z : Nat → SC2}
theorem SAt.lt (H : SAt w b n z) : b < w.heap.size := by obtain ⟨_, cs, h, _⟩ := H; exact h.lt
theorem SAt.below (H : SAt w b n z) (k : Below w.heap.size w w') : SAt w' b n z := by obtain ⟨h, cs, h1, h2⟩ := H; exact ⟨h.below k, cs, h1.below k h1.lt, h2⟩
theorem SAt.other (H : SAt w b n z) {c o : Nat} (u : Value) (h : b ≠ c) : SAt (w.setCell ⟨c, o, none⟩ u) b n z := by
  obtain ⟨h0, cs, h1, h2⟩ := H
  exact ⟨h0.other u (fun k off e => by simp only [Option.some.injEq, Addr.mk.injEq] at e; omega), cs, h1.other u h, h2⟩
end
theorem toStr_at {ad : Option Addr} {len cap : Nat} {z : Nat → SC2} {w : World} {b : Nat} (hb : w.heap.size = b) (h : (len : Int) ≤ 1048576) (hr : SCr w ad len z) :
    Calls Try.prog 88 #[.slice ad len cap] w fun e w' => e = .returned (.slice (some ⟨b, 0, none⟩) len len) ∧ SAt w' b len z ∧ Below w.heap.size w w' := by
  subst hb; exact toSC2S_any ad len cap z w h hr
theorem two_bl {w w1 : World} {bs cs : Array Value} {s t : TypeId} (b : Below ((w.alloc (.cells bs s (0, 0))).alloc (.cells cs t (0, 0))).heap.size ((w.alloc (.cells bs s (0, 0))).alloc (.cells cs t (0, 0))) w1) :
    CB w1 w.heap.size bs s ∧ CB w1 (w.heap.size + 1) cs t ∧ Below w.heap.size w w1 := by
  refine ⟨?_, ?_, ?_⟩
  · exact ((CB.new bs s).alloc _).below b (by simp; omega)
  · exact (CB.newAt (by simp) cs t).below b (by simp)
  · exact bel_on (((Below.refl _ _).alloc (Nat.le_refl _) _).alloc (by simp) _) b
theorem three_bl {w w1 : World} {bs cs ds : Array Value} {s t u : TypeId} (b : Below (((w.alloc (.cells bs s (0, 0))).alloc (.cells cs t (0, 0))).alloc (.cells ds u (0, 0))).heap.size (((w.alloc (.cells bs s (0, 0))).alloc (.cells cs t (0, 0))).alloc (.cells ds u (0, 0))) w1) :
    CB w1 w.heap.size bs s ∧ CB w1 (w.heap.size + 1) cs t ∧ CB w1 (w.heap.size + 1 + 1) ds u ∧ Below w.heap.size w w1 := by
  refine ⟨?_, ?_, ?_, ?_⟩
  · exact (((CB.new bs s).alloc _).alloc _).below b (by simp; omega)
  · exact ((CB.newAt (by simp) cs t).alloc _).below b (by simp)
  · exact (CB.newAt (by simp) ds u).below b (by simp)
  · exact bel_on ((((Below.refl _ _).alloc (Nat.le_refl _) _).alloc (by simp) _).alloc (by simp; omega) _) b

set_option maxRecDepth 20000 in
set_option maxHeartbeats 4000000 in
theorem toOF_any (x0 : ByteArray) (x1 : ByteArray) (x2 : Int) (x3 : Int) (x4 : Int) (x5 : Int) (ra : Option Addr) (rn rc : Nat) (rz : Nat → SC2) (w : World) (h1 : (rn : Int) ≤ 1048576) (hT : SCr w ra rn rz) :
    Calls Try.prog 23 #[.agg #[.string x0, .string x1, .int .i64 x2, .int .i64 x3, .int .i64 x4, .int .i64 x5, .slice ra rn rc]] w fun e w' => ∃ bt, e = .returned (.agg #[.string x0, .string x1, .int .i64 x2, .int .i64 x3, .int .i64 x4, .int .i64 x5, .slice (some ⟨bt, 0, none⟩) rn rn]) ∧ w.heap.size ≤ bt ∧ SAt w' bt rn rz ∧ Below w.heap.size w w' := by
  have HT : Hid (SCr w ra rn rz) := hT
  have HBL : Hid (Below w.heap.size w (((w.alloc (.cells #[.string x0, .string x1, .int .i64 x2, .int .i64 x3, .int .i64 x4, .int .i64 x5, .slice ra rn rc] 52 (0, 0))).alloc (.cells #[.string ⟨#[]⟩, .string ⟨#[]⟩, .int .i64 0, .int .i64 0, .int .i64 0, .int .i64 0, .slice none 0 0] 34 (0, 0))).alloc (.cells #[.string x0, .string x1, .int .i64 x2, .int .i64 x3, .int .i64 x4, .int .i64 x5, .slice none 0 0] 34 (0, 0)))) := (((Below.refl _ _).alloc (Nat.le_refl _) _).alloc (by simp) _).alloc (by simp; omega) _
  clear hT
  go_enter Try.func23, Try.ntmps23
  go_wp2_with (go_at_call 88; go_loud (refine (toStr_at (b := w.heap.size + 1 + 1 + 1) (by simp) h1 (HT.out.below HBL.out)).mono ?_; rintro e w1 ⟨rfl, o1, b1⟩; obtain ⟨C0, C1, C2, b2⟩ := three_bl b1; have k0 := (C2.cell 0).trans rfl; have m0 := (C1.cell 0).trans rfl; have g0 := C1.fr 0; have k1 := (C2.cell 1).trans rfl; have m1 := (C1.cell 1).trans rfl; have g1 := C1.fr 1; have k2 := (C2.cell 2).trans rfl; have m2 := (C1.cell 2).trans rfl; have g2 := C1.fr 2; have k3 := (C2.cell 3).trans rfl; have m3 := (C1.cell 3).trans rfl; have g3 := C1.fr 3; have k4 := (C2.cell 4).trans rfl; have m4 := (C1.cell 4).trans rfl; have g4 := C1.fr 4; have k5 := (C2.cell 5).trans rfl; have m5 := (C1.cell 5).trans rfl; have g5 := C1.fr 5; have k6 := (C2.cell 6).trans rfl; have m6 := (C1.cell 6).trans rfl; have g6 := C1.fr 6; have f6 := C2.fr 6;  have HC1 : Hid (CB w1 (w.heap.size + 1) #[.string ⟨#[]⟩, .string ⟨#[]⟩, .int .i64 0, .int .i64 0, .int .i64 0, .int .i64 0, .slice none 0 0] 34) := C1; have HO1 : Hid (SAt w1 (w.heap.size + 1 + 1 + 1) rn rz) := o1; have HB1 : Hid (Below w.heap.size w w1) := b2; have hs1 := o1.lt; clear C0 C1 C2 b1 b2 o1))
  have hX := ((((((((HC1.out.other (c := w.heap.size + 1 + 1) (o := 6) (.slice (some ⟨w.heap.size + 1 + 1 + 1, 0, none⟩) rn rn) (by omega)).set 0 (.string x0)).set 1 (.string x1)).set 2 (.int .i64 x2)).set 3 (.int .i64 x3)).set 4 (.int .i64 x4)).set 5 (.int .i64 x5)).set 6 (.slice (some ⟨w.heap.size + 1 + 1 + 1, 0, none⟩) rn rn))
  have hY := ((((((((HO1.out.other (c := w.heap.size + 1 + 1) (o := 6) (.slice (some ⟨w.heap.size + 1 + 1 + 1, 0, none⟩) rn rn) (by omega)).other (c := w.heap.size + 1) (o := 0) (.string x0) (by omega)).other (c := w.heap.size + 1) (o := 1) (.string x1) (by omega)).other (c := w.heap.size + 1) (o := 2) (.int .i64 x2) (by omega)).other (c := w.heap.size + 1) (o := 3) (.int .i64 x3) (by omega)).other (c := w.heap.size + 1) (o := 4) (.int .i64 x4) (by omega)).other (c := w.heap.size + 1) (o := 5) (.int .i64 x5) (by omega)).other (c := w.heap.size + 1) (o := 6) (.slice (some ⟨w.heap.size + 1 + 1 + 1, 0, none⟩) rn rn) (by omega))
  have hZ := ((((((((HB1.out.setCell (p := ⟨w.heap.size + 1 + 1, 6, none⟩) (by simp; omega) (.slice (some ⟨w.heap.size + 1 + 1 + 1, 0, none⟩) rn rn)).setCell (p := ⟨w.heap.size + 1, 0, none⟩) (by simp) (.string x0)).setCell (p := ⟨w.heap.size + 1, 1, none⟩) (by simp) (.string x1)).setCell (p := ⟨w.heap.size + 1, 2, none⟩) (by simp) (.int .i64 x2)).setCell (p := ⟨w.heap.size + 1, 3, none⟩) (by simp) (.int .i64 x3)).setCell (p := ⟨w.heap.size + 1, 4, none⟩) (by simp) (.int .i64 x4)).setCell (p := ⟨w.heap.size + 1, 5, none⟩) (by simp) (.int .i64 x5)).setCell (p := ⟨w.heap.size + 1, 6, none⟩) (by simp) (.slice (some ⟨w.heap.size + 1 + 1 + 1, 0, none⟩) rn rn))
  have e0 := hX.cell 0
  have e1 := hX.cell 1
  have e2 := hX.cell 2
  have e3 := hX.cell 3
  have e4 := hX.cell 4
  have e5 := hX.cell 5
  have e6 := hX.cell 6
  simp at e0 e1 e2 e3 e4 e5 e6
  clear hX k0 m0 g0 k1 m1 g1 k2 m2 g2 k3 m3 g3 k4 m4 g4 k5 m5 g5 k6 m6 g6 f6 HC1 HO1 HB1 HBL
  generalize (World.setCell _ _ _) = W5 at e0 e1 e2 e3 e4 e5 e6 hY hZ ⊢
  refine bodyPost_ret (by simp [results, Try.results23, go_sem, e0, e1, e2, e3, e4, e5, e6]; try rfl) rfl ?_
  exact ⟨_, rfl, by omega, hY, hZ⟩

set_option maxRecDepth 20000 in
set_option maxHeartbeats 1000000 in
theorem eqOF_same (x0 : ByteArray) (x1 : ByteArray) (x2 : Int) (x3 : Int) (x4 : Int) (x5 : Int) (ra rb : Option Addr) (rn rc rd : Nat) (rz : Nat → SC2) (w : World) (h1 : (rn : Int) ≤ 1048576) (hT : SCr w ra rn rz) (hT2 : SCr w rb rn rz) :
    Calls Try.prog 25 #[.agg #[.string x0, .string x1, .int .i64 x2, .int .i64 x3, .int .i64 x4, .int .i64 x5, .slice ra rn rc], .agg #[.string x0, .string x1, .int .i64 x2, .int .i64 x3, .int .i64 x4, .int .i64 x5, .slice rb rn rd]] w fun e w' => e = .returned (.bool true) ∧ Below w.heap.size w w' := by
  have HT : Hid (SCr w ra rn rz) := hT
  have HT2 : Hid (SCr w rb rn rz) := hT2
  have HBL : Hid (Below w.heap.size w ((w.alloc (.cells #[.string x0, .string x1, .int .i64 x2, .int .i64 x3, .int .i64 x4, .int .i64 x5, .slice ra rn rc] 34 (0, 0))).alloc (.cells #[.string x0, .string x1, .int .i64 x2, .int .i64 x3, .int .i64 x4, .int .i64 x5, .slice rb rn rd] 34 (0, 0)))) := ((Below.refl _ _).alloc (Nat.le_refl _) _).alloc (by simp) _
  clear hT hT2
  go_enter Try.func25, Try.ntmps25
  go_wp2_with (go_at_call 95; go_loud (refine (eqSC2S_same _ _ _ _ _ rz _ h1 (HT.out.below HBL.out) (HT2.out.below HBL.out)).mono ?_; rintro e w1 ⟨rfl, b1⟩; obtain ⟨C1, C2, b2⟩ := two_bl b1;  have HB1 : Hid (Below w.heap.size w w1) := b2; clear b1 b2 C1 C2))
  go_returns
  exact ⟨rfl, HB1.out⟩

/-- Rows in a block of their own, each one's texts in a block of its own behind it. -/
structure OOF (w : World) (B m k : Nat) (c : Nat → OF) (bt : Nat → Nat) : Prop where
  main : ∃ cs, CB w B cs 34 ∧ cs.size = m * 7 ∧ ∀ j, j < k → cs[j * 7]? = some (.string (c j).who) ∧ cs[j * 7 + 1]? = some (.string (c j).item) ∧ cs[j * 7 + 2]? = some (.int .i64 (c j).cur) ∧ cs[j * 7 + 3]? = some (.int .i64 (c j).fst) ∧ cs[j * 7 + 4]? = some (.int .i64 (c j).lst) ∧ cs[j * 7 + 5]? = some (.int .i64 (c j).lea) ∧ cs[j * 7 + 6]? = some (.slice (some ⟨bt j, 0, none⟩) (c j).rn (c j).rn)
  t : ∀ j, j < k → SAt w (bt j) (c j).rn (c j).rz
  ap : ∀ j, j < k → B < bt j
  inc : ∀ i j, i < j → j < k → bt i < bt j
section
variable {w w' : World} {B m k : Nat} {c : Nat → OF} {bt : Nat → Nat}
theorem OOF.lt (H : OOF w B m k c bt) : B < w.heap.size := by obtain ⟨cs, h, _⟩ := H.main; exact h.lt
theorem OOF.below (H : OOF w B m k c bt) (b : Below w.heap.size w w') : OOF w' B m k c bt := by
  obtain ⟨cs, h, h2⟩ := H.main
  exact ⟨⟨cs, h.below b h.lt, h2⟩, fun j hj => (H.t j hj).below b, H.ap, H.inc⟩
theorem OOF.row (H : OOF w B m m c bt) : OFr w (some ⟨B, 0, none⟩) m c := by
  obtain ⟨cs, h, h1, h2⟩ := H.main
  refine .inr ⟨B, 0, rfl, h.lt, fun j hj => ?_⟩
  obtain ⟨q0, q1, q2, q3, q4, q5, q6⟩ := h2 j hj
  refine ⟨some ⟨bt j, 0, none⟩, (c j).rn, Nat.le_refl _, ?_, ?_, ?_, ?_, ?_, ?_, ?_, (H.t j hj).1⟩ <;> (rw [Nat.zero_add, h.cell]; assumption)
theorem OOF.step {t1 : Nat} (H : OOF w B m k c bt) (hk : k < m) (h1 : SAt w t1 (c k).rn (c k).rz) (hb : B < t1) (hn : ∀ j, j < k → bt j < t1) :
    OOF (((((((w.setCell ⟨B, k * 7, none⟩ (.string (c k).who)).setCell ⟨B, k * 7 + 1, none⟩ (.string (c k).item)).setCell ⟨B, k * 7 + 2, none⟩ (.int .i64 (c k).cur)).setCell ⟨B, k * 7 + 3, none⟩ (.int .i64 (c k).fst)).setCell ⟨B, k * 7 + 4, none⟩ (.int .i64 (c k).lst)).setCell ⟨B, k * 7 + 5, none⟩ (.int .i64 (c k).lea)).setCell ⟨B, k * 7 + 6, none⟩ (.slice (some ⟨t1, 0, none⟩) (c k).rn (c k).rn)) B m (k + 1) c (fun j => if j = k then t1 else bt j) := by
  obtain ⟨cs, c1, c2, c3⟩ := H.main
  refine ⟨⟨_, (((((((c1.set _ _).set _ _).set _ _).set _ _).set _ _).set _ _).set _ _), by simpa using c2, fun j hj => ?_⟩, fun j hj => ?_, fun j hj => ?_, fun i j hi hj => ?_⟩
  · by_cases e : j = k
    · subst e
      simp only [if_true]
      refine ⟨?_, ?_, ?_, ?_, ?_, ?_, ?_⟩
      · rw [get_set_ne (by omega), get_set_ne (by omega), get_set_ne (by omega), get_set_ne (by omega), get_set_ne (by omega), get_set_ne (by omega), get_set_eq (by (try simp); omega)]
      · rw [get_set_ne (by omega), get_set_ne (by omega), get_set_ne (by omega), get_set_ne (by omega), get_set_ne (by omega), get_set_eq (by (try simp); omega)]
      · rw [get_set_ne (by omega), get_set_ne (by omega), get_set_ne (by omega), get_set_ne (by omega), get_set_eq (by (try simp); omega)]
      · rw [get_set_ne (by omega), get_set_ne (by omega), get_set_ne (by omega), get_set_eq (by (try simp); omega)]
      · rw [get_set_ne (by omega), get_set_ne (by omega), get_set_eq (by (try simp); omega)]
      · rw [get_set_ne (by omega), get_set_eq (by (try simp); omega)]
      · rw [get_set_eq (by (try simp); omega)]
    · simp only [if_neg e]
      obtain ⟨q0, q1, q2, q3, q4, q5, q6⟩ := c3 j (by omega)
      refine ⟨?_, ?_, ?_, ?_, ?_, ?_, ?_⟩ <;> (rw [get_set_ne (by omega), get_set_ne (by omega), get_set_ne (by omega), get_set_ne (by omega), get_set_ne (by omega), get_set_ne (by omega), get_set_ne (by omega)]; assumption)
  · by_cases e : j = k
    · subst e; simp only [if_true]; have hne : t1 ≠ B := by omega
      exact (((((((h1.other _ hne).other _ hne).other _ hne).other _ hne).other _ hne).other _ hne).other _ hne)
    · simp only [if_neg e]; have hne : bt j ≠ B := by have := H.ap j (by omega); omega
      exact ((((((((H.t j (by omega)).other _ hne).other _ hne).other _ hne).other _ hne).other _ hne).other _ hne).other _ hne)
  · by_cases e : j = k
    · simp only [if_pos e]; exact hb
    · simp only [if_neg e]; exact H.ap j (by omega)
  · by_cases e : j = k
    · have e2 : i ≠ k := by omega
      simp only [if_pos e, if_neg e2]; exact hn i (by omega)
    · have e2 : i ≠ k := by omega
      simp only [if_neg e, if_neg e2]; exact H.inc i j hi (by omega)
end

set_option maxRecDepth 20000 in
set_option maxHeartbeats 4000000 in
theorem toOFS_any (ad : Option Addr) (m cap : Nat) (c : Nat → OF) (w : World) (h : (m : Int) ≤ 1048576) (hl : ∀ j, j < m → ((c j).rn : Int) ≤ 1048576) (HR0 : OFr w ad m c) :
    Calls Try.prog 29 #[.slice ad m cap] w fun e w' => e = .returned (.slice (some ⟨w.heap.size, 0, none⟩) m m) ∧ (∃ bt, OOF w' w.heap.size m m c bt) ∧ Below w.heap.size w w' := by
  have HR : Hid (OFr w ad m c) := HR0
  have HN : Hid (∀ j, j < m → ((c j).rn : Int) ≤ 1048576) := hl
  have hmk := mkOF m h
  clear HR0 hl
  go_enter Try.func29, Try.ntmps29
  go_wp2
  go_loopw [4] (fun i wr => ∃ (k : Nat) (bt : Nat → Nat), k ≤ m ∧ i = .int .i64 (k : Int) ∧ Hid (OOF wr w.heap.size m k c bt ∧ Below w.heap.size w wr)) (fun i _ => m - (intOf i).toNat)
  case atStart => exact ⟨0, fun _ => 0, Nat.zero_le _, rfl, ⟨⟨zerosOF m, CB.new _ _, zerosOF_size _, fun j hj => by omega⟩, fun j hj => by omega, fun j hj => by omega, fun i j hi hj => by omega⟩, (Below.refl _ _).alloc (Nat.le_refl _) _⟩
  case round =>
    obtain ⟨k, bt, hk, rfl, HO⟩ := hrel
    by_cases hlt : k < m
    · obtain ⟨kb, off, rfl, hkb⟩ := HR.out.addr (by omega)
      have HB : Hid (Below w.heap.size w wr) := HO.out.2
      obtain ⟨ra, rc, _, c0, c1, c2, c3, c4, c5, c6, r5⟩ := (HR.out.below HB.out).cell hlt
      have HT : Hid (SCr wr ra (c k).rn (c k).rz) := r5
      obtain ⟨cs, hC, hsz, _⟩ := HO.out.1.main
      obtain ⟨v0, d0⟩ : ∃ v, cs[k * 7]? = some v := ⟨cs[k * 7]'(by omega), Array.getElem?_eq_getElem (by omega)⟩
      obtain ⟨v1, d1⟩ : ∃ v, cs[k * 7 + 1]? = some v := ⟨cs[k * 7 + 1]'(by omega), Array.getElem?_eq_getElem (by omega)⟩
      obtain ⟨v2, d2⟩ : ∃ v, cs[k * 7 + 2]? = some v := ⟨cs[k * 7 + 2]'(by omega), Array.getElem?_eq_getElem (by omega)⟩
      obtain ⟨v3, d3⟩ : ∃ v, cs[k * 7 + 3]? = some v := ⟨cs[k * 7 + 3]'(by omega), Array.getElem?_eq_getElem (by omega)⟩
      obtain ⟨v4, d4⟩ : ∃ v, cs[k * 7 + 4]? = some v := ⟨cs[k * 7 + 4]'(by omega), Array.getElem?_eq_getElem (by omega)⟩
      obtain ⟨v5, d5⟩ : ∃ v, cs[k * 7 + 5]? = some v := ⟨cs[k * 7 + 5]'(by omega), Array.getElem?_eq_getElem (by omega)⟩
      obtain ⟨v6, d6⟩ : ∃ v, cs[k * 7 + 6]? = some v := ⟨cs[k * 7 + 6]'(by omega), Array.getElem?_eq_getElem (by omega)⟩
      have HC : Hid (CB wr w.heap.size cs 34) := hC
      have hnk := HN.out k hlt
      have hlt2 : (k : Int) < (m : Int) := by omega
      have HD0 : Hid (cs[k * 7]? = some v0) := d0
      have HD1 : Hid (cs[k * 7 + 1]? = some v1) := d1
      have HD2 : Hid (cs[k * 7 + 2]? = some v2) := d2
      have HD3 : Hid (cs[k * 7 + 3]? = some v3) := d3
      have HD4 : Hid (cs[k * 7 + 4]? = some v4) := d4
      have HD5 : Hid (cs[k * 7 + 5]? = some v5) := d5
      have HD6 : Hid (cs[k * 7 + 6]? = some v6) := d6
      clear hC hsz r5 d0 d1 d2 d3 d4 d5 d6
      go_wp2_with (go_at_call 23; go_loud (refine (toOF_any _ _ _ _ _ _ _ _ _ (c k).rz _ hnk HT.out).mono ?_; rintro e w1 ⟨t1, rfl, hb, o1, b1⟩; have X1 : CB w1 w.heap.size cs 34 := HC.out.below b1 HC.out.lt; have y0 := (X1.cell (k * 7)).trans HD0.out; have f0 := X1.fr (k * 7); have y1 := (X1.cell (k * 7 + 1)).trans HD1.out; have f1 := X1.fr (k * 7 + 1); have y2 := (X1.cell (k * 7 + 2)).trans HD2.out; have f2 := X1.fr (k * 7 + 2); have y3 := (X1.cell (k * 7 + 3)).trans HD3.out; have f3 := X1.fr (k * 7 + 3); have y4 := (X1.cell (k * 7 + 4)).trans HD4.out; have f4 := X1.fr (k * 7 + 4); have y5 := (X1.cell (k * 7 + 5)).trans HD5.out; have f5 := X1.fr (k * 7 + 5); have y6 := (X1.cell (k * 7 + 6)).trans HD6.out; have f6 := X1.fr (k * 7 + 6); have HP : Hid (wr.heap.size ≤ t1) := hb; have HO1 : Hid (SAt w1 t1 (c k).rn (c k).rz) := o1; have HX : Hid (OOF w1 w.heap.size m k c bt) := HO.out.1.below b1; have HB1 : Hid (Below w.heap.size w w1) := bel_on HB.out b1; clear X1 b1 o1 hb))
      go_roundw
      case rel =>
        have hlt3 := HC.out.lt
        have hp := HP.out
        exact ⟨k + 1, _, by omega, by go_num, HX.out.step hlt HO1.out (by omega) (fun j hj => by have := (HO.out.1.t j hj).lt; omega), (((((((HB1.out.setCell (by simp) _).setCell (by simp) _).setCell (by simp) _).setCell (by simp) _).setCell (by simp) _).setCell (by simp) _).setCell (by simp) _)⟩
      case measure => simp [intOf]; omega
    · obtain rfl : k = m := by omega
      have lkk : ¬ (k : Int) < (k : Int) := by omega
      go_wp2
      go_returns
      exact ⟨rfl, ⟨bt, HO.out.1⟩, HO.out.2⟩

set_option maxRecDepth 20000 in
set_option maxHeartbeats 4000000 in
theorem eqOFS_same (ad be : Option Addr) (m cap cap2 : Nat) (c : Nat → OF) (w : World) (h : (m : Int) ≤ 1048576) (hl : ∀ j, j < m → ((c j).rn : Int) ≤ 1048576) (h1 : OFr w ad m c) (h2 : OFr w be m c) :
    Calls Try.prog 31 #[.slice ad m cap, .slice be m cap2] w fun e w' => e = .returned (.bool true) ∧ Below w.heap.size w w' := by
  have H1 : Hid (OFr w ad m c) := h1
  have H2 : Hid (OFr w be m c) := h2
  have HN : Hid (∀ j, j < m → ((c j).rn : Int) ≤ 1048576) := hl
  clear h1 h2 hl
  go_enter Try.func31, Try.ntmps31
  go_wp2
  go_loopw [5] (fun i wr => ∃ (k : Nat), k ≤ m ∧ i = .int .i64 (k : Int) ∧ Hid (Below w.heap.size w wr)) (fun i _ => m - (intOf i).toNat)
  case atStart => exact ⟨0, Nat.zero_le _, rfl, Below.refl _ _⟩
  case round =>
    obtain ⟨k, hk, rfl, HB⟩ := hrel
    by_cases hlt : k < m
    · have hlt2 : (k : Int) < (m : Int) := by omega
      obtain ⟨kb, off, rfl, _⟩ := H1.out.addr (by omega)
      obtain ⟨kb2, off2, rfl, _⟩ := H2.out.addr (by omega)
      obtain ⟨ra, rc, _, c0, c1, c2, c3, c4, c5, c6, r5⟩ := (H1.out.below HB.out).cell hlt
      obtain ⟨rb, rd, _, e0, e1, e2, e3, e4, e5, e6, s5⟩ := (H2.out.below HB.out).cell hlt
      have hBd : Below w.heap.size w wr.drew := HB.out.drew
      have hnk := HN.out k hlt
      have HEQ : Hid (Calls Try.prog 25 #[.agg #[.string (c k).who, .string (c k).item, .int .i64 (c k).cur, .int .i64 (c k).fst, .int .i64 (c k).lst, .int .i64 (c k).lea, .slice ra (c k).rn rc], .agg #[.string (c k).who, .string (c k).item, .int .i64 (c k).cur, .int .i64 (c k).fst, .int .i64 (c k).lst, .int .i64 (c k).lea, .slice rb (c k).rn rd]] wr.drew fun e w' => e = .returned (.bool true) ∧ Below wr.drew.heap.size wr.drew w') := eqOF_same _ _ _ _ _ _ _ _ _ _ _ (c k).rz _ hnk r5 s5
      clear r5 s5 hnk
      generalize (c k).who = x0 at c0 e0 HEQ
      generalize (c k).item = x1 at c1 e1 HEQ
      generalize (c k).cur = x2 at c2 e2 HEQ
      generalize (c k).fst = x3 at c3 e3 HEQ
      generalize (c k).lst = x4 at c4 e4 HEQ
      generalize (c k).lea = x5 at c5 e5 HEQ
      generalize (c k).rn = rn at c6 e6 HEQ
      go_wp2
      go_region_held3 (fun w' => (w'.cell? ⟨kb, off + k * 7, none⟩ = some (.string x0) ∧ w'.cell? ⟨kb, off + k * 7 + 1, none⟩ = some (.string x1) ∧ w'.cell? ⟨kb, off + k * 7 + 2, none⟩ = some (.int .i64 x2) ∧ w'.cell? ⟨kb, off + k * 7 + 3, none⟩ = some (.int .i64 x3) ∧ w'.cell? ⟨kb, off + k * 7 + 4, none⟩ = some (.int .i64 x4) ∧ w'.cell? ⟨kb, off + k * 7 + 5, none⟩ = some (.int .i64 x5) ∧ w'.cell? ⟨kb, off + k * 7 + 6, none⟩ = some (.slice ra rn rc)) ∧ (w'.cell? ⟨kb2, off2 + k * 7, none⟩ = some (.string x0) ∧ w'.cell? ⟨kb2, off2 + k * 7 + 1, none⟩ = some (.string x1) ∧ w'.cell? ⟨kb2, off2 + k * 7 + 2, none⟩ = some (.int .i64 x2) ∧ w'.cell? ⟨kb2, off2 + k * 7 + 3, none⟩ = some (.int .i64 x3) ∧ w'.cell? ⟨kb2, off2 + k * 7 + 4, none⟩ = some (.int .i64 x4) ∧ w'.cell? ⟨kb2, off2 + k * 7 + 5, none⟩ = some (.int .i64 x5) ∧ w'.cell? ⟨kb2, off2 + k * 7 + 6, none⟩ = some (.slice rb rn rd)) ∧ Below w.heap.size w w')
        (refine ⟨⟨?_, ?_, ?_, ?_, ?_, ?_, ?_⟩, ⟨?_, ?_, ?_, ?_, ?_, ?_, ?_⟩, ?_⟩ <;> first | assumption | (simp [*]; done))
        (first
        | (go_at_call 25; refine HEQ.out.mono ?_; rintro e w2 ⟨rfl, b2⟩; have q0_0 : w2.cell? ⟨kb, off + k * 7, none⟩ = some (.string x0) := keep_cell b2 (by simp [*]); have q0_1 : w2.cell? ⟨kb, off + k * 7 + 1, none⟩ = some (.string x1) := keep_cell b2 (by simp [*]); have q0_2 : w2.cell? ⟨kb, off + k * 7 + 2, none⟩ = some (.int .i64 x2) := keep_cell b2 (by simp [*]); have q0_3 : w2.cell? ⟨kb, off + k * 7 + 3, none⟩ = some (.int .i64 x3) := keep_cell b2 (by simp [*]); have q0_4 : w2.cell? ⟨kb, off + k * 7 + 4, none⟩ = some (.int .i64 x4) := keep_cell b2 (by simp [*]); have q0_5 : w2.cell? ⟨kb, off + k * 7 + 5, none⟩ = some (.int .i64 x5) := keep_cell b2 (by simp [*]); have q0_6 : w2.cell? ⟨kb, off + k * 7 + 6, none⟩ = some (.slice ra rn rc) := keep_cell b2 (by simp [*]); have q1_0 : w2.cell? ⟨kb2, off2 + k * 7, none⟩ = some (.string x0) := keep_cell b2 (by simp [*]); have q1_1 : w2.cell? ⟨kb2, off2 + k * 7 + 1, none⟩ = some (.string x1) := keep_cell b2 (by simp [*]); have q1_2 : w2.cell? ⟨kb2, off2 + k * 7 + 2, none⟩ = some (.int .i64 x2) := keep_cell b2 (by simp [*]); have q1_3 : w2.cell? ⟨kb2, off2 + k * 7 + 3, none⟩ = some (.int .i64 x3) := keep_cell b2 (by simp [*]); have q1_4 : w2.cell? ⟨kb2, off2 + k * 7 + 4, none⟩ = some (.int .i64 x4) := keep_cell b2 (by simp [*]); have q1_5 : w2.cell? ⟨kb2, off2 + k * 7 + 5, none⟩ = some (.int .i64 x5) := keep_cell b2 (by simp [*]); have q1_6 : w2.cell? ⟨kb2, off2 + k * 7 + 6, none⟩ = some (.slice rb rn rd) := keep_cell b2 (by simp [*]); have q4 : Below w.heap.size w w2 := bel_on (by assumption) b2))
      go_wp2
      go_roundw
      case rel => exact ⟨k + 1, by omega, by go_num, q4⟩
      case measure => simp [intOf]; omega
    · obtain rfl : k = m := by omega
      have lkk : ¬ (k : Int) < (k : Int) := by omega
      go_wp2
      go_returns
      exact ⟨rfl, HB.out⟩

theorem slice_of {H : Type} {enc : TypeId × Value → H} {P : Program} {w : World} {sp : Nat → Bool} {held : Bool} {t e : TypeId} {fuel : Nat} {v : Value} {x : DataW H × List MemPlace}
    (ht : P.underlying t = some (.slice e)) (h : DataW.trod enc P w 0 sp held fuel t [v] = some x) : ∃ ad len cap, v = .slice ad len cap ∧ DataW.Trod enc P w 0 sp held t (.slice ad len cap) x.1 x.2 := by
  rcases Go.Deep.open_slice ht h with ⟨hcs, _⟩ | ⟨a, l, c, m, k, D, Pl, hcs, _⟩
  · have hv : v = .slice none 0 0 := by simpa using hcs
    subst hv
    exact ⟨none, 0, 0, rfl, fuel, by simpa [Value.cells] using h⟩
  · have hv : v = .slice (some a) l c := by simpa using hcs
    subst hv
    exact ⟨some a, l, c, rfl, fuel, by simpa [Value.cells] using h⟩
theorem inner_at {H : Type} {enc : TypeId × Value → H} {P : Program} {w : World} {sp : Nat → Bool} {held : Bool} {t e : TypeId} {fuel : Nat} {v : Value} {x : DataW H × List MemPlace} {q0 q1 : Field}
    (ht : P.underlying t = some (.slice e)) (ti : P.underlying e = some (.struct #[q0, q1])) (ci : P.cellsOf e = 2) (hoi : q0.offset = 0 ∧ q1.offset = 1) (hci : P.cellsOf q0.type = 1 ∧ P.cellsOf q1.type = 1) (tq0 : P.underlying q0.type = some (.int .i64)) (tq1 : P.underlying q1.type = some (.int .i64)) (h : DataW.trod enc P w 0 sp held fuel t [v] = some x) : ∃ ad len cap z, v = .slice ad len cap ∧ len ≤ maxLen ∧ SCr w ad len z ∧ len ≤ cap := by
  have h0 := h
  obtain ⟨ad, len, cap, rfl, hT⟩ := slice_of ht h
  obtain ⟨z, h1, h3⟩ := SC2_of ht ti ci hoi hci tq0 tq1 hT
  refine ⟨ad, len, cap, z, rfl, h1, h3, ?_⟩
  rcases Go.Deep.open_slice ht h0 with ⟨hcs, _⟩ | ⟨a, l, c, m, k, D, Pl, hcs, _, hl, hm, _⟩
  · simp at hcs; omega
  · simp at hcs; omega
theorem OF_of {H : Type} {enc : TypeId × Value → H} {P : Program} {w : World} {sp : Nat → Bool} {held : Bool} {t e si : TypeId} {f0 f1 f2 f3 f4 f5 f6 : Field} {ad : Option Addr} {len cap : Nat} {d : DataW H} {p : List MemPlace}
    (ht : P.underlying t = some (.slice e)) (he : P.underlying e = some (.struct #[f0, f1, f2, f3, f4, f5, f6])) (ce : P.cellsOf e = 7)
    (ho : f0.offset = 0 ∧ f1.offset = 1 ∧ f2.offset = 2 ∧ f3.offset = 3 ∧ f4.offset = 4 ∧ f5.offset = 5 ∧ f6.offset = 6) (hc : P.cellsOf f0.type = 1 ∧ P.cellsOf f1.type = 1 ∧ P.cellsOf f2.type = 1 ∧ P.cellsOf f3.type = 1 ∧ P.cellsOf f4.type = 1 ∧ P.cellsOf f5.type = 1 ∧ P.cellsOf f6.type = 1)
    (t0 : P.underlying f0.type = some .string) (t1 : P.underlying f1.type = some .string) (t2 : P.underlying f2.type = some (.int .i64)) (t3 : P.underlying f3.type = some (.int .i64)) (t4 : P.underlying f4.type = some (.int .i64)) (t5 : P.underlying f5.type = some (.int .i64)) (t6 : P.underlying f6.type = some (.slice si)) {q0 q1 : Field} (ti : P.underlying si = some (.struct #[q0, q1])) (ci : P.cellsOf si = 2) (hoi : q0.offset = 0 ∧ q1.offset = 1) (hci : P.cellsOf q0.type = 1 ∧ P.cellsOf q1.type = 1) (tq0 : P.underlying q0.type = some (.int .i64)) (tq1 : P.underlying q1.type = some (.int .i64))
    (h : DataW.Trod enc P w 0 sp held t (.slice ad len cap) d p) : ∃ r : Nat → OF, len ≤ maxLen ∧ (∀ j, (r j).rn ≤ maxLen ∧ (r j).who.size ≤ maxLen ∧ (r j).item.size ≤ maxLen) ∧ OFr w ad len r := by
  obtain ⟨ho0, ho1, ho2, ho3, ho4, ho5, ho6⟩ := ho
  obtain ⟨hc0, hc1, hc2, hc3, hc4, hc5, hc6⟩ := hc
  obtain ⟨hl, h0 | ⟨b, off, e1, hb, hx⟩⟩ := structs_of ht he ce (by omega) (fun i f hf => by
    match i, hf with
    | 0, hf => simp at hf; subst hf; exact ⟨ho0, hc0, by omega⟩
    | 1, hf => simp at hf; subst hf; exact ⟨ho1, hc1, by omega⟩
    | 2, hf => simp at hf; subst hf; exact ⟨ho2, hc2, by omega⟩
    | 3, hf => simp at hf; subst hf; exact ⟨ho3, hc3, by omega⟩
    | 4, hf => simp at hf; subst hf; exact ⟨ho4, hc4, by omega⟩
    | 5, hf => simp at hf; subst hf; exact ⟨ho5, hc5, by omega⟩
    | 6, hf => simp at hf; subst hf; exact ⟨ho6, hc6, by omega⟩
    | n + 7, hf => simp at hf) h
  · exact ⟨fun _ => ⟨ByteArray.empty, ByteArray.empty, 0, 0, 0, 0, 0, fun _ => ⟨0, 0⟩⟩, hl, fun j => ⟨Nat.zero_le _, Nat.zero_le _, Nat.zero_le _⟩, .inl h0⟩
  · have key : ∀ j, ∃ x : OF, (x.rn ≤ maxLen ∧ x.who.size ≤ maxLen ∧ x.item.size ≤ maxLen) ∧ (j < len → AtOF w b (off + j * 7) x) := fun j => by
      by_cases hj : j < len
      · obtain ⟨v0, fu0, y0, c0, g0⟩ := hx j hj 0 f0 rfl
        obtain ⟨v1, fu1, y1, c1, g1⟩ := hx j hj 1 f1 rfl
        obtain ⟨v2, fu2, y2, c2, g2⟩ := hx j hj 2 f2 rfl
        obtain ⟨v3, fu3, y3, c3, g3⟩ := hx j hj 3 f3 rfl
        obtain ⟨v4, fu4, y4, c4, g4⟩ := hx j hj 4 f4 rfl
        obtain ⟨v5, fu5, y5, c5, g5⟩ := hx j hj 5 f5 rfl
        obtain ⟨v6, fu6, y6, c6, g6⟩ := hx j hj 6 f6 rfl
        obtain ⟨d0, e0, _, hz0⟩ := DataW.trod_string t0 g0
        obtain rfl : v0 = .string d0 := by simpa using e0
        obtain ⟨d1, e1, _, hz1⟩ := DataW.trod_string t1 g1
        obtain rfl : v1 = .string d1 := by simpa using e1
        obtain ⟨d2, e2, _, _⟩ := DataW.trod_int t2 g2
        obtain rfl : v2 = .int .i64 d2 := by simpa using e2
        obtain ⟨d3, e3, _, _⟩ := DataW.trod_int t3 g3
        obtain rfl : v3 = .int .i64 d3 := by simpa using e3
        obtain ⟨d4, e4, _, _⟩ := DataW.trod_int t4 g4
        obtain rfl : v4 = .int .i64 d4 := by simpa using e4
        obtain ⟨d5, e5, _, _⟩ := DataW.trod_int t5 g5
        obtain rfl : v5 = .int .i64 d5 := by simpa using e5
        obtain ⟨a1, n1, k1, z1, rfl, l1, r1, l3⟩ := inner_at t6 ti ci hoi hci tq0 tq1 g6
        exact ⟨⟨d0, d1, d2, d3, d4, d5, n1, z1⟩, ⟨l1, hz0, hz1⟩, fun _ => ⟨a1, k1, l3, c0, c1, c2, c3, c4, c5, c6, r1⟩⟩
      · exact ⟨⟨ByteArray.empty, ByteArray.empty, 0, 0, 0, 0, 0, fun _ => ⟨0, 0⟩⟩, ⟨Nat.zero_le _, Nat.zero_le _, Nat.zero_le _⟩, fun h => absurd h hj⟩
    exact ⟨fun j => Classical.choose (key j), hl, fun j => (Classical.choose_spec (key j)).1, .inr ⟨b, off, e1, hb, fun j hj => (Classical.choose_spec (key j)).2 hj⟩⟩

end Go.Proofs.Ytghphlnpginmhaa
