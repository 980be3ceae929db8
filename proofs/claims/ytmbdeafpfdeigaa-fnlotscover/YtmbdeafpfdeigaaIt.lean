/- Rows of Item in memory, each with two rows of Part; the laws' own functions over them: sizes, copies, likeness, marks; such rows that came in. -/
import Derived.Test.YtmbdeafpfdeigaaPa
import Derived.Deep.RegionHeld3
import Derived.Deep.RegionWith
import Derived.Deep.Cut
import Derived.Outline
import Derived.Handy
import Derived.Laws.EntriesVeiled
namespace Go.Proofs.Ytmbdeafpfdeigaa
open Go.ChangeShapes Go.WideShapes Go.ChangeAt Go.RowKit
set_option linter.unusedVariables false
set_option linter.unusedSimpArgs false

structure IT where
  name : ByteArray
  batch : Int
  pha : Bool
  parn : Nat
  parz : Nat → PA6
  alsn : Nat
  alsz : Nat → PA6
def AtIT (w : World) (k o : Nat) (c : IT) : Prop :=
  ∃ ra rc sa sc, c.parn ≤ rc ∧ c.alsn ≤ sc ∧ w.cell? ⟨k, o, none⟩ = some (.string c.name) ∧ w.cell? ⟨k, o + 1, none⟩ = some (.int .i64 c.batch) ∧ w.cell? ⟨k, o + 2, none⟩ = some (.bool c.pha) ∧ w.cell? ⟨k, o + 3, none⟩ = some (.slice ra c.parn rc) ∧ w.cell? ⟨k, o + 4, none⟩ = some (.slice sa c.alsn sc) ∧ PAr w ra c.parn c.parz ∧ PAr w sa c.alsn c.alsz
theorem AtIT.below {w w' : World} {k o : Nat} {c : IT} (H : AtIT w k o c) (hb : k < w.heap.size) (t : Below w.heap.size w w') : AtIT w' k o c := by
  obtain ⟨ra, rc, sa, sc, hrc, hsc, h0, h1, h2, h3, h4, hR, hS⟩ := H
  refine ⟨ra, rc, sa, sc, hrc, hsc, ?_, ?_, ?_, ?_, ?_, hR.below t, hS.below t⟩ <;> (rw [World.cell?_of_block (w := w) (t.block k hb)]; assumption)
def ITr (w : World) (ad : Option Addr) (len : Nat) (c : Nat → IT) : Prop :=
  len = 0 ∨ ∃ k off, ad = some ⟨k, off, none⟩ ∧ k < w.heap.size ∧ ∀ j, j < len → AtIT w k (off + j * 5) (c j)
theorem ITr.below {w w' : World} {ad : Option Addr} {len : Nat} {c : Nat → IT} (H : ITr w ad len c) (t : Below w.heap.size w w') : ITr w' ad len c := by
  rcases H with h | ⟨k, off, e, hk, hc⟩
  · exact .inl h
  · exact .inr ⟨k, off, e, Nat.lt_of_lt_of_le hk t.size, fun j hj => (hc j hj).below hk t⟩
theorem ITr.alloc {w : World} {ad : Option Addr} {len : Nat} {c : Nat → IT} (H : ITr w ad len c) (o : Obj) : ITr (w.alloc o) ad len c := H.below ((Below.refl _ _).alloc (Nat.le_refl _) o)
theorem ITr.drewN {w : World} {ad : Option Addr} {len : Nat} {c : Nat → IT} (H : ITr w ad len c) (q : Nat) : ITr (w.drewN q) ad len c := H
theorem ITr.cell {w : World} {k off len : Nat} {c : Nat → IT} (H : ITr w (some ⟨k, off, none⟩) len c) {j : Nat} (hj : j < len) : AtIT w k (off + j * 5) (c j) := by
  rcases H with h | ⟨k', off', e, hk, hc⟩
  · omega
  · simp only [Option.some.injEq, Addr.mk.injEq] at e
    obtain ⟨rfl, rfl, _⟩ := e
    exact hc j hj
theorem ITr.addr {w : World} {ad : Option Addr} {len : Nat} {c : Nat → IT} (H : ITr w ad len c) (h : 0 < len) : ∃ k off, ad = some ⟨k, off, none⟩ ∧ k < w.heap.size := by
  rcases H with h' | ⟨k', off', e, hk, hc⟩
  · omega
  · exact ⟨k', off', e, hk⟩
theorem ITr.mono {w : World} {ad : Option Addr} {len n : Nat} {c : Nat → IT} (H : ITr w ad len c) (h : n ≤ len) : ITr w ad n c := by
  rcases H with h' | ⟨k', off', e, hk, hc⟩
  · exact .inl (by omega)
  · exact .inr ⟨k', off', e, hk, fun j hj => hc j (by omega)⟩

set_option maxRecDepth 20000 in
set_option maxHeartbeats 2000000 in
theorem szIT_any (x0 : ByteArray) (x1 : Int) (x2 : Bool) (ra : Option Addr) (rn rc : Nat) (rz : Nat → PA6) (sa : Option Addr) (sn sc : Nat) (sz : Nat → PA6) (L : Int) (w : World) (h0 : 0 ≤ L) (hL : L ≤ 1048576) (hrn : (rn : Int) ≤ 9223372036854775807) (hsn : (sn : Int) ≤ 9223372036854775807) (hs0 : (x0.size : Int) ≤ 9223372036854775807) :
    Calls Try.prog 88 #[.agg #[.string x0, .int .i64 x1, .bool x2, .slice ra rn rc, .slice sa sn sc], .int .i64 L] w fun e w' => ∃ v : Int, e = .returned (.int .i64 v) ∧ (v = -1 ∨ (0 ≤ v ∧ v ≤ 1048576 ∧ (rn : Int) ≤ 1048576 ∧ (sn : Int) ≤ 1048576)) ∧ Below w.heap.size w w' := by
  have HBL : Hid (Below w.heap.size w (w.alloc (.cells #[.string x0, .int .i64 x1, .bool x2, .slice ra rn rc, .slice sa sn sc] 101 (0, 0)))) := (Below.refl _ _).alloc (Nat.le_refl _) _
  by_cases g0 : L < (x0.size : Int)
  · have d : L - (x0.size : Int) < 0 := by omega
    go_enter Try.func88, Try.ntmps88
    go_wp2
    go_returns
    exact ⟨-1, rfl, .inl rfl, by go_grown⟩
  have d0 : ¬ L - (x0.size : Int) < 0 := by omega
  have tok1 : True := trivial
  go_enter Try.func88, Try.ntmps88
  go_wp2_with (first
    | (go_at_call 123; clear tok1; refine (szPA6S_any ra rn rc _ _ (by omega) (by omega) hrn).mono ?_; rintro e w' ⟨v, rfl, hv, ew⟩; replace ew := ew.symm; subst ew; (rcases hv with rfl | ⟨hv0, hv1, hv2⟩) <;> (try have nv : ¬ v < 0 := (by omega)))
    | (go_at_call 123; refine (szPA6S_any sa sn sc _ _ (by omega) (by omega) hsn).mono ?_; rintro e w' ⟨u, rfl, hu, ew⟩; replace ew := ew.symm; subst ew; (rcases hu with rfl | ⟨hu0, hu1, hu2⟩) <;> (try have nu : ¬ u < 0 := (by omega))))
  all_goals go_returns
  all_goals first
    | exact ⟨-1, rfl, .inl rfl, HBL.out⟩
    | exact ⟨u, rfl, .inr ⟨by omega, by omega, hv2, hu2⟩, HBL.out⟩
set_option maxRecDepth 20000 in
set_option maxHeartbeats 4000000 in
theorem szITS_any (ad : Option Addr) (len cap : Nat) (c : Nat → IT) (L0 : Int) (w : World) (g0 : 0 ≤ L0) (g1 : L0 ≤ 1048576) (hl : (len : Int) ≤ 9223372036854775807) (hrn : ∀ j, ((c j).parn : Int) ≤ 9223372036854775807 ∧ ((c j).alsn : Int) ≤ 9223372036854775807) (hc0 : ∀ j, ((c j).name.size : Int) ≤ 9223372036854775807) (hr : ITr w ad len c) :
    Calls Try.prog 36 #[.slice ad len cap, .int .i64 L0] w fun e w' => ∃ v : Int, e = .returned (.int .i64 v) ∧ (v = -1 ∨ (0 ≤ v ∧ v ≤ 1048576 ∧ (len : Int) ≤ 1048576 ∧ ∀ j, j < len → ((c j).parn : Int) ≤ 1048576 ∧ ((c j).alsn : Int) ≤ 1048576)) ∧ Below w.heap.size w w' := by
  have HR : Hid (ITr w ad len c) := hr
  have HRN : Hid (∀ j, ((c j).parn : Int) ≤ 9223372036854775807 ∧ ((c j).alsn : Int) ≤ 9223372036854775807) := hrn
  have HC0 : Hid (∀ j, ((c j).name.size : Int) ≤ 9223372036854775807) := hc0
  clear hr hrn hc0
  by_cases h : (len : Int) ≤ L0
  · have h2 : (0 : Int) ≤ L0 - (len : Int) := by omega
    go_enter Try.func36, Try.ntmps36
    go_wp2
    go_loopw [1, 5] (fun l i wr => ∃ (k : Nat) (L : Int), k ≤ len ∧ i = .int .i64 (k : Int) ∧ l = .int .i64 L ∧ 0 ≤ L ∧ L ≤ 1048576 ∧ Hid ((∀ j, j < k → ((c j).parn : Int) ≤ 1048576 ∧ ((c j).alsn : Int) ≤ 1048576) ∧ Below w.heap.size w wr)) (fun _ i _ => len - (intOf i).toNat)
    case atStart => exact ⟨0, _, Nat.zero_le _, rfl, rfl, by omega, by omega, fun j hj => by omega, Below.refl _ _⟩
    case round =>
      obtain ⟨k, L, hk, rfl, rfl, hL0, hL1, HH⟩ := hrel
      by_cases hlt : k < len
      · have hlt2 : (k : Int) < (len : Int) := by omega
        obtain ⟨kb, off, rfl, _⟩ := HR.out.addr (by omega)
        obtain ⟨ra, rc, sa, sc, _, _, c0, c1, c2, c3, c4, r5, r6⟩ := (HR.out.below HH.out.2).cell hlt
        have HSZ : Hid (Calls Try.prog 88 #[.agg #[.string (c k).name, .int .i64 (c k).batch, .bool (c k).pha, .slice ra (c k).parn rc, .slice sa (c k).alsn sc], .int .i64 L] wr _) := szIT_any (c k).name (c k).batch (c k).pha ra (c k).parn rc (c k).parz sa (c k).alsn sc (c k).alsz L wr hL0 hL1 (HRN.out k).1 (HRN.out k).2 (HC0.out k)
        have HN : Hid (((c k).parn : Int) ≤ 1048576 ∧ ((c k).alsn : Int) ≤ 1048576 → ∀ j, j < k + 1 → ((c j).parn : Int) ≤ 1048576 ∧ ((c j).alsn : Int) ≤ 1048576) := fun q j hj => by
          by_cases e : j = k
          · subst e; exact q
          · exact HH.out.1 j (by omega)
        clear r5 r6
        generalize (c k).name = x0 at c0 HSZ
        generalize (c k).batch = x1 at c1 HSZ
        generalize (c k).pha = x2 at c2 HSZ
        generalize (c k).parn = rn at c3 HSZ HN
        generalize (c k).alsn = sn at c4 HSZ HN
        go_wp2_with (go_at_call 88; go_loud (refine HSZ.out.mono ?_; rintro e w1 ⟨v, rfl, hv, b1⟩; have HB1 : Hid (Below w.heap.size w w1) := bel_on HH.out.2 b1; clear b1 HSZ; rcases hv with rfl | ⟨hv0, hv1, hv2, hv3⟩))
        · go_returns
          exact ⟨-1, rfl, .inl rfl, HB1.out⟩
        · have hv4 : ¬ v < 0 := by omega
          go_wp2
          go_roundw
          case rel => exact ⟨k + 1, v, by omega, by go_num, rfl, hv0, hv1, HN.out ⟨hv2, hv3⟩, HB1.out⟩
          case measure => simp [intOf]; omega
      · obtain rfl : k = len := by omega
        have lkk : ¬ (k : Int) < (k : Int) := by omega
        go_wp2
        go_returns
        exact ⟨L, rfl, .inr ⟨hL0, hL1, by omega, HH.out.1⟩, HH.out.2⟩
  · have h3 : L0 - (len : Int) < 0 := by omega
    go_enter Try.func36, Try.ntmps36
    go_wp2
    go_returns
    exact ⟨-1, rfl, .inl rfl, Below.refl _ _⟩

def zerosIT (n : Nat) : Array Value := madeCells #[.string ByteArray.empty, .int .i64 0, .bool false, .slice none 0 0, .slice none 0 0] (n * 5)
theorem zerosIT_size (n : Nat) : (zerosIT n).size = n * 5 := size_madeCells _ _
set_option maxRecDepth 100000 in
theorem mkIT (n : Nat) (h : (n : Int) ≤ 1048576) (w : World) : (Instr.makeSlice 32 (.int .i64 (n : Int)) (.int .i64 (n : Int))).run Try.prog w = .ok (.slice (some ⟨w.heap.size, 0, none⟩) n n) (w.alloc (.cells (zerosIT n) 31)) := by
  obtain ⟨i, hi⟩ : ∃ i, Try.prog.info? 31 = some i := ⟨_, rfl⟩
  have hz : i.zero = some (.agg #[.string ByteArray.empty, .int .i64 0, .bool false, .slice none 0 0, .slice none 0 0]) := by
    have : (Try.prog.info? 31).bind (·.zero) = some (.agg #[.string ByteArray.empty, .int .i64 0, .bool false, .slice none 0 0, .slice none 0 0]) := by kernel_rfl
    rw [hi] at this; exact this
  have hs : i.size = 5 := by
    have : (Try.prog.info? 31).map (·.size) = some 5 := by kernel_rfl
    rw [hi] at this; simpa using this
  have hb : i.bytes = 80 := by
    have : (Try.prog.info? 31).map (·.bytes) = some 80 := by kernel_rfl
    rw [hi] at this; simpa using this
  have hr := run_make (P := Try.prog) w 32 31 i (.agg #[.string ByteArray.empty, .int .i64 0, .bool false, .slice none 0 0, .slice none 0 0]) Try.underlying32 hi hz .i64 .i64 n n (by omega) (by omega) (by rw [hb]; omega) (by omega)
  simp only [Int.toNat_natCast, hs] at hr
  exact hr

/-- A row of parts in a block of its own. -/
def SAt (w : World) (b n : Nat) (z : Nat → PA6) : Prop := PAr w (some ⟨b, 0, none⟩) n z ∧ ∃ cs, CB w b cs 28 ∧ cs.size = n * 6
section
variable {w w' : World} {b n : Nat} {z : Nat → PA6}
theorem SAt.lt (H : SAt w b n z) : b < w.heap.size := by obtain ⟨_, cs, h, _⟩ := H; exact h.lt
theorem SAt.below (H : SAt w b n z) (k : Below w.heap.size w w') : SAt w' b n z := by obtain ⟨h, cs, h1, h2⟩ := H; exact ⟨h.below k, cs, h1.below k h1.lt, h2⟩
theorem SAt.other (H : SAt w b n z) {c o : Nat} (u : Value) (h : b ≠ c) : SAt (w.setCell ⟨c, o, none⟩ u) b n z := by
  obtain ⟨h0, cs, h1, h2⟩ := H
  exact ⟨h0.other u (fun k off e => by simp only [Option.some.injEq, Addr.mk.injEq] at e; omega), cs, h1.other u h, h2⟩
end
theorem toPart_at {ad : Option Addr} {len cap : Nat} {z : Nat → PA6} {w : World} {b : Nat} (hb : w.heap.size = b) (h : (len : Int) ≤ 1048576) (hr : PAr w ad len z) :
    Calls Try.prog 124 #[.slice ad len cap] w fun e w' => e = .returned (.slice (some ⟨b, 0, none⟩) len len) ∧ SAt w' b len z ∧ Below w.heap.size w w' := by
  subst hb; exact toPA6S_any ad len cap z w h hr
theorem two_bl {w w1 : World} {bs cs : Array Value} {s t : TypeId} (b : Below ((w.alloc (.cells bs s (0, 0))).alloc (.cells cs t (0, 0))).heap.size ((w.alloc (.cells bs s (0, 0))).alloc (.cells cs t (0, 0))) w1) :
    CB w1 w.heap.size bs s ∧ CB w1 (w.heap.size + 1) cs t ∧ Below w.heap.size w w1 := by
  refine ⟨?_, ?_, ?_⟩
  · exact ((CB.new bs s).alloc _).below b (by simp; omega)
  · exact (CB.newAt (by simp) cs t).below b (by simp)
  · exact bel_on (((Below.refl _ _).alloc (Nat.le_refl _) _).alloc (by simp) _) b
theorem three_bl {w w1 : World} {bs cs ds : Array Value} {s t u : TypeId} (b : Below (((w.alloc (.cells bs s (0, 0))).alloc (.cells cs t (0, 0))).alloc (.cells ds u (0, 0))).heap.size (((w.alloc (.cells bs s (0, 0))).alloc (.cells cs t (0, 0))).alloc (.cells ds u (0, 0))) w1) :
    CB w1 w.heap.size bs s ∧ CB w1 (w.heap.size + 1) cs t ∧ CB w1 (w.heap.size + 1 + 1) ds u ∧ Below w.heap.size w w1 := by
  refine ⟨?_, ?_, ?_, ?_⟩
  · exact (((CB.new bs s).alloc _).alloc _).below b (by simp; omega)
  · exact ((CB.newAt (by simp) cs t).alloc _).below b (by simp)
  · exact (CB.newAt (by simp) ds u).below b (by simp)
  · exact bel_on ((((Below.refl _ _).alloc (Nat.le_refl _) _).alloc (by simp) _).alloc (by simp; omega) _) b

set_option maxRecDepth 20000 in
set_option maxHeartbeats 4000000 in
theorem toIT_any (x0 : ByteArray) (x1 : Int) (x2 : Bool) (ra : Option Addr) (rn rc : Nat) (rz : Nat → PA6) (sa : Option Addr) (sn sc : Nat) (sz : Nat → PA6) (w : World) (h1 : (rn : Int) ≤ 1048576) (h2 : (sn : Int) ≤ 1048576) (hT : PAr w ra rn rz) (hS : PAr w sa sn sz) :
    Calls Try.prog 89 #[.agg #[.string x0, .int .i64 x1, .bool x2, .slice ra rn rc, .slice sa sn sc]] w fun e w' => ∃ bt bw, e = .returned (.agg #[.string x0, .int .i64 x1, .bool x2, .slice (some ⟨bt, 0, none⟩) rn rn, .slice (some ⟨bw, 0, none⟩) sn sn]) ∧ (w.heap.size ≤ bt ∧ bt < bw) ∧ (SAt w' bt rn rz ∧ SAt w' bw sn sz) ∧ Below w.heap.size w w' := by
  have HT : Hid (PAr w ra rn rz) := hT
  have HS : Hid (PAr w sa sn sz) := hS
  have HBL : Hid (Below w.heap.size w (((w.alloc (.cells #[.string x0, .int .i64 x1, .bool x2, .slice ra rn rc, .slice sa sn sc] 101 (0, 0))).alloc (.cells #[.string ⟨#[]⟩, .int .i64 0, .bool false, .slice none 0 0, .slice none 0 0] 31 (0, 0))).alloc (.cells #[.string x0, .int .i64 x1, .bool x2, .slice none 0 0, .slice none 0 0] 31 (0, 0)))) := (((Below.refl _ _).alloc (Nat.le_refl _) _).alloc (by simp) _).alloc (by simp; omega) _
  clear hT hS
  have tok1 : True := trivial
  go_enter Try.func89, Try.ntmps89
  go_wp2_with (first
    | (go_at_call 124; clear tok1; go_loud (refine (toPart_at (b := w.heap.size + 1 + 1 + 1) (by simp) h1 (HT.out.below HBL.out)).mono ?_; rintro e w1 ⟨rfl, o1, b1⟩; obtain ⟨C0, C1, C2, b2⟩ := three_bl b1; have k0 := (C2.cell 0).trans rfl; have k1 := (C2.cell 1).trans rfl; have k2 := (C2.cell 2).trans rfl; have k3 := (C2.cell 3).trans rfl; have k4 := (C2.cell 4).trans rfl; have m4 := (C0.cell 4).trans rfl; have f3 := C2.fr 3; have hl1 := o1.lt; have HB1 : Hid (Below w.heap.size w (w1.setCell ⟨w.heap.size + 1 + 1, 3, none⟩ (.slice (some ⟨w.heap.size + 1 + 1 + 1, 0, none⟩) rn rn))) := b2.setCell (by show w.heap.size ≤ w.heap.size + 1 + 1; omega) _; have HC1 : Hid (CB (w1.setCell ⟨w.heap.size + 1 + 1, 3, none⟩ (.slice (some ⟨w.heap.size + 1 + 1 + 1, 0, none⟩) rn rn)) (w.heap.size + 1) #[.string ⟨#[]⟩, .int .i64 0, .bool false, .slice none 0 0, .slice none 0 0] 31) := C1.other _ (by omega); have HC2 : Hid (CB (w1.setCell ⟨w.heap.size + 1 + 1, 3, none⟩ (.slice (some ⟨w.heap.size + 1 + 1 + 1, 0, none⟩) rn rn)) (w.heap.size + 1 + 1) #[.string x0, .int .i64 x1, .bool x2, .slice (some ⟨w.heap.size + 1 + 1 + 1, 0, none⟩) rn rn, .slice none 0 0] 31) := C2.set 3 _; have HO1 : Hid (SAt (w1.setCell ⟨w.heap.size + 1 + 1, 3, none⟩ (.slice (some ⟨w.heap.size + 1 + 1 + 1, 0, none⟩) rn rn)) (w.heap.size + 1 + 1 + 1) rn rz) := o1.other _ (by omega); clear o1 b1 b2 C0 C1 C2))
    | (go_at_call 124; go_loud (refine (toPart_at (b := w1.heap.size) (by simp [World.setCell]) h2 (HS.out.below HB1.out)).mono ?_; rintro e w3 ⟨rfl, o3, b3⟩; have D1 := HC1.out.below b3 HC1.out.lt; have D2 := HC2.out.below b3 HC2.out.lt; have HR1 : Hid (SAt w3 (w.heap.size + 1 + 1 + 1) rn rz) := HO1.out.below b3; have HR2 : Hid (SAt w3 w1.heap.size sn sz) := o3; have HB3 : Hid (Below w.heap.size w w3) := bel_on HB1.out b3; have kk0 := (D2.cell 0).trans rfl; have mm0 := (D1.cell 0).trans rfl; have gg0 := D1.fr 0; have kk1 := (D2.cell 1).trans rfl; have mm1 := (D1.cell 1).trans rfl; have gg1 := D1.fr 1; have kk2 := (D2.cell 2).trans rfl; have mm2 := (D1.cell 2).trans rfl; have gg2 := D1.fr 2; have kk3 := (D2.cell 3).trans rfl; have mm3 := (D1.cell 3).trans rfl; have gg3 := D1.fr 3; have kk4 := (D2.cell 4).trans rfl; have mm4 := (D1.cell 4).trans rfl; have gg4 := D1.fr 4; have f4 := D2.fr 4; have HD1 : Hid (CB w3 (w.heap.size + 1) #[.string ⟨#[]⟩, .int .i64 0, .bool false, .slice none 0 0, .slice none 0 0] 31) := D1; clear o3 b3 D1 D2)))
  have hX := ((((((HD1.out.other (c := w.heap.size + 1 + 1) (o := 4) (.slice (some ⟨w1.heap.size, 0, none⟩) sn sn) (by omega)).set 0 (.string x0)).set 1 (.int .i64 x1)).set 2 (.bool x2)).set 3 (.slice (some ⟨w.heap.size + 1 + 1 + 1, 0, none⟩) rn rn)).set 4 (.slice (some ⟨w1.heap.size, 0, none⟩) sn sn))
  have hY := ((((((HR1.out.other (c := w.heap.size + 1 + 1) (o := 4) (.slice (some ⟨w1.heap.size, 0, none⟩) sn sn) (by omega)).other (c := w.heap.size + 1) (o := 0) (.string x0) (by omega)).other (c := w.heap.size + 1) (o := 1) (.int .i64 x1) (by omega)).other (c := w.heap.size + 1) (o := 2) (.bool x2) (by omega)).other (c := w.heap.size + 1) (o := 3) (.slice (some ⟨w.heap.size + 1 + 1 + 1, 0, none⟩) rn rn) (by omega)).other (c := w.heap.size + 1) (o := 4) (.slice (some ⟨w1.heap.size, 0, none⟩) sn sn) (by omega))
  have hY2 := ((((((HR2.out.other (c := w.heap.size + 1 + 1) (o := 4) (.slice (some ⟨w1.heap.size, 0, none⟩) sn sn) (by omega)).other (c := w.heap.size + 1) (o := 0) (.string x0) (by omega)).other (c := w.heap.size + 1) (o := 1) (.int .i64 x1) (by omega)).other (c := w.heap.size + 1) (o := 2) (.bool x2) (by omega)).other (c := w.heap.size + 1) (o := 3) (.slice (some ⟨w.heap.size + 1 + 1 + 1, 0, none⟩) rn rn) (by omega)).other (c := w.heap.size + 1) (o := 4) (.slice (some ⟨w1.heap.size, 0, none⟩) sn sn) (by omega))
  have hZ := ((((((HB3.out.setCell (p := ⟨w.heap.size + 1 + 1, 4, none⟩) (by simp; omega) (.slice (some ⟨w1.heap.size, 0, none⟩) sn sn)).setCell (p := ⟨w.heap.size + 1, 0, none⟩) (by simp) (.string x0)).setCell (p := ⟨w.heap.size + 1, 1, none⟩) (by simp) (.int .i64 x1)).setCell (p := ⟨w.heap.size + 1, 2, none⟩) (by simp) (.bool x2)).setCell (p := ⟨w.heap.size + 1, 3, none⟩) (by simp) (.slice (some ⟨w.heap.size + 1 + 1 + 1, 0, none⟩) rn rn)).setCell (p := ⟨w.heap.size + 1, 4, none⟩) (by simp) (.slice (some ⟨w1.heap.size, 0, none⟩) sn sn))
  have e0 := hX.cell 0
  have e1 := hX.cell 1
  have e2 := hX.cell 2
  have e3 := hX.cell 3
  have e4 := hX.cell 4
  simp at e0 e1 e2 e3 e4
  clear hX k0 kk0 mm0 gg0 k1 kk1 mm1 gg1 k2 kk2 mm2 gg2 k3 kk3 mm3 gg3 k4 kk4 mm4 gg4 m4 f3 f4 HD1 HR1 HR2 HB3 HC1 HC2 HO1 HB1 HBL
  generalize (World.setCell _ _ _) = W5 at e0 e1 e2 e3 e4 hY hY2 hZ ⊢
  refine bodyPost_ret (by simp [results, Try.results89, go_sem, e0, e1, e2, e3, e4]; try rfl) rfl ?_
  exact ⟨_, _, rfl, ⟨by omega, by omega⟩, ⟨hY, hY2⟩, hZ⟩

set_option maxRecDepth 20000 in
set_option maxHeartbeats 1000000 in
theorem eqIT_same (x0 : ByteArray) (x1 : Int) (x2 : Bool) (ra rb : Option Addr) (rn rc rd : Nat) (rz : Nat → PA6) (sa sb : Option Addr) (sn sc sd : Nat) (sz : Nat → PA6) (w : World) (h1 : (rn : Int) ≤ 1048576) (h2 : (sn : Int) ≤ 1048576) (hT : PAr w ra rn rz) (hS : PAr w sa sn sz) (hT2 : PAr w rb rn rz) (hS2 : PAr w sb sn sz) :
    Calls Try.prog 92 #[.agg #[.string x0, .int .i64 x1, .bool x2, .slice ra rn rc, .slice sa sn sc], .agg #[.string x0, .int .i64 x1, .bool x2, .slice rb rn rd, .slice sb sn sd]] w fun e w' => e = .returned (.bool true) ∧ Below w.heap.size w w' := by
  have HT : Hid (PAr w ra rn rz) := hT
  have HS : Hid (PAr w sa sn sz) := hS
  have HT2 : Hid (PAr w rb rn rz) := hT2
  have HS2 : Hid (PAr w sb sn sz) := hS2
  have HBL : Hid (Below w.heap.size w ((w.alloc (.cells #[.string x0, .int .i64 x1, .bool x2, .slice ra rn rc, .slice sa sn sc] 31 (0, 0))).alloc (.cells #[.string x0, .int .i64 x1, .bool x2, .slice rb rn rd, .slice sb sn sd] 31 (0, 0)))) := ((Below.refl _ _).alloc (Nat.le_refl _) _).alloc (by simp) _
  clear hT hS hT2 hS2
  have tok1 : True := trivial
  go_enter Try.func92, Try.ntmps92
  go_wp2_with (first
    | (go_at_call 130; clear tok1; go_loud (refine (eqPA6S_same _ _ _ _ _ rz _ h1 (HT.out.below HBL.out) (HT2.out.below HBL.out)).mono ?_; rintro e w1 ⟨rfl, b1⟩; obtain ⟨C1, C2, b2⟩ := two_bl b1; have k4 := (C1.cell 4).trans rfl; have m4 := (C2.cell 4).trans rfl; have HB1 : Hid (Below w.heap.size w w1) := b2; clear b1 b2 C1 C2))
    | (go_at_call 130; go_loud (refine (eqPA6S_same _ _ _ _ _ sz _ h2 (HS.out.below HB1.out) (HS2.out.below HB1.out)).mono ?_; rintro e w3 ⟨rfl, b3⟩; have HB3 : Hid (Below w.heap.size w w3) := bel_on HB1.out b3; clear b3)))
  go_returns
  exact ⟨rfl, HB3.out⟩

/-- Rows in a block of their own, each one's rows in blocks of their own behind it. -/
structure OIT (w : World) (B m k : Nat) (c : Nat → IT) (bt bw : Nat → Nat) : Prop where
  main : ∃ cs, CB w B cs 31 ∧ cs.size = m * 5 ∧ ∀ j, j < k → cs[j * 5]? = some (.string (c j).name) ∧ cs[j * 5 + 1]? = some (.int .i64 (c j).batch) ∧ cs[j * 5 + 2]? = some (.bool (c j).pha) ∧ cs[j * 5 + 3]? = some (.slice (some ⟨bt j, 0, none⟩) (c j).parn (c j).parn) ∧ cs[j * 5 + 4]? = some (.slice (some ⟨bw j, 0, none⟩) (c j).alsn (c j).alsn)
  t : ∀ j, j < k → SAt w (bt j) (c j).parn (c j).parz
  u : ∀ j, j < k → SAt w (bw j) (c j).alsn (c j).alsz
  ap : ∀ j, j < k → B < bt j ∧ bt j < bw j
  inc : ∀ i j, i < j → j < k → bw i < bt j
section
variable {w w' : World} {B m k : Nat} {c : Nat → IT} {bt bw : Nat → Nat}
theorem OIT.lt (H : OIT w B m k c bt bw) : B < w.heap.size := by obtain ⟨cs, h, _⟩ := H.main; exact h.lt
theorem OIT.below (H : OIT w B m k c bt bw) (b : Below w.heap.size w w') : OIT w' B m k c bt bw := by
  obtain ⟨cs, h, h2⟩ := H.main
  exact ⟨⟨cs, h.below b h.lt, h2⟩, fun j hj => (H.t j hj).below b, fun j hj => (H.u j hj).below b, H.ap, H.inc⟩
theorem OIT.row (H : OIT w B m m c bt bw) : ITr w (some ⟨B, 0, none⟩) m c := by
  obtain ⟨cs, h, h1, h2⟩ := H.main
  refine .inr ⟨B, 0, rfl, h.lt, fun j hj => ?_⟩
  obtain ⟨q0, q1, q2, q3, q4⟩ := h2 j hj
  refine ⟨some ⟨bt j, 0, none⟩, (c j).parn, some ⟨bw j, 0, none⟩, (c j).alsn, Nat.le_refl _, Nat.le_refl _, ?_, ?_, ?_, ?_, ?_, (H.t j hj).1, (H.u j hj).1⟩ <;> (rw [Nat.zero_add, h.cell]; assumption)
theorem SAt.othN {b n B : Nat} {z : Nat → PA6} {o0 o1 o2 o3 o4 : Nat} {v0 v1 v2 v3 v4 : Value} (H : SAt w b n z) (h : b ≠ B) : SAt (((((w.setCell ⟨B, o0, none⟩ v0).setCell ⟨B, o1, none⟩ v1).setCell ⟨B, o2, none⟩ v2).setCell ⟨B, o3, none⟩ v3).setCell ⟨B, o4, none⟩ v4) b n z := (((((H.other _ h).other _ h).other _ h).other _ h).other _ h)
theorem OIT.step {t1 u1 : Nat} (H : OIT w B m k c bt bw) (hk : k < m) (h1 : SAt w t1 (c k).parn (c k).parz) (h2 : SAt w u1 (c k).alsn (c k).alsz) (hb : B < t1 ∧ t1 < u1) (hn : ∀ j, j < k → bw j < t1) :
    OIT (((((w.setCell ⟨B, k * 5, none⟩ (.string (c k).name)).setCell ⟨B, k * 5 + 1, none⟩ (.int .i64 (c k).batch)).setCell ⟨B, k * 5 + 2, none⟩ (.bool (c k).pha)).setCell ⟨B, k * 5 + 3, none⟩ (.slice (some ⟨t1, 0, none⟩) (c k).parn (c k).parn)).setCell ⟨B, k * 5 + 4, none⟩ (.slice (some ⟨u1, 0, none⟩) (c k).alsn (c k).alsn)) B m (k + 1) c (fun j => if j = k then t1 else bt j) (fun j => if j = k then u1 else bw j) := by
  obtain ⟨cs, c1, c2, c3⟩ := H.main
  refine ⟨⟨_, (((((c1.set _ _).set _ _).set _ _).set _ _).set _ _), by simpa using c2, fun j hj => ?_⟩, fun j hj => ?_, fun j hj => ?_, fun j hj => ?_, fun i j hi hj => ?_⟩
  · by_cases e : j = k
    · subst e
      simp only [if_true]
      refine ⟨?_, ?_, ?_, ?_, ?_⟩
      · rw [get_set_ne (by omega), get_set_ne (by omega), get_set_ne (by omega), get_set_ne (by omega), get_set_eq (by (try simp); omega)]
      · rw [get_set_ne (by omega), get_set_ne (by omega), get_set_ne (by omega), get_set_eq (by (try simp); omega)]
      · rw [get_set_ne (by omega), get_set_ne (by omega), get_set_eq (by (try simp); omega)]
      · rw [get_set_ne (by omega), get_set_eq (by (try simp); omega)]
      · rw [get_set_eq (by (try simp); omega)]
    · simp only [if_neg e]
      obtain ⟨q0, q1, q2, q3, q4⟩ := c3 j (by omega)
      refine ⟨?_, ?_, ?_, ?_, ?_⟩ <;> (rw [get_set_ne (by omega), get_set_ne (by omega), get_set_ne (by omega), get_set_ne (by omega), get_set_ne (by omega)]; assumption)
  · by_cases e : j = k
    · subst e; simp only [if_true]; exact h1.othN (by omega)
    · simp only [if_neg e]; exact (H.t j (by omega)).othN (by have := H.ap j (by omega); omega)
  · by_cases e : j = k
    · subst e; simp only [if_true]; exact h2.othN (by omega)
    · simp only [if_neg e]; exact (H.u j (by omega)).othN (by have := H.ap j (by omega); omega)
  · by_cases e : j = k
    · simp only [if_pos e]; exact hb
    · simp only [if_neg e]; exact H.ap j (by omega)
  · by_cases e : j = k
    · have e2 : i ≠ k := by omega
      simp only [if_pos e, if_neg e2]; exact hn i (by omega)
    · have e2 : i ≠ k := by omega
      simp only [if_neg e, if_neg e2]; exact H.inc i j hi (by omega)
end

set_option maxRecDepth 20000 in
set_option maxHeartbeats 4000000 in
theorem toITS_any (ad : Option Addr) (m cap : Nat) (c : Nat → IT) (w : World) (h : (m : Int) ≤ 1048576) (hl : ∀ j, j < m → ((c j).parn : Int) ≤ 1048576 ∧ ((c j).alsn : Int) ≤ 1048576) (HR0 : ITr w ad m c) :
    Calls Try.prog 37 #[.slice ad m cap] w fun e w' => e = .returned (.slice (some ⟨w.heap.size, 0, none⟩) m m) ∧ (∃ bt bw, OIT w' w.heap.size m m c bt bw) ∧ Below w.heap.size w w' := by
  have HR : Hid (ITr w ad m c) := HR0
  have HN : Hid (∀ j, j < m → ((c j).parn : Int) ≤ 1048576 ∧ ((c j).alsn : Int) ≤ 1048576) := hl
  have hmk := mkIT m h
  clear HR0 hl
  go_enter Try.func37, Try.ntmps37
  go_wp2
  go_loopw [4] (fun i wr => ∃ (k : Nat) (bt bw : Nat → Nat), k ≤ m ∧ i = .int .i64 (k : Int) ∧ Hid (OIT wr w.heap.size m k c bt bw ∧ Below w.heap.size w wr)) (fun i _ => m - (intOf i).toNat)
  case atStart => exact ⟨0, fun _ => 0, fun _ => 0, Nat.zero_le _, rfl, ⟨⟨zerosIT m, CB.new _ _, zerosIT_size _, fun j hj => by omega⟩, fun j hj => by omega, fun j hj => by omega, fun j hj => by omega, fun i j hi hj => by omega⟩, (Below.refl _ _).alloc (Nat.le_refl _) _⟩
  case round =>
    obtain ⟨k, bt, bw, hk, rfl, HO⟩ := hrel
    by_cases hlt : k < m
    · obtain ⟨kb, off, rfl, hkb⟩ := HR.out.addr (by omega)
      have HB : Hid (Below w.heap.size w wr) := HO.out.2
      obtain ⟨ra, rc, sa, sc, _, _, c0, c1, c2, c3, c4, r5, r6⟩ := (HR.out.below HB.out).cell hlt
      have HT : Hid (PAr wr ra (c k).parn (c k).parz) := r5
      have HS : Hid (PAr wr sa (c k).alsn (c k).alsz) := r6
      obtain ⟨cs, hC, hsz, _⟩ := HO.out.1.main
      obtain ⟨v0, d0⟩ : ∃ v, cs[k * 5]? = some v := ⟨cs[k * 5]'(by omega), Array.getElem?_eq_getElem (by omega)⟩
      obtain ⟨v1, d1⟩ : ∃ v, cs[k * 5 + 1]? = some v := ⟨cs[k * 5 + 1]'(by omega), Array.getElem?_eq_getElem (by omega)⟩
      obtain ⟨v2, d2⟩ : ∃ v, cs[k * 5 + 2]? = some v := ⟨cs[k * 5 + 2]'(by omega), Array.getElem?_eq_getElem (by omega)⟩
      obtain ⟨v3, d3⟩ : ∃ v, cs[k * 5 + 3]? = some v := ⟨cs[k * 5 + 3]'(by omega), Array.getElem?_eq_getElem (by omega)⟩
      obtain ⟨v4, d4⟩ : ∃ v, cs[k * 5 + 4]? = some v := ⟨cs[k * 5 + 4]'(by omega), Array.getElem?_eq_getElem (by omega)⟩
      have HC : Hid (CB wr w.heap.size cs 31) := hC
      have hnk := HN.out k hlt
      have hlt2 : (k : Int) < (m : Int) := by omega
      have HD0 : Hid (cs[k * 5]? = some v0) := d0
      have HD1 : Hid (cs[k * 5 + 1]? = some v1) := d1
      have HD2 : Hid (cs[k * 5 + 2]? = some v2) := d2
      have HD3 : Hid (cs[k * 5 + 3]? = some v3) := d3
      have HD4 : Hid (cs[k * 5 + 4]? = some v4) := d4
      clear hC hsz r5 r6 d0 d1 d2 d3 d4
      go_wp2_with (go_at_call 89; go_loud (refine (toIT_any _ _ _ _ _ _ (c k).parz _ _ _ (c k).alsz _ hnk.1 hnk.2 HT.out HS.out).mono ?_; rintro e w1 ⟨t1, u1, rfl, hb, ⟨o1, o2⟩, b1⟩; have X1 : CB w1 w.heap.size cs 31 := HC.out.below b1 HC.out.lt; have y0 := (X1.cell (k * 5)).trans HD0.out; have f0 := X1.fr (k * 5); have y1 := (X1.cell (k * 5 + 1)).trans HD1.out; have f1 := X1.fr (k * 5 + 1); have y2 := (X1.cell (k * 5 + 2)).trans HD2.out; have f2 := X1.fr (k * 5 + 2); have y3 := (X1.cell (k * 5 + 3)).trans HD3.out; have f3 := X1.fr (k * 5 + 3); have y4 := (X1.cell (k * 5 + 4)).trans HD4.out; have f4 := X1.fr (k * 5 + 4); have HP : Hid (wr.heap.size ≤ t1 ∧ t1 < u1) := hb; have HO1 : Hid (SAt w1 t1 (c k).parn (c k).parz ∧ SAt w1 u1 (c k).alsn (c k).alsz) := ⟨o1, o2⟩; have HX : Hid (OIT w1 w.heap.size m k c bt bw) := HO.out.1.below b1; have HB1 : Hid (Below w.heap.size w w1) := bel_on HB.out b1; clear X1 b1 o1 o2 hb))
      go_roundw
      case rel =>
        have hlt3 := HC.out.lt
        have hp := HP.out
        exact ⟨k + 1, _, _, by omega, by go_num, HX.out.step hlt HO1.out.1 HO1.out.2 (by omega) (fun j hj => by have := (HO.out.1.u j hj).lt; omega), (((((HB1.out.setCell (by simp) _).setCell (by simp) _).setCell (by simp) _).setCell (by simp) _).setCell (by simp) _)⟩
      case measure => simp [intOf]; omega
    · obtain rfl : k = m := by omega
      have lkk : ¬ (k : Int) < (k : Int) := by omega
      go_wp2
      go_returns
      exact ⟨rfl, ⟨bt, bw, HO.out.1⟩, HO.out.2⟩

set_option maxRecDepth 20000 in
set_option maxHeartbeats 4000000 in
theorem eqITS_same (ad be : Option Addr) (m cap cap2 : Nat) (c : Nat → IT) (w : World) (h : (m : Int) ≤ 1048576) (hl : ∀ j, j < m → ((c j).parn : Int) ≤ 1048576 ∧ ((c j).alsn : Int) ≤ 1048576) (h1 : ITr w ad m c) (h2 : ITr w be m c) :
    Calls Try.prog 39 #[.slice ad m cap, .slice be m cap2] w fun e w' => e = .returned (.bool true) ∧ Below w.heap.size w w' := by
  have H1 : Hid (ITr w ad m c) := h1
  have H2 : Hid (ITr w be m c) := h2
  have HN : Hid (∀ j, j < m → ((c j).parn : Int) ≤ 1048576 ∧ ((c j).alsn : Int) ≤ 1048576) := hl
  clear h1 h2 hl
  go_enter Try.func39, Try.ntmps39
  go_wp2
  go_loopw [5] (fun i wr => ∃ (k : Nat), k ≤ m ∧ i = .int .i64 (k : Int) ∧ Hid (Below w.heap.size w wr)) (fun i _ => m - (intOf i).toNat)
  case atStart => exact ⟨0, Nat.zero_le _, rfl, Below.refl _ _⟩
  case round =>
    obtain ⟨k, hk, rfl, HB⟩ := hrel
    by_cases hlt : k < m
    · have hlt2 : (k : Int) < (m : Int) := by omega
      obtain ⟨kb, off, rfl, _⟩ := H1.out.addr (by omega)
      obtain ⟨kb2, off2, rfl, _⟩ := H2.out.addr (by omega)
      obtain ⟨ra, rc, sa, sc, _, _, c0, c1, c2, c3, c4, r5, r6⟩ := (H1.out.below HB.out).cell hlt
      obtain ⟨rb, rd, sb, sd, _, _, e0, e1, e2, e3, e4, s5, s6⟩ := (H2.out.below HB.out).cell hlt
      have hBd : Below w.heap.size w wr.drew := HB.out.drew
      have hnk := HN.out k hlt
      have HEQ : Hid (Calls Try.prog 92 #[.agg #[.string (c k).name, .int .i64 (c k).batch, .bool (c k).pha, .slice ra (c k).parn rc, .slice sa (c k).alsn sc], .agg #[.string (c k).name, .int .i64 (c k).batch, .bool (c k).pha, .slice rb (c k).parn rd, .slice sb (c k).alsn sd]] wr.drew fun e w' => e = .returned (.bool true) ∧ Below wr.drew.heap.size wr.drew w') := eqIT_same _ _ _ _ _ _ _ _ (c k).parz _ _ _ _ _ (c k).alsz _ hnk.1 hnk.2 r5 r6 s5 s6
      clear r5 s5 r6 s6 hnk
      generalize (c k).name = x0 at c0 e0 HEQ
      generalize (c k).batch = x1 at c1 e1 HEQ
      generalize (c k).pha = x2 at c2 e2 HEQ
      generalize (c k).parn = rn at c3 e3 HEQ
      generalize (c k).alsn = sn at c4 e4 HEQ
      go_wp2
      go_region_held3 (fun w' => (w'.cell? ⟨kb, off + k * 5, none⟩ = some (.string x0) ∧ w'.cell? ⟨kb, off + k * 5 + 1, none⟩ = some (.int .i64 x1) ∧ w'.cell? ⟨kb, off + k * 5 + 2, none⟩ = some (.bool x2) ∧ w'.cell? ⟨kb, off + k * 5 + 3, none⟩ = some (.slice ra rn rc) ∧ w'.cell? ⟨kb, off + k * 5 + 4, none⟩ = some (.slice sa sn sc)) ∧ (w'.cell? ⟨kb2, off2 + k * 5, none⟩ = some (.string x0) ∧ w'.cell? ⟨kb2, off2 + k * 5 + 1, none⟩ = some (.int .i64 x1) ∧ w'.cell? ⟨kb2, off2 + k * 5 + 2, none⟩ = some (.bool x2) ∧ w'.cell? ⟨kb2, off2 + k * 5 + 3, none⟩ = some (.slice rb rn rd) ∧ w'.cell? ⟨kb2, off2 + k * 5 + 4, none⟩ = some (.slice sb sn sd)) ∧ Below w.heap.size w w')
        (refine ⟨⟨?_, ?_, ?_, ?_, ?_⟩, ⟨?_, ?_, ?_, ?_, ?_⟩, ?_⟩ <;> first | assumption | (simp [*]; done))
        (first
        | (go_at_call 92; refine HEQ.out.mono ?_; rintro e w2 ⟨rfl, b2⟩; have q0_0 : w2.cell? ⟨kb, off + k * 5, none⟩ = some (.string x0) := keep_cell b2 (by simp [*]); have q0_1 : w2.cell? ⟨kb, off + k * 5 + 1, none⟩ = some (.int .i64 x1) := keep_cell b2 (by simp [*]); have q0_2 : w2.cell? ⟨kb, off + k * 5 + 2, none⟩ = some (.bool x2) := keep_cell b2 (by simp [*]); have q0_3 : w2.cell? ⟨kb, off + k * 5 + 3, none⟩ = some (.slice ra rn rc) := keep_cell b2 (by simp [*]); have q0_4 : w2.cell? ⟨kb, off + k * 5 + 4, none⟩ = some (.slice sa sn sc) := keep_cell b2 (by simp [*]); have q1_0 : w2.cell? ⟨kb2, off2 + k * 5, none⟩ = some (.string x0) := keep_cell b2 (by simp [*]); have q1_1 : w2.cell? ⟨kb2, off2 + k * 5 + 1, none⟩ = some (.int .i64 x1) := keep_cell b2 (by simp [*]); have q1_2 : w2.cell? ⟨kb2, off2 + k * 5 + 2, none⟩ = some (.bool x2) := keep_cell b2 (by simp [*]); have q1_3 : w2.cell? ⟨kb2, off2 + k * 5 + 3, none⟩ = some (.slice rb rn rd) := keep_cell b2 (by simp [*]); have q1_4 : w2.cell? ⟨kb2, off2 + k * 5 + 4, none⟩ = some (.slice sb sn sd) := keep_cell b2 (by simp [*]); have q4 : Below w.heap.size w w2 := bel_on (by assumption) b2))
      go_wp2
      go_roundw
      case rel => exact ⟨k + 1, by omega, by go_num, q4⟩
      case measure => simp [intOf]; omega
    · obtain rfl : k = m := by omega
      have lkk : ¬ (k : Int) < (k : Int) := by omega
      go_wp2
      go_returns
      exact ⟨rfl, HB.out⟩

theorem slice_of {H : Type} {enc : TypeId × Value → H} {P : Program} {w : World} {sp : Nat → Bool} {held : Bool} {t e : TypeId} {fuel : Nat} {v : Value} {x : DataW H × List MemPlace}
    (ht : P.underlying t = some (.slice e)) (h : DataW.trod enc P w 0 sp held fuel t [v] = some x) : ∃ ad len cap, v = .slice ad len cap ∧ DataW.Trod enc P w 0 sp held t (.slice ad len cap) x.1 x.2 := by
  rcases Go.Deep.open_slice ht h with ⟨hcs, _⟩ | ⟨a, l, c, m, k, D, Pl, hcs, _⟩
  · have hv : v = .slice none 0 0 := by simpa using hcs
    subst hv
    exact ⟨none, 0, 0, rfl, fuel, by simpa [Value.cells] using h⟩
  · have hv : v = .slice (some a) l c := by simpa using hcs
    subst hv
    exact ⟨some a, l, c, rfl, fuel, by simpa [Value.cells] using h⟩
theorem inner_at {H : Type} {enc : TypeId × Value → H} {P : Program} {w : World} {sp : Nat → Bool} {held : Bool} {t e : TypeId} {fuel : Nat} {v : Value} {x : DataW H × List MemPlace}
    (ht : P.underlying t = some (.slice e)) {q0 q1 q2 q3 q4 q5 : Field} (ti : P.underlying e = some (.struct #[q0, q1, q2, q3, q4, q5])) (ci : P.cellsOf e = 6) (hoi : q0.offset = 0 ∧ q1.offset = 1 ∧ q2.offset = 2 ∧ q3.offset = 3 ∧ q4.offset = 4 ∧ q5.offset = 5) (hci : P.cellsOf q0.type = 1 ∧ P.cellsOf q1.type = 1 ∧ P.cellsOf q2.type = 1 ∧ P.cellsOf q3.type = 1 ∧ P.cellsOf q4.type = 1 ∧ P.cellsOf q5.type = 1) (tq0 : P.underlying q0.type = some (.int .i64)) (tq1 : P.underlying q1.type = some (.int .i64)) (tq2 : P.underlying q2.type = some (.int .i64)) (tq3 : P.underlying q3.type = some (.int .i64)) (tq4 : P.underlying q4.type = some (.int .i64)) (tq5 : P.underlying q5.type = some (.int .i64)) (h : DataW.trod enc P w 0 sp held fuel t [v] = some x) : ∃ ad len cap z, v = .slice ad len cap ∧ len ≤ maxLen ∧ PAr w ad len z ∧ len ≤ cap := by
  have h0 := h
  obtain ⟨ad, len, cap, rfl, hT⟩ := slice_of ht h
  obtain ⟨z, h1, h3⟩ := PA6_of ht ti ci hoi hci tq0 tq1 tq2 tq3 tq4 tq5 hT
  refine ⟨ad, len, cap, z, rfl, h1, h3, ?_⟩
  rcases Go.Deep.open_slice ht h0 with ⟨hcs, _⟩ | ⟨a, l, c, m, k, D, Pl, hcs, _, hl, hm, _⟩
  · simp at hcs; omega
  · simp at hcs; omega

theorem IT_of {H : Type} {enc : TypeId × Value → H} {P : Program} {w : World} {sp : Nat → Bool} {held : Bool} {t e si : TypeId} {f0 f1 f2 f3 f4 : Field} {ad : Option Addr} {len cap : Nat} {d : DataW H} {p : List MemPlace}
    (ht : P.underlying t = some (.slice e)) (he : P.underlying e = some (.struct #[f0, f1, f2, f3, f4])) (ce : P.cellsOf e = 5)
    (ho : f0.offset = 0 ∧ f1.offset = 1 ∧ f2.offset = 2 ∧ f3.offset = 3 ∧ f4.offset = 4) (hc : P.cellsOf f0.type = 1 ∧ P.cellsOf f1.type = 1 ∧ P.cellsOf f2.type = 1 ∧ P.cellsOf f3.type = 1 ∧ P.cellsOf f4.type = 1)
    (t0 : P.underlying f0.type = some .string) (t1 : P.underlying f1.type = some (.int .i64)) (t2 : P.underlying f2.type = some .bool) (t3 : P.underlying f3.type = some (.slice si)) (t4 : P.underlying f4.type = some (.slice si)) {q0 q1 q2 q3 q4 q5 : Field} (ti : P.underlying si = some (.struct #[q0, q1, q2, q3, q4, q5])) (ci : P.cellsOf si = 6) (hoi : q0.offset = 0 ∧ q1.offset = 1 ∧ q2.offset = 2 ∧ q3.offset = 3 ∧ q4.offset = 4 ∧ q5.offset = 5) (hci : P.cellsOf q0.type = 1 ∧ P.cellsOf q1.type = 1 ∧ P.cellsOf q2.type = 1 ∧ P.cellsOf q3.type = 1 ∧ P.cellsOf q4.type = 1 ∧ P.cellsOf q5.type = 1) (tq0 : P.underlying q0.type = some (.int .i64)) (tq1 : P.underlying q1.type = some (.int .i64)) (tq2 : P.underlying q2.type = some (.int .i64)) (tq3 : P.underlying q3.type = some (.int .i64)) (tq4 : P.underlying q4.type = some (.int .i64)) (tq5 : P.underlying q5.type = some (.int .i64))
    (h : DataW.Trod enc P w 0 sp held t (.slice ad len cap) d p) : ∃ r : Nat → IT, len ≤ maxLen ∧ (∀ j, (r j).parn ≤ maxLen ∧ (r j).alsn ≤ maxLen ∧ (r j).name.size ≤ maxLen) ∧ ITr w ad len r := by
  obtain ⟨ho0, ho1, ho2, ho3, ho4⟩ := ho
  obtain ⟨hc0, hc1, hc2, hc3, hc4⟩ := hc
  obtain ⟨hl, h0 | ⟨b, off, e1, hb, hx⟩⟩ := structs_of ht he ce (by omega) (fun i f hf => by
    match i, hf with
    | 0, hf => simp at hf; subst hf; exact ⟨ho0, hc0, by omega⟩
    | 1, hf => simp at hf; subst hf; exact ⟨ho1, hc1, by omega⟩
    | 2, hf => simp at hf; subst hf; exact ⟨ho2, hc2, by omega⟩
    | 3, hf => simp at hf; subst hf; exact ⟨ho3, hc3, by omega⟩
    | 4, hf => simp at hf; subst hf; exact ⟨ho4, hc4, by omega⟩
    | n + 5, hf => simp at hf) h
  · exact ⟨fun _ => ⟨ByteArray.empty, 0, false, 0, fun _ => ⟨0, 0, 0, 0, 0, 0⟩, 0, fun _ => ⟨0, 0, 0, 0, 0, 0⟩⟩, hl, fun j => ⟨Nat.zero_le _, Nat.zero_le _, Nat.zero_le _⟩, .inl h0⟩
  · have key : ∀ j, ∃ x : IT, (x.parn ≤ maxLen ∧ x.alsn ≤ maxLen ∧ x.name.size ≤ maxLen) ∧ (j < len → AtIT w b (off + j * 5) x) := fun j => by
      by_cases hj : j < len
      · obtain ⟨v0, fu0, y0, c0, g0⟩ := hx j hj 0 f0 rfl
        obtain ⟨v1, fu1, y1, c1, g1⟩ := hx j hj 1 f1 rfl
        obtain ⟨v2, fu2, y2, c2, g2⟩ := hx j hj 2 f2 rfl
        obtain ⟨v3, fu3, y3, c3, g3⟩ := hx j hj 3 f3 rfl
        obtain ⟨v4, fu4, y4, c4, g4⟩ := hx j hj 4 f4 rfl
        obtain ⟨d0, e0, _, hz0⟩ := DataW.trod_string t0 g0
        obtain rfl : v0 = .string d0 := by simpa using e0
        obtain ⟨d1, e1, _, _⟩ := DataW.trod_int t1 g1
        obtain rfl : v1 = .int .i64 d1 := by simpa using e1
        obtain ⟨d2, e2, _⟩ := DataW.trod_bool t2 g2
        obtain rfl : v2 = .bool d2 := by simpa using e2
        obtain ⟨a3, n3, k3, z3, rfl, l3, r3, m3⟩ := inner_at t3 ti ci hoi hci tq0 tq1 tq2 tq3 tq4 tq5 g3
        obtain ⟨a4, n4, k4, z4, rfl, l4, r4, m4⟩ := inner_at t4 ti ci hoi hci tq0 tq1 tq2 tq3 tq4 tq5 g4
        exact ⟨⟨d0, d1, d2, n3, z3, n4, z4⟩, ⟨l3, l4, hz0⟩, fun _ => ⟨a3, k3, a4, k4, m3, m4, c0, c1, c2, c3, c4, r3, r4⟩⟩
      · exact ⟨⟨ByteArray.empty, 0, false, 0, fun _ => ⟨0, 0, 0, 0, 0, 0⟩, 0, fun _ => ⟨0, 0, 0, 0, 0, 0⟩⟩, ⟨Nat.zero_le _, Nat.zero_le _, Nat.zero_le _⟩, fun h => absurd h hj⟩
    exact ⟨fun j => Classical.choose (key j), hl, fun j => (Classical.choose_spec (key j)).1, .inr ⟨b, off, e1, hb, fun j hj => (Classical.choose_spec (key j)).2 hj⟩⟩

end Go.Proofs.Ytmbdeafpfdeigaa
