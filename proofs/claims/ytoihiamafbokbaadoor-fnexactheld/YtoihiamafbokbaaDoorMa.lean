/- Members and groups: in memory, and the laws' own functions over them: sizes, copies, likeness. -/
import Derived.Test.YtoihiamafbokbaaDoorFm
import Derived.Test.YtoihiamafbokbaaDoorIx
namespace Go.Proofs.YtoihiamafbokbaaDoor
open Go.ChangeShapes Go.WideShapes Go.ChangeAt Go.RowKit
set_option linter.unusedVariables false
set_option linter.unusedSimpArgs false

structure M4 where
  par : Int
  sh : Int
  cur : Int
  tn : Nat
  tr : Nat → Int
def MeAt (w : World) (b o : Nat) (m : M4) : Prop :=
  ∃ ta tc, w.cell? ⟨b, o, none⟩ = some (.int .i64 m.par) ∧ w.cell? ⟨b, o + 1, none⟩ = some (.int .i64 m.sh) ∧ w.cell? ⟨b, o + 2, none⟩ = some (.int .i64 m.cur) ∧ w.cell? ⟨b, o + 3, none⟩ = some (.slice ta m.tn tc) ∧ IR w ta m.tn m.tr
/-- A slice's first members. -/
def MR (w : World) (ad : Option Addr) (len : Nat) (ms : Nat → M4) : Prop := len = 0 ∨ ∃ k off, ad = some ⟨k, off, none⟩ ∧ k < w.heap.size ∧ ∀ j, j < len → MeAt w k (off + j * 4) (ms j)
theorem MeAt.below {w w' : World} {b o : Nat} {m : M4} (H : MeAt w b o m) (hb : b < w.heap.size) (t : Below w.heap.size w w') : MeAt w' b o m := by
  obtain ⟨ta, tc, h1, h2, h3, h4, h5⟩ := H
  refine ⟨ta, tc, ?_, ?_, ?_, ?_, h5.below t⟩ <;> (rw [World.cell?_of_block (w := w) (t.block b hb)]; assumption)
theorem MR.below {w w' : World} {ad : Option Addr} {len : Nat} {ms : Nat → M4} (H : MR w ad len ms) (t : Below w.heap.size w w') : MR w' ad len ms := by
  rcases H with h | ⟨k, off, e, hk, hc⟩
  · exact .inl h
  · exact .inr ⟨k, off, e, Nat.lt_of_lt_of_le hk t.size, fun j hj => (hc j hj).below hk t⟩
theorem MR.alloc {w : World} {ad : Option Addr} {len : Nat} {ms : Nat → M4} (H : MR w ad len ms) (o : Obj) : MR (w.alloc o) ad len ms := H.below ((Below.refl _ _).alloc (Nat.le_refl _) o)
theorem MR.drew' {w : World} {ad : Option Addr} {len : Nat} {ms : Nat → M4} (H : MR w ad len ms) : MR w.drew ad len ms := H
theorem MR.get {w : World} {ad : Option Addr} {len : Nat} {ms : Nat → M4} (H : MR w ad len ms) {j : Nat} (hj : j < len) : ∃ k off, ad = some ⟨k, off, none⟩ ∧ k < w.heap.size ∧ MeAt w k (off + j * 4) (ms j) := by
  rcases H with h | ⟨k, off, e, hk, hc⟩
  · omega
  · exact ⟨k, off, e, hk, hc j hj⟩

theorem szIntS_no {ad : Option Addr} {len cap : Nat} {r : Int} (w : World) (h : (len : Int) ≤ 9223372036854775807) (h0 : 0 ≤ r) (h1 : r ≤ 1048576) (h2 : r < (len : Int)) :
    Calls Tryd.prog 47 #[.slice ad len cap, .int .i64 r] w fun e w' => e = .returned (.int .i64 (-1)) ∧ w' = w := by
  have hd : r - (len : Int) < 0 := by omega
  go_enter Tryd.func47, Tryd.ntmps47
  go_wp2
  go_returns
  exact ⟨rfl, rfl⟩
theorem szIntS_ok {ad : Option Addr} {len cap : Nat} {r : Int} (w : World) (h0 : 0 ≤ r) (h1 : r ≤ 1048576) (h2 : (len : Int) ≤ r) :
    Calls Tryd.prog 47 #[.slice ad len cap, .int .i64 r] w fun e w' => e = .returned (.int .i64 (r - (len : Int))) ∧ w' = w := by
  have hd : ¬ r - (len : Int) < 0 := by omega
  go_enter Tryd.func47, Tryd.ntmps47
  go_wp2
  go_returns
  exact ⟨rfl, rfl⟩
set_option maxRecDepth 20000 in
theorem szMember_ok {p s c : Int} {ta : Option Addr} {tn tc : Nat} {r : Int} (w : World) (h0 : 0 ≤ r) (h1 : r ≤ 1048576) (h2 : (tn : Int) ≤ r) :
    Calls Tryd.prog 32 #[.agg #[.int .i64 p, .int .i64 s, .int .i64 c, .slice ta tn tc], .int .i64 r] w fun e w' => e = .returned (.int .i64 (r - (tn : Int))) ∧ Below w.heap.size w w' := by
  have d1 : ¬ r - (tn : Int) < 0 := by omega
  go_enter Tryd.func32, Tryd.ntmps32
  go_wp2_with (go_at_call 47; refine (szIntS_ok (ad := ta) (len := tn) (cap := tc) (r := r) _ h0 h1 h2).mono ?_; rintro e w' ⟨rfl, ew⟩; replace ew := ew.symm; subst ew)
  go_returns
  exact ⟨rfl, (Below.refl _ _).alloc (Nat.le_refl _) _⟩
set_option maxRecDepth 20000 in
theorem szMember_no {p s c : Int} {ta : Option Addr} {tn tc : Nat} {r : Int} (w : World) (hl : (tn : Int) ≤ 9223372036854775807) (h0 : 0 ≤ r) (h1 : r ≤ 1048576) (h2 : r < (tn : Int)) :
    Calls Tryd.prog 32 #[.agg #[.int .i64 p, .int .i64 s, .int .i64 c, .slice ta tn tc], .int .i64 r] w fun e w' => e = .returned (.int .i64 (-1)) ∧ Below w.heap.size w w' := by
  go_enter Tryd.func32, Tryd.ntmps32
  go_wp2_with (go_at_call 47; refine (szIntS_no (ad := ta) (len := tn) (cap := tc) (r := r) _ hl h0 h1 h2).mono ?_; rintro e w' ⟨rfl, ew⟩; replace ew := ew.symm; subst ew)
  go_returns
  exact ⟨rfl, (Below.refl _ _).alloc (Nat.le_refl _) _⟩
set_option maxRecDepth 20000 in
set_option maxHeartbeats 2000000 in
theorem szMemberS_any (ra : Option Addr) (m rcap : Nat) (ms : Nat → M4) (L : Int) (w : World) (h0 : 0 ≤ L) (h1 : L ≤ 1048576) (hm : (m : Int) ≤ 9223372036854775807) (hl : ∀ j, ((ms j).tn : Int) ≤ 9223372036854775807) (HR : MR w ra m ms) :
    Calls Tryd.prog 17 #[.slice ra m rcap, .int .i64 L] w fun e w' => ∃ v : Int, e = .returned (.int .i64 v) ∧ (v = -1 ∨ (0 ≤ v ∧ v ≤ 1048576 ∧ (m : Int) ≤ 1048576 ∧ ∀ j, j < m → ((ms j).tn : Int) ≤ 1048576)) ∧ Below w.heap.size w w' := by
  have HRu : Hid (MR w ra m ms) := HR
  have HL : Hid (∀ j, ((ms j).tn : Int) ≤ 9223372036854775807) := hl
  clear HR hl
  by_cases hbig : L < (m : Int)
  · have d0 : L - (m : Int) < 0 := by omega
    go_enter Tryd.func17, Tryd.ntmps17
    go_wp2
    go_returns
    exact ⟨-1, rfl, .inl rfl, Below.refl _ _⟩
  have d0 : ¬ L - (m : Int) < 0 := by omega
  go_enter Tryd.func17, Tryd.ntmps17
  go_wp2
  go_loopw [1, 5] (fun u v wr => ∃ (k : Nat) (r : Int), k ≤ m ∧ v = .int .i64 (k : Int) ∧ u = .int .i64 r ∧ 0 ≤ r ∧ r ≤ 1048576 ∧ Hid (Below w.heap.size w wr ∧ ∀ j, j < k → ((ms j).tn : Int) ≤ 1048576)) (fun _ v _ => m - (intOf v).toNat)
  case atStart => exact ⟨0, _, Nat.zero_le _, rfl, rfl, by omega, by omega, Below.refl _ _, fun j hj => by omega⟩
  case round =>
    obtain ⟨k, r, hk, rfl, rfl, hr0, hr1, HB⟩ := hrel
    by_cases hlt : k < m
    · have hlt2 : (k : Int) < (m : Int) := by omega
      obtain ⟨kb, off, rfl, hkb, hru⟩ := HRu.out.get hlt
      obtain ⟨ta, tc, e1, e2, e3, e4, _⟩ := hru.below hkb HB.out.1
      have hll := HL.out k
      obtain ⟨tn, ht⟩ : ∃ t, (ms k).tn = t := ⟨_, rfl⟩
      have Ht : Hid ((ms k).tn = tn) := ht
      rw [ht] at e4 hll
      clear ht
      by_cases hf : (tn : Int) ≤ r
      · have d1 : ¬ r - (tn : Int) < 0 := by omega
        have HB2 : Hid (∀ j, j < k + 1 → ((ms j).tn : Int) ≤ 1048576) := fun j hj => by
          by_cases e : j = k
          · subst e; rw [Ht.out]; omega
          · exact HB.out.2 j (by omega)
        go_wp2_with (go_at_call 32; refine (szMember_ok _ hr0 hr1 hf).mono ?_; rintro e w2 ⟨rfl, b2⟩; have HB3 : Hid (Below w.heap.size w w2) := bel_on HB.out.1 b2; clear b2)
        go_roundw
        case rel => exact ⟨k + 1, _, by omega, by go_num, rfl, by omega, by omega, HB3.out, HB2.out⟩
        case measure => simp [intOf]; omega
      · have hf2 : r < (tn : Int) := by omega
        clear hf
        go_wp2_with (go_at_call 32; refine (szMember_no _ hll hr0 hr1 hf2).mono ?_; rintro e w2 ⟨rfl, b2⟩; have HB3 : Hid (Below w.heap.size w w2) := bel_on HB.out.1 b2; clear b2)
        go_returns
        exact ⟨-1, rfl, .inl rfl, HB3.out⟩
    · obtain rfl : k = m := by omega
      have lkk : ¬ (k : Int) < (k : Int) := by omega
      go_wp2
      go_returns
      exact ⟨r, rfl, by first | exact .inr ⟨hr0, hr1, by omega, HB.out.2⟩ | exact .inr ⟨hr0, hr1, HB.out.2⟩, HB.out.1⟩

set_option maxRecDepth 20000 in
set_option maxHeartbeats 2000000 in
theorem szGroup_any (fa : Option Addr) (len cap : Nat) (c : Nat → C3) (u : Int) (ra : Option Addr) (m rcap : Nat) (ms : Nat → M4) (mi sf : Int) (w : World) (hl : (len : Int) ≤ 9223372036854775807) (hc : ∀ j, ((c j).code.size : Int) ≤ 9223372036854775807) (hr : CR w fa len c) (hm : (m : Int) ≤ 9223372036854775807) (ht : ∀ j, ((ms j).tn : Int) ≤ 9223372036854775807) (HM : MR w ra m ms) :
    Calls Tryd.prog 5 #[.agg #[.slice fa len cap, .int .i64 u, .slice ra m rcap, .int .i64 mi, .int .i64 sf], .int .i64 1048576] w fun e w' => ∃ v : Int, e = .returned (.int .i64 v) ∧ (v = -1 ∨ (0 ≤ v ∧ v ≤ 1048576 ∧ (len : Int) ≤ 1048576 ∧ (m : Int) ≤ 1048576 ∧ ∀ j, j < m → ((ms j).tn : Int) ≤ 1048576)) ∧ Below w.heap.size w w' := by
  have HR : Hid (CR w fa len c) := hr
  have HC : Hid (∀ j, ((c j).code.size : Int) ≤ 9223372036854775807) := hc
  have HME : Hid (MR w ra m ms) := HM
  have HT : Hid (∀ j, ((ms j).tn : Int) ≤ 9223372036854775807) := ht
  clear hr hc HM ht
  go_enter Tryd.func5, Tryd.ntmps5
  go_wp2_with (first
    | (go_at_call 16; refine (szCurS_any _ _ _ c _ hl HC.out (HR.out.alloc _)).mono ?_; rintro e w1 ⟨v, rfl, hv, b1⟩; have X0 : CB w1 w.heap.size #[.slice fa len cap, .int .i64 u, .slice ra m rcap, .int .i64 mi, .int .i64 sf] 25 := (CB.new _ _).below b1 (by simp); have x2 := (X0.cell 2).trans rfl; have HB : Hid (Below w.heap.size w w1) := bel_on ((Below.refl _ _).alloc (Nat.le_refl _) _) b1; clear b1 X0; rcases hv with rfl | ⟨hv, hv2, hv3⟩)
    | (go_at_call 17; refine (szMemberS_any _ _ _ ms _ _ hv hv2 hm HT.out (HME.out.below HB.out)).mono ?_; rintro e w2 ⟨v2, rfl, hu, b2⟩; have HB2 : Hid (Below w.heap.size w w2) := bel_on HB.out b2; clear b2; rcases hu with rfl | ⟨hu, hu2, hu3, hu4⟩))
  · go_returns
    exact ⟨-1, rfl, .inl rfl, HB.out⟩
  · go_returns
    exact ⟨-1, rfl, .inl rfl, HB2.out⟩
  · have HU : Hid (∀ j, j < m → ((ms j).tn : Int) ≤ 1048576) := hu4
    clear hu4
    go_returns
    exact ⟨v2, rfl, .inr (by first | exact ⟨hu, hu2, hv3, hu3, HU.out⟩), HB2.out⟩

/-- A row of whole numbers of its own block. -/
def RowAt (w : World) (b n : Nat) (z : Nat → Int) : Prop := IR w (some ⟨b, 0, none⟩) n z ∧ ∃ cs, CB w b cs 3 ∧ cs.size = n
section
variable {w w' : World} {b n : Nat} {z : Nat → Int}
theorem RowAt.lt (H : RowAt w b n z) : b < w.heap.size := by obtain ⟨_, cs, h, _⟩ := H; exact h.lt
theorem RowAt.below (H : RowAt w b n z) (k : Below w.heap.size w w') : RowAt w' b n z := by obtain ⟨h, cs, h1, h2⟩ := H; exact ⟨h.below k, cs, h1.below k h1.lt, h2⟩
theorem RowAt.other (H : RowAt w b n z) {c o : Nat} (u : Value) (h : b ≠ c) : RowAt (w.setCell ⟨c, o, none⟩ u) b n z := by obtain ⟨h0, cs, h1, h2⟩ := H; exact ⟨h0.other u h, cs, h1.other u h, h2⟩
theorem RowAt.oth4 {B o : Nat} {x y v u : Value} (H : RowAt w b n z) (h : b ≠ B) : RowAt ((((w.setCell ⟨B, o, none⟩ x).setCell ⟨B, o + 1, none⟩ y).setCell ⟨B, o + 2, none⟩ v).setCell ⟨B, o + 3, none⟩ u) b n z := (((H.other _ h).other _ h).other _ h).other _ h
end
theorem toIntS_at {ad : Option Addr} {len cap : Nat} {z : Nat → Int} {w : World} {b : Nat} (hb : w.heap.size = b) (h : (len : Int) ≤ 1048576) (hr : IR w ad len z) :
    Calls Tryd.prog 48 #[.slice ad len cap] w fun e w' => e = .returned (.slice (some ⟨b, 0, none⟩) len len) ∧ RowAt w' b len z ∧ Below w.heap.size w w' := by
  subst hb; exact toIntS_any ad len cap z w h hr
theorem three_bl {w w1 : World} {bs cs ds : Array Value} {s t u : TypeId} (b : Below (((w.alloc (.cells bs s (0, 0))).alloc (.cells cs t (0, 0))).alloc (.cells ds u (0, 0))).heap.size (((w.alloc (.cells bs s (0, 0))).alloc (.cells cs t (0, 0))).alloc (.cells ds u (0, 0))) w1) :
    CB w1 w.heap.size bs s ∧ CB w1 (w.heap.size + 1) cs t ∧ CB w1 (w.heap.size + 1 + 1) ds u ∧ Below w.heap.size w w1 := by
  refine ⟨?_, ?_, ?_, ?_⟩
  · exact (((CB.new bs s).alloc _).alloc _).below b (by simp; omega)
  · exact ((CB.newAt (by simp) cs t).alloc _).below b (by simp)
  · exact (CB.newAt (by simp) ds u).below b (by simp)
  · exact bel_on ((((Below.refl _ _).alloc (Nat.le_refl _) _).alloc (by simp) _).alloc (by simp; omega) _) b

set_option maxRecDepth 20000 in
set_option maxHeartbeats 2000000 in
theorem toMember_any (p s c : Int) (ta : Option Addr) (tn tc : Nat) (tr : Nat → Int) (w : World) (h1 : (tn : Int) ≤ 1048576) (hT : IR w ta tn tr) :
    Calls Tryd.prog 38 #[.agg #[.int .i64 p, .int .i64 s, .int .i64 c, .slice ta tn tc]] w fun e w' => ∃ bt, e = .returned (.agg #[.int .i64 p, .int .i64 s, .int .i64 c, .slice (some ⟨bt, 0, none⟩) tn tn]) ∧ w.heap.size ≤ bt ∧ RowAt w' bt tn tr ∧ Below w.heap.size w w' := by
  have HT : Hid (IR w ta tn tr) := hT
  have HBL : Hid (Below w.heap.size w (((w.alloc (.cells #[.int .i64 p, .int .i64 s, .int .i64 c, .slice ta tn tc] 70 (0, 0))).alloc (.cells #[.int .i64 0, .int .i64 0, .int .i64 0, .slice none 0 0] 46 (0, 0))).alloc (.cells #[.int .i64 p, .int .i64 s, .int .i64 c, .slice none 0 0] 46 (0, 0)))) := (((Below.refl _ _).alloc (Nat.le_refl _) _).alloc (by simp) _).alloc (by simp; omega) _
  clear hT
  go_enter Tryd.func38, Tryd.ntmps38
  go_wp2_with (go_at_call 48; go_loud (refine (toIntS_at (b := w.heap.size + 1 + 1 + 1) (by simp) h1 (HT.out.below HBL.out)).mono ?_; rintro e w1 ⟨rfl, o1, b1⟩; obtain ⟨C0, C1, C2, b2⟩ := three_bl b1; have k0 := (C2.cell 0).trans rfl; have k1 := (C2.cell 1).trans rfl; have k2 := (C2.cell 2).trans rfl; have k3 := (C2.cell 3).trans rfl; have m0 := (C1.cell 0).trans rfl; have m1 := (C1.cell 1).trans rfl; have m2 := (C1.cell 2).trans rfl; have m3 := (C1.cell 3).trans rfl; have f3 := C2.fr 3; have g0 := C1.fr 0; have g1 := C1.fr 1; have g2 := C1.fr 2; have g3 := C1.fr 3; have HC1 : Hid (CB w1 (w.heap.size + 1) #[.int .i64 0, .int .i64 0, .int .i64 0, .slice none 0 0] 46) := C1; have HO1 : Hid (RowAt w1 (w.heap.size + 1 + 1 + 1) tn tr) := o1; have HB1 : Hid (Below w.heap.size w w1) := b2; clear o1 b1 b2 C0 C1 C2))
  have hX := ((((HC1.out.other (c := w.heap.size + 1 + 1) (o := 3) (.slice (some ⟨w.heap.size + 1 + 1 + 1, 0, none⟩) tn tn) (by omega)).set 0 (.int .i64 p)).set 1 (.int .i64 s)).set 2 (.int .i64 c)).set 3 (.slice (some ⟨w.heap.size + 1 + 1 + 1, 0, none⟩) tn tn)
  have hY := ((((HO1.out.other (c := w.heap.size + 1 + 1) (o := 3) (.slice (some ⟨w.heap.size + 1 + 1 + 1, 0, none⟩) tn tn) (by omega)).other (c := w.heap.size + 1) (o := 0) (.int .i64 p) (by omega)).other (c := w.heap.size + 1) (o := 1) (.int .i64 s) (by omega)).other (c := w.heap.size + 1) (o := 2) (.int .i64 c) (by omega)).other (c := w.heap.size + 1) (o := 3) (.slice (some ⟨w.heap.size + 1 + 1 + 1, 0, none⟩) tn tn) (by omega)
  have hZ := ((((HB1.out.setCell (p := ⟨w.heap.size + 1 + 1, 3, none⟩) (by simp; omega) (.slice (some ⟨w.heap.size + 1 + 1 + 1, 0, none⟩) tn tn)).setCell (p := ⟨w.heap.size + 1, 0, none⟩) (by simp) (.int .i64 p)).setCell (p := ⟨w.heap.size + 1, 1, none⟩) (by simp) (.int .i64 s)).setCell (p := ⟨w.heap.size + 1, 2, none⟩) (by simp) (.int .i64 c)).setCell (p := ⟨w.heap.size + 1, 3, none⟩) (by simp) (.slice (some ⟨w.heap.size + 1 + 1 + 1, 0, none⟩) tn tn)
  have e0 := hX.cell 0
  have e1 := hX.cell 1
  have e2 := hX.cell 2
  have e3 := hX.cell 3
  simp at e0 e1 e2 e3
  clear hX k0 k1 k2 k3 m0 m1 m2 m3 f3 g0 g1 g2 g3 HC1 HO1 HB1 HBL
  generalize (World.setCell _ _ _) = W5 at e0 e1 e2 e3 hY hZ ⊢
  refine bodyPost_ret (by simp [results, Tryd.results38, go_sem, e0, e1, e2, e3]; try rfl) rfl ?_
  exact ⟨_, rfl, by omega, hY, hZ⟩

set_option maxRecDepth 20000 in
set_option maxHeartbeats 1000000 in
theorem eqMember_same (p s c : Int) (ta tb : Option Addr) (tn tc td : Nat) (tr : Nat → Int) (w : World) (h1 : (tn : Int) ≤ 1048576) (hT : IR w ta tn tr) (hT2 : IR w tb tn tr) :
    Calls Tryd.prog 42 #[.agg #[.int .i64 p, .int .i64 s, .int .i64 c, .slice ta tn tc], .agg #[.int .i64 p, .int .i64 s, .int .i64 c, .slice tb tn td]] w fun e w' => e = .returned (.bool true) ∧ Below w.heap.size w w' := by
  have HT : Hid (IR w ta tn tr) := hT
  have HT2 : Hid (IR w tb tn tr) := hT2
  have HBL : Hid (Below w.heap.size w ((w.alloc (.cells #[.int .i64 p, .int .i64 s, .int .i64 c, .slice ta tn tc] 46 (0, 0))).alloc (.cells #[.int .i64 p, .int .i64 s, .int .i64 c, .slice tb tn td] 46 (0, 0)))) := ((Below.refl _ _).alloc (Nat.le_refl _) _).alloc (by simp) _
  clear hT hT2
  go_enter Tryd.func42, Tryd.ntmps42
  go_wp2_with (go_at_call 12; go_loud (refine (eqIntS_same _ _ _ _ _ tr _ h1 (HT.out.below HBL.out) (HT2.out.below HBL.out)).mono ?_; rintro e w1 ⟨rfl, b1⟩; have HB1 : Hid (Below w.heap.size w w1) := bel_on HBL.out b1; clear b1))
  go_returns
  exact ⟨rfl, HB1.out⟩

def zerosM (n : Nat) : Array Value := madeCells #[.int .i64 0, .int .i64 0, .int .i64 0, .slice none 0 0] (n * 4)
theorem zerosM_size (n : Nat) : (zerosM n).size = n * 4 := size_madeCells _ _
set_option maxRecDepth 100000 in
theorem mkMembers (n : Nat) (h : (n : Int) ≤ 1048576) (w : World) : (Instr.makeSlice 29 (.int .i64 (n : Int)) (.int .i64 (n : Int))).run Tryd.prog w = .ok (.slice (some ⟨w.heap.size, 0, none⟩) n n) (w.alloc (.cells (zerosM n) 46)) := by
  obtain ⟨i, hi⟩ : ∃ i, Tryd.prog.info? 46 = some i := ⟨_, rfl⟩
  have hz : i.zero = some (.agg #[.int .i64 0, .int .i64 0, .int .i64 0, .slice none 0 0]) := by
    have : (Tryd.prog.info? 46).bind (·.zero) = some (.agg #[.int .i64 0, .int .i64 0, .int .i64 0, .slice none 0 0]) := by kernel_rfl
    rw [hi] at this; exact this
  have hs : i.size = 4 := by
    have : (Tryd.prog.info? 46).map (·.size) = some 4 := by kernel_rfl
    rw [hi] at this; simpa using this
  have hb : i.bytes = 48 := by
    have : (Tryd.prog.info? 46).map (·.bytes) = some 48 := by kernel_rfl
    rw [hi] at this; simpa using this
  have hr := run_make (P := Tryd.prog) w 29 46 i (.agg #[.int .i64 0, .int .i64 0, .int .i64 0, .slice none 0 0]) Tryd.underlying29 hi hz .i64 .i64 n n (by omega) (by omega) (by rw [hb]; omega) (by omega)
  simp only [Int.toNat_natCast, hs] at hr
  exact hr

/-- Members in a block of their own, each trial in a block of its own behind it. -/
structure OM4 (w : World) (B m k : Nat) (ms : Nat → M4) (bt : Nat → Nat) : Prop where
  main : ∃ cs, CB w B cs 46 ∧ cs.size = m * 4 ∧ ∀ j, j < k → cs[j * 4]? = some (.int .i64 (ms j).par) ∧ cs[j * 4 + 1]? = some (.int .i64 (ms j).sh) ∧ cs[j * 4 + 2]? = some (.int .i64 (ms j).cur) ∧ cs[j * 4 + 3]? = some (.slice (some ⟨bt j, 0, none⟩) (ms j).tn (ms j).tn)
  t : ∀ j, j < k → RowAt w (bt j) (ms j).tn (ms j).tr
  ap : ∀ j, j < k → B < bt j
  inc : ∀ i j, i < j → j < k → bt i < bt j
section
variable {w w' : World} {B m k : Nat} {ms : Nat → M4} {bt : Nat → Nat}
theorem OM4.lt (H : OM4 w B m k ms bt) : B < w.heap.size := by obtain ⟨cs, h, _⟩ := H.main; exact h.lt
theorem OM4.below (H : OM4 w B m k ms bt) (b : Below w.heap.size w w') : OM4 w' B m k ms bt := by
  obtain ⟨cs, h, h2⟩ := H.main
  exact ⟨⟨cs, h.below b h.lt, h2⟩, fun j hj => (H.t j hj).below b, H.ap, H.inc⟩
theorem OM4.other (H : OM4 w B m k ms bt) {c o : Nat} (u : Value) (h : c < B) : OM4 (w.setCell ⟨c, o, none⟩ u) B m k ms bt := by
  obtain ⟨cs, h1, h2⟩ := H.main
  exact ⟨⟨cs, h1.other u (by omega), h2⟩, fun j hj => (H.t j hj).other u (by have := H.ap j hj; omega), H.ap, H.inc⟩
theorem OM4.mr (H : OM4 w B m m ms bt) : MR w (some ⟨B, 0, none⟩) m ms := by
  obtain ⟨cs, h, h1, h2⟩ := H.main
  refine .inr ⟨B, 0, rfl, h.lt, fun j hj => ⟨some ⟨bt j, 0, none⟩, (ms j).tn, ?_, ?_, ?_, ?_, (H.t j hj).1⟩⟩
  · rw [Nat.zero_add, h.cell]; exact (h2 j hj).1
  · rw [Nat.zero_add, h.cell]; exact (h2 j hj).2.1
  · rw [Nat.zero_add, h.cell]; exact (h2 j hj).2.2.1
  · rw [Nat.zero_add, h.cell]; exact (h2 j hj).2.2.2
theorem OM4.step {t1 : Nat} (H : OM4 w B m k ms bt) (hk : k < m) (h1 : RowAt w t1 (ms k).tn (ms k).tr) (hb : B < t1) (hn : ∀ j, j < k → bt j < t1) :
    OM4 ((((w.setCell ⟨B, k * 4, none⟩ (.int .i64 (ms k).par)).setCell ⟨B, k * 4 + 1, none⟩ (.int .i64 (ms k).sh)).setCell ⟨B, k * 4 + 2, none⟩ (.int .i64 (ms k).cur)).setCell ⟨B, k * 4 + 3, none⟩ (.slice (some ⟨t1, 0, none⟩) (ms k).tn (ms k).tn)) B m (k + 1) ms (fun j => if j = k then t1 else bt j) := by
  obtain ⟨cs, c1, c2, c3⟩ := H.main
  refine ⟨⟨_, (((c1.set _ _).set _ _).set _ _).set _ _, by simpa using c2, fun j hj => ?_⟩, fun j hj => ?_, fun j hj => ?_, fun i j hi hj => ?_⟩
  · by_cases e : j = k
    · subst e
      simp only [if_true]
      refine ⟨?_, ?_, ?_, ?_⟩
      · rw [get_set_ne (by omega), get_set_ne (by omega), get_set_ne (by omega), get_set_eq (by omega)]
      · rw [get_set_ne (by omega), get_set_ne (by omega), get_set_eq (by simp; omega)]
      · rw [get_set_ne (by omega), get_set_eq (by simp; omega)]
      · rw [get_set_eq (by simp; omega)]
    · simp only [if_neg e]
      obtain ⟨q1, q2, q3, q4⟩ := c3 j (by omega)
      refine ⟨?_, ?_, ?_, ?_⟩ <;> (rw [get_set_ne (by omega), get_set_ne (by omega), get_set_ne (by omega), get_set_ne (by omega)]; assumption)
  · by_cases e : j = k
    · subst e; simp only [if_true]; exact h1.oth4 (by omega)
    · simp only [if_neg e]; exact (H.t j (by omega)).oth4 (by have := H.ap j (by omega); omega)
  · by_cases e : j = k
    · simp only [if_pos e]; exact hb
    · simp only [if_neg e]; exact H.ap j (by omega)
  · by_cases e : j = k
    · have e2 : i ≠ k := by omega
      simp only [if_pos e, if_neg e2]; exact hn i (by omega)
    · have e2 : i ≠ k := by omega
      simp only [if_neg e, if_neg e2]; exact H.inc i j hi (by omega)
end

set_option maxRecDepth 20000 in
set_option maxHeartbeats 2000000 in
theorem toMemberS_any (ra : Option Addr) (m rcap : Nat) (ms : Nat → M4) (w : World) (h : (m : Int) ≤ 1048576) (hl : ∀ j, j < m → ((ms j).tn : Int) ≤ 1048576) (HR0 : MR w ra m ms) :
    Calls Tryd.prog 23 #[.slice ra m rcap] w fun e w' => e = .returned (.slice (some ⟨w.heap.size, 0, none⟩) m m) ∧ (∃ bt, OM4 w' w.heap.size m m ms bt) ∧ Below w.heap.size w w' := by
  have HR : Hid (MR w ra m ms) := HR0
  have HN : Hid (∀ j, j < m → ((ms j).tn : Int) ≤ 1048576) := hl
  have hmk := mkMembers m h
  clear HR0 hl
  go_enter Tryd.func23, Tryd.ntmps23
  go_wp2
  go_loopw [4] (fun i wr => ∃ (k : Nat) (bt : Nat → Nat), k ≤ m ∧ i = .int .i64 (k : Int) ∧ Hid (OM4 wr w.heap.size m k ms bt ∧ Below w.heap.size w wr)) (fun i _ => m - (intOf i).toNat)
  case atStart => exact ⟨0, fun _ => 0, Nat.zero_le _, rfl, ⟨⟨zerosM m, CB.new _ _, zerosM_size _, fun j hj => by omega⟩, fun j hj => by omega, fun j hj => by omega, fun i j hi hj => by omega⟩, (Below.refl _ _).alloc (Nat.le_refl _) _⟩
  case round =>
    obtain ⟨k, bt, hk, rfl, HO⟩ := hrel
    by_cases hlt : k < m
    · obtain ⟨kb, off, rfl, hkb, hru⟩ := HR.out.get hlt
      have HB : Hid (Below w.heap.size w wr) := HO.out.2
      obtain ⟨ta, tc, e1, e2, e3, e4, r5⟩ := hru.below hkb HB.out
      have HT : Hid (IR wr ta (ms k).tn (ms k).tr) := r5
      obtain ⟨cs, hC, hsz, _⟩ := HO.out.1.main
      obtain ⟨v1, d1⟩ : ∃ v, cs[k * 4]? = some v := ⟨cs[k * 4]'(by omega), Array.getElem?_eq_getElem (by omega)⟩
      obtain ⟨v2, d2⟩ : ∃ v, cs[k * 4 + 1]? = some v := ⟨cs[k * 4 + 1]'(by omega), Array.getElem?_eq_getElem (by omega)⟩
      obtain ⟨v3, d3⟩ : ∃ v, cs[k * 4 + 2]? = some v := ⟨cs[k * 4 + 2]'(by omega), Array.getElem?_eq_getElem (by omega)⟩
      obtain ⟨v4, d4⟩ : ∃ v, cs[k * 4 + 3]? = some v := ⟨cs[k * 4 + 3]'(by omega), Array.getElem?_eq_getElem (by omega)⟩
      have HC : Hid (CB wr w.heap.size cs 46) := hC
      have hnk := HN.out k hlt
      have hlt2 : (k : Int) < (m : Int) := by omega
      have HD1 : Hid (cs[k * 4]? = some v1) := d1
      have HD2 : Hid (cs[k * 4 + 1]? = some v2) := d2
      have HD3 : Hid (cs[k * 4 + 2]? = some v3) := d3
      have HD4 : Hid (cs[k * 4 + 3]? = some v4) := d4
      clear hC hsz hru r5 d1 d2 d3 d4
      go_wp2_with (go_at_call 38; go_loud (refine (toMember_any _ _ _ _ _ _ (ms k).tr _ hnk HT.out).mono ?_; rintro e w1 ⟨t1, rfl, hb, o1, b1⟩; have X1 : CB w1 w.heap.size cs 46 := HC.out.below b1 HC.out.lt; have x1 := (X1.cell (k * 4)).trans HD1.out; have x2 := (X1.cell (k * 4 + 1)).trans HD2.out; have x3 := (X1.cell (k * 4 + 2)).trans HD3.out; have x4 := (X1.cell (k * 4 + 3)).trans HD4.out; have f1 := X1.fr (k * 4); have f2 := X1.fr (k * 4 + 1); have f3 := X1.fr (k * 4 + 2); have f4 := X1.fr (k * 4 + 3); have HP : Hid (wr.heap.size ≤ t1) := hb; have HO1 : Hid (RowAt w1 t1 (ms k).tn (ms k).tr) := o1; have HX : Hid (OM4 w1 w.heap.size m k ms bt) := HO.out.1.below b1; have HB1 : Hid (Below w.heap.size w w1) := bel_on HB.out b1; clear X1 b1 hb o1))
      go_roundw
      case rel =>
        have hlt3 := HC.out.lt
        have hp := HP.out
        exact ⟨k + 1, _, by omega, by go_num, HX.out.step hlt HO1.out (by omega) (fun j hj => by have := (HO.out.1.t j hj).lt; omega), (((HB1.out.setCell (by simp) _).setCell (by simp) _).setCell (by simp) _).setCell (by simp) _⟩
      case measure => simp [intOf]; omega
    · obtain rfl : k = m := by omega
      have lkk : ¬ (k : Int) < (k : Int) := by omega
      go_wp2
      go_returns
      exact ⟨rfl, ⟨bt, HO.out.1⟩, HO.out.2⟩

set_option maxRecDepth 20000 in
set_option maxHeartbeats 4000000 in
theorem eqMemberS_same (ra rb : Option Addr) (m cap cap2 : Nat) (ms : Nat → M4) (w : World) (h : (m : Int) ≤ 1048576) (hl : ∀ j, j < m → ((ms j).tn : Int) ≤ 1048576) (h1 : MR w ra m ms) (h2 : MR w rb m ms) :
    Calls Tryd.prog 26 #[.slice ra m cap, .slice rb m cap2] w fun e w' => e = .returned (.bool true) ∧ Below w.heap.size w w' := by
  have H1 : Hid (MR w ra m ms) := h1
  have H2 : Hid (MR w rb m ms) := h2
  have HN : Hid (∀ j, j < m → ((ms j).tn : Int) ≤ 1048576) := hl
  clear h1 h2 hl
  go_enter Tryd.func26, Tryd.ntmps26
  go_wp2
  go_loopw [5] (fun i wr => ∃ (k : Nat), k ≤ m ∧ i = .int .i64 (k : Int) ∧ Hid (Below w.heap.size w wr)) (fun i _ => m - (intOf i).toNat)
  case atStart => exact ⟨0, Nat.zero_le _, rfl, Below.refl _ _⟩
  case round =>
    obtain ⟨k, hk, rfl, HB⟩ := hrel
    by_cases hlt : k < m
    · have hlt2 : (k : Int) < (m : Int) := by omega
      obtain ⟨kb, off, rfl, hkb, hru⟩ := H1.out.get hlt
      obtain ⟨kb2, off2, rfl, hkb2, hru2⟩ := H2.out.get hlt
      obtain ⟨ta, tc, c1, c2, c3, c4, r5⟩ := hru.below hkb HB.out
      obtain ⟨tb, td, e1, e2, e3, e4, s5⟩ := hru2.below hkb2 HB.out
      have hBd : Below w.heap.size w wr.drew := HB.out.drew
      have hnk := HN.out k hlt
      have HEQ : Hid (Calls Tryd.prog 42 #[.agg #[.int .i64 (ms k).par, .int .i64 (ms k).sh, .int .i64 (ms k).cur, .slice ta (ms k).tn tc], .agg #[.int .i64 (ms k).par, .int .i64 (ms k).sh, .int .i64 (ms k).cur, .slice tb (ms k).tn td]] wr.drew fun e w' => e = .returned (.bool true) ∧ Below wr.drew.heap.size wr.drew w') := eqMember_same _ _ _ _ _ _ _ _ (ms k).tr _ hnk r5 s5
      clear hru hru2 r5 s5
      obtain ⟨p, hp⟩ : ∃ f, (ms k).par = f := ⟨_, rfl⟩
      obtain ⟨s, hs⟩ : ∃ f, (ms k).sh = f := ⟨_, rfl⟩
      obtain ⟨c, hc⟩ : ∃ f, (ms k).cur = f := ⟨_, rfl⟩
      obtain ⟨tn, ht⟩ : ∃ t, (ms k).tn = t := ⟨_, rfl⟩
      rw [hp, hs, hc, ht] at HEQ
      rw [hp] at c1 e1
      rw [hs] at c2 e2
      rw [hc] at c3 e3
      rw [ht] at c4 e4
      clear hp hs hc ht hnk
      go_wp2
      go_region_held3 (fun w' => (w'.cell? ⟨kb, off + k * 4, none⟩ = some (.int .i64 p) ∧ w'.cell? ⟨kb, off + k * 4 + 1, none⟩ = some (.int .i64 s) ∧ w'.cell? ⟨kb, off + k * 4 + 2, none⟩ = some (.int .i64 c) ∧ w'.cell? ⟨kb, off + k * 4 + 3, none⟩ = some (.slice ta tn tc)) ∧ (w'.cell? ⟨kb2, off2 + k * 4, none⟩ = some (.int .i64 p) ∧ w'.cell? ⟨kb2, off2 + k * 4 + 1, none⟩ = some (.int .i64 s) ∧ w'.cell? ⟨kb2, off2 + k * 4 + 2, none⟩ = some (.int .i64 c) ∧ w'.cell? ⟨kb2, off2 + k * 4 + 3, none⟩ = some (.slice tb tn td)) ∧ Below w.heap.size w w')
        (refine ⟨⟨?_, ?_, ?_, ?_⟩, ⟨?_, ?_, ?_, ?_⟩, ?_⟩ <;> first | assumption | (simp [*]; done))
        (first
        | (go_at_call 42; refine HEQ.out.mono ?_; rintro e w2 ⟨rfl, b2⟩; have q0 : w2.cell? ⟨kb, off + k * 4, none⟩ = some (.int .i64 p) := keep_cell b2 (by simp [*]); have q1 : w2.cell? ⟨kb, off + k * 4 + 1, none⟩ = some (.int .i64 s) := keep_cell b2 (by simp [*]); have q2 : w2.cell? ⟨kb, off + k * 4 + 2, none⟩ = some (.int .i64 c) := keep_cell b2 (by simp [*]); have q3 : w2.cell? ⟨kb, off + k * 4 + 3, none⟩ = some (.slice ta tn tc) := keep_cell b2 (by simp [*]); have r0 : w2.cell? ⟨kb2, off2 + k * 4, none⟩ = some (.int .i64 p) := keep_cell b2 (by simp [*]); have r1 : w2.cell? ⟨kb2, off2 + k * 4 + 1, none⟩ = some (.int .i64 s) := keep_cell b2 (by simp [*]); have r2 : w2.cell? ⟨kb2, off2 + k * 4 + 2, none⟩ = some (.int .i64 c) := keep_cell b2 (by simp [*]); have r3 : w2.cell? ⟨kb2, off2 + k * 4 + 3, none⟩ = some (.slice tb tn td) := keep_cell b2 (by simp [*]); have q4 : Below w.heap.size w w2 := bel_on hBd b2))
      go_wp2
      go_roundw
      case rel => exact ⟨k + 1, by omega, by go_num, q4⟩
      case measure => simp [intOf]; omega
    · obtain rfl : k = m := by omega
      have lkk : ¬ (k : Int) < (k : Int) := by omega
      go_wp2
      go_returns
      exact ⟨rfl, HB.out⟩

set_option maxHeartbeats 2000000 in
theorem toCurS_cells (ad : Option Addr) (len cap : Nat) (c : Nat → C3) (w : World) (h : (len : Int) ≤ 1048576) (hr : CR w ad len c) :
    Calls Tryd.prog 22 #[.slice ad len cap] w fun e w' => e = .returned (.slice (some ⟨w.heap.size, 0, none⟩) len len) ∧ (CR w' (some ⟨w.heap.size, 0, none⟩) len c ∧ ∃ cs, CB w' w.heap.size cs 71 ∧ cs.size = len * 3) ∧ Below w.heap.size w w' := by
  have HR : Hid (CR w ad len c) := hr
  have hmk := mkCurs len h
  clear hr
  go_enter Tryd.func22, Tryd.ntmps22
  go_wp2
  go_loopw [4] (fun i wr => ∃ (k : Nat) (cs : Array Value), k ≤ len ∧ i = .int .i64 (k : Int) ∧ CB wr w.heap.size cs 71 ∧ cs.size = len * 3 ∧ (∀ j, j < k → cs[j * 3]? = some (.string (c j).code) ∧ cs[j * 3 + 1]? = some (.int .i64 (c j).places) ∧ cs[j * 3 + 2]? = some (.int .i64 (c j).step)) ∧ Below w.heap.size w wr) (fun i _ => len - (intOf i).toNat)
  case atStart => exact ⟨0, zeros3 len, Nat.zero_le _, rfl, CB.new _ _, zeros3_size _, fun j hj => by omega, (Below.refl _ _).alloc (Nat.le_refl _) _⟩
  case round =>
    obtain ⟨k, cs, hk, rfl, hC, hsz, hcs, hB⟩ := hrel
    by_cases hlt : k < len
    · obtain ⟨kb, off, rfl, hkb⟩ := HR.out.addr (by omega)
      obtain ⟨c1, c2, c3⟩ := (HR.out.below hB).cell hlt
      obtain ⟨v1, d1⟩ : ∃ v, cs[k * 3]? = some v := ⟨cs[k * 3]'(by omega), Array.getElem?_eq_getElem (by omega)⟩
      obtain ⟨v2, d2⟩ : ∃ v, cs[k * 3 + 1]? = some v := ⟨cs[k * 3 + 1]'(by omega), Array.getElem?_eq_getElem (by omega)⟩
      obtain ⟨v3, d3⟩ : ∃ v, cs[k * 3 + 2]? = some v := ⟨cs[k * 3 + 2]'(by omega), Array.getElem?_eq_getElem (by omega)⟩
      have HC : Hid (CB wr w.heap.size cs 71) := hC
      have HS : Hid (cs.size = len * 3) := hsz
      have HCS : Hid (∀ j, j < k → cs[j * 3]? = some (.string (c j).code) ∧ cs[j * 3 + 1]? = some (.int .i64 (c j).places) ∧ cs[j * 3 + 2]? = some (.int .i64 (c j).step)) := hcs
      have HB : Hid (Below w.heap.size w wr) := hB
      clear hC hsz hcs hB
      go_wp2_with (go_at_call 37; refine (toCur_any _ _ _ _).mono ?_; rintro e w1 ⟨rfl, b1⟩; have X1 : CB w1 w.heap.size cs 71 := HC.out.below b1 HC.out.lt; have x1 := (X1.cell (k * 3)).trans d1; have x2 := (X1.cell (k * 3 + 1)).trans d2; have x3 := (X1.cell (k * 3 + 2)).trans d3; have f1 := X1.fr (k * 3); have f2 := X1.fr (k * 3 + 1); have f3 := X1.fr (k * 3 + 2); have HX : Hid (CB w1 w.heap.size cs 71) := X1; have HB1 : Hid (Below w.heap.size w w1) := bel_on HB.out b1; clear X1 b1)
      go_roundw
      case rel =>
        refine ⟨k + 1, ((cs.setIfInBounds (k * 3) (.string (c k).code)).setIfInBounds (k * 3 + 1) (.int .i64 (c k).places)).setIfInBounds (k * 3 + 2) (.int .i64 (c k).step), by omega, by go_num, ((HX.out.set _ _).set _ _).set _ _, by simp [HS.out], fun j hj => ?_, ((HB1.out.setCell (by simp) _).setCell (by simp) _).setCell (by simp) _⟩
        have hs := HS.out
        by_cases hjk : j = k
        · subst hjk
          refine ⟨?_, ?_, ?_⟩
          · rw [get_set_ne (by omega), get_set_ne (by omega), get_set_eq (by omega)]
          · rw [get_set_ne (by omega), get_set_eq (by simp; omega)]
          · rw [get_set_eq (by simp; omega)]
        · have hj2 := HCS.out j (by omega)
          refine ⟨?_, ?_, ?_⟩ <;> rw [get_set_ne (by omega), get_set_ne (by omega), get_set_ne (by omega)]
          · exact hj2.1
          · exact hj2.2.1
          · exact hj2.2.2
      case measure => simp [intOf]; omega
    · obtain rfl : k = len := by omega
      have HI : Hid (CR wr (some ⟨w.heap.size, 0, none⟩) k c) := CR.of_block hC k c hcs
      have HX : Hid (∃ cs, CB wr w.heap.size cs 71 ∧ cs.size = k * 3) := ⟨cs, hC, hsz⟩
      have HB : Hid (Below w.heap.size w wr) := hB
      clear hC hcs hB
      go_wp2
      go_returns
      exact ⟨rfl, ⟨HI.out, HX.out⟩, HB.out⟩

/-- The value of a group. -/
def gAgg (fa : Option Addr) (len cap : Nat) (u : Int) (ra : Option Addr) (m rcap : Nat) (mi sf : Int) : Value := .agg #[.slice fa len cap, .int .i64 u, .slice ra m rcap, .int .i64 mi, .int .i64 sf]
/-- A group that the laws have made: the chart's block, and behind it the members'. -/
structure GrAt (w : World) (bc bm len m : Nat) (c : Nat → C3) (ms : Nat → M4) (bt : Nat → Nat) : Prop where
  cr : CR w (some ⟨bc, 0, none⟩) len c
  cb : ∃ cs, CB w bc cs 71 ∧ cs.size = len * 3
  om : OM4 w bm m m ms bt
  lt : bc < bm
theorem GrAt.below {w w' : World} {bc bm len m : Nat} {c : Nat → C3} {ms : Nat → M4} {bt : Nat → Nat} (h : GrAt w bc bm len m c ms bt) (k : Below w.heap.size w w') : GrAt w' bc bm len m c ms bt := by
  obtain ⟨cs, h1, h2⟩ := h.cb
  exact ⟨h.cr.below k, ⟨cs, h1.below k h1.lt, h2⟩, h.om.below k, h.lt⟩
end Go.Proofs.YtoihiamafbokbaaDoor
