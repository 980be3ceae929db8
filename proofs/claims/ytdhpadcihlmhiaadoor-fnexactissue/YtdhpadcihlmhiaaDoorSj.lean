/- The laws' own functions over registers: sizes, copies, likeness; RegisterOk of the program. -/
import Derived.Test.YtdhpadcihlmhiaaDoorSi
namespace Go.Proofs.YtdhpadcihlmhiaaDoor
open Go.ChangeShapes Go.WideShapes Go.ChangeAt Go.RowKit
set_option linter.unusedVariables false
set_option linter.unusedSimpArgs false

theorem two_bl {w w1 : World} {bs cs : Array Value} {s t : TypeId} (b : Below ((w.alloc (.cells bs s (0, 0))).alloc (.cells cs t (0, 0))).heap.size ((w.alloc (.cells bs s (0, 0))).alloc (.cells cs t (0, 0))) w1) :
    CB w1 w.heap.size bs s ∧ CB w1 (w.heap.size + 1) cs t ∧ Below w.heap.size w w1 := by
  refine ⟨?_, ?_, ?_⟩
  · exact ((CB.new bs s).alloc _).below b (by simp; omega)
  · exact (CB.newAt (by simp) cs t).below b (by simp)
  · exact bel_on (((Below.refl _ _).alloc (Nat.le_refl _) _).alloc (by simp) _) b
theorem three_bl {w w1 : World} {bs cs ds : Array Value} {s t u : TypeId} (b : Below (((w.alloc (.cells bs s (0, 0))).alloc (.cells cs t (0, 0))).alloc (.cells ds u (0, 0))).heap.size (((w.alloc (.cells bs s (0, 0))).alloc (.cells cs t (0, 0))).alloc (.cells ds u (0, 0))) w1) :
    CB w1 w.heap.size bs s ∧ CB w1 (w.heap.size + 1) cs t ∧ CB w1 (w.heap.size + 1 + 1) ds u ∧ Below w.heap.size w w1 := by
  refine ⟨?_, ?_, ?_, ?_⟩
  · exact (((CB.new bs s).alloc _).alloc _).below b (by simp; omega)
  · exact ((CB.newAt (by simp) cs t).alloc _).below b (by simp)
  · exact (CB.newAt (by simp) ds u).below b (by simp)
  · exact bel_on ((((Below.refl _ _).alloc (Nat.le_refl _) _).alloc (by simp) _).alloc (by simp; omega) _) b

set_option maxRecDepth 20000 in
set_option maxHeartbeats 2000000 in
theorem implReg_any (ad : Option Addr) (len cap : Nat) (c : Nat → S2) (ap : Option Addr) (np pcap : Nat) (p : Nat → P4) (v : Bool) (w : World) (h : (len : Int) ≤ 1048576) (hcap : len ≤ cap) (hs : ∀ j, (c j).pre.size ≤ maxLen) (hr : SRw w ad len c) (hn : (np : Int) ≤ 1048576) (hp : PRw w ap np p) (hw : ∀ j, (Lit.int .i64 (p j).ser).wf = true) (hT : TP w) (hv : regB len c np p = v) :
    Calls Tryd.prog 16 #[.agg #[.slice ad len cap, .slice ap np pcap]] w fun e w' => e = .returned (.bool v) ∧ Below w.heap.size w w' := by
  have hB : Below w.heap.size w (w.alloc (.cells #[.slice ad len cap, .slice ap np pcap] 27 (0, 0))) := (Below.refl _ _).alloc (Nat.le_refl _) _
  have HC : Hid (Calls Tryd.prog 54 #[.agg #[.slice ad len cap, .slice ap np pcap]] (w.alloc (.cells #[.slice ad len cap, .slice ap np pcap] 27 (0, 0))) (OpP ad len cap c np p (w.alloc (.cells #[.slice ad len cap, .slice ap np pcap] 27 (0, 0))))) := open_any ad len cap c ap np pcap p _ h hcap hs (hr.below hB) hn (hp.below hB) hw (hT.below hB)
  have HV : Hid (regB len c np p = v) := hv
  have HB := hid hB
  clear hr hp hs hw hT hv hB
  go_enter Tryd.func16, Tryd.ntmps16
  go_wp2_with (go_at_call 54; go_loud (refine HC.out.mono ?_; rintro e w1 ⟨b, mb, rfl, _, b1⟩; rw [HV.out]; have HB1 : Hid (Below w.heap.size w w1) := bel_on HB.out b1; clear b1 HC))
  go_returns
  exact ⟨rfl, HB1.out⟩

theorem szPap_any (ad : Option Addr) (len cap : Nat) (L : Int) (w : World) (h0 : 0 ≤ L) (h1 : L ≤ 1048576) (hl : (len : Int) ≤ 9223372036854775807) :
    Calls Tryd.prog 74 #[.slice ad len cap, .int .i64 L] w fun e w' => ∃ v : Int, e = .returned (.int .i64 v) ∧ (v = -1 ∨ (0 ≤ v ∧ v ≤ 1048576 ∧ (len : Int) ≤ 1048576)) ∧ w' = w := by
  by_cases h : (len : Int) ≤ L
  · have h2 : ¬ L - (len : Int) < 0 := by omega
    go_enter Tryd.func74, Tryd.ntmps74
    go_wp2
    go_returns
    exact ⟨_, rfl, .inr ⟨by omega, by omega, by omega⟩, rfl⟩
  · have h2 : L - (len : Int) < 0 := by omega
    go_enter Tryd.func74, Tryd.ntmps74
    go_wp2
    go_returns
    exact ⟨-1, rfl, .inl rfl, rfl⟩
set_option maxRecDepth 20000 in
set_option maxHeartbeats 2000000 in
theorem szReg_any (ad : Option Addr) (len cap : Nat) (c : Nat → S2) (ap : Option Addr) (np pcap : Nat) (w : World) (hl : (len : Int) ≤ 9223372036854775807) (hc : ∀ j, ((c j).pre.size : Int) ≤ 9223372036854775807) (hr : SRw w ad len c) (hn : (np : Int) ≤ 9223372036854775807) :
    Calls Tryd.prog 27 #[.agg #[.slice ad len cap, .slice ap np pcap], .int .i64 1048576] w fun e w' => ∃ v : Int, e = .returned (.int .i64 v) ∧ (v = -1 ∨ (0 ≤ v ∧ (len : Int) ≤ 1048576 ∧ (np : Int) ≤ 1048576)) ∧ Below w.heap.size w w' := by
  have HB : Hid (Below w.heap.size w (w.alloc (.cells #[.slice ad len cap, .slice ap np pcap] 50 (0, 0)))) := (Below.refl _ _).alloc (Nat.le_refl _) _
  have HR : Hid (SRw w ad len c) := hr
  have HC : Hid (∀ j, ((c j).pre.size : Int) ≤ 9223372036854775807) := hc
  clear hr hc
  go_enter Tryd.func27, Tryd.ntmps27
  go_wp2_with (first
    | (go_at_call 73; go_loud (refine (szS2S_any _ _ _ c _ _ (by omega) (by omega) hl HC.out (HR.out.below HB.out)).mono ?_; rintro e w1 ⟨v, rfl, hv, b1⟩; have k1 : w1.cell? ⟨w.heap.size, 1, none⟩ = some (.slice ap np pcap) := (((CB.new _ _).below b1 (by simp)).cell 1).trans rfl; have HB1 : Hid (Below w.heap.size w w1) := bel_on HB.out b1; clear b1; rcases hv with rfl | ⟨hv0, hv1, hv2, hv3⟩; rotate_left; (clear hv3; have hv4 : ¬ v < 0 := by omega)))
    | (go_at_call 74; go_loud (refine (szPap_any _ _ _ _ _ hv0 hv1 hn).mono ?_; rintro e w2 ⟨u, rfl, hu, ew⟩; replace ew := ew.symm; subst ew; rcases hu with rfl | ⟨hu0, hu1, hu2⟩; rotate_left; (have hu4 : ¬ u < 0 := by omega))))
  all_goals go_returns
  all_goals first
    | exact ⟨_, rfl, .inr ⟨hu0, hv2, hu2⟩, HB1.out⟩
    | exact ⟨-1, rfl, .inl rfl, HB1.out⟩

/-- A register that the laws have made: the series' block, and behind it the papers'. -/
structure RegAt (w : World) (bs bp len np : Nat) (c : Nat → S2) (p : Nat → P4) : Prop where
  sr : SRw w (some ⟨bs, 0, none⟩) len c
  sc : ∃ cs, CB w bs cs 75 ∧ cs.size = len * 2
  pr : PRw w (some ⟨bp, 0, none⟩) np p
  pc : ∃ cs, CB w bp cs 32 ∧ cs.size = np * 4
  lt : bs < bp
section
variable {w w' : World} {bs bp len np : Nat} {c : Nat → S2} {p : Nat → P4}
theorem RegAt.below (h : RegAt w bs bp len np c p) (b : Below w.heap.size w w') : RegAt w' bs bp len np c p := by
  obtain ⟨cs, h1, h2⟩ := h.sc
  obtain ⟨ds, g1, g2⟩ := h.pc
  exact ⟨h.sr.below b, ⟨cs, h1.below b h1.lt, h2⟩, h.pr.below b, ⟨ds, g1.below b g1.lt, g2⟩, h.lt⟩
theorem RegAt.other (h : RegAt w bs bp len np c p) {b o : Nat} (u : Value) (h1 : b ≠ bs) (h2 : b ≠ bp) : RegAt (w.setCell ⟨b, o, none⟩ u) bs bp len np c p := by
  obtain ⟨cs, q1, q2⟩ := h.sc
  obtain ⟨ds, g1, g2⟩ := h.pc
  exact ⟨h.sr.other u (fun k off e => by simp only [Option.some.injEq, Addr.mk.injEq] at e; omega), ⟨cs, q1.other u (by omega), q2⟩, h.pr.other u (fun k off e => by simp only [Option.some.injEq, Addr.mk.injEq] at e; omega), ⟨ds, g1.other u (by omega), g2⟩, h.lt⟩
theorem RegAt.ltp (h : RegAt w bs bp len np c p) : bp < w.heap.size := by obtain ⟨ds, g1, g2⟩ := h.pc; exact g1.lt
end
theorem toSer_at {ad : Option Addr} {len cap : Nat} {c : Nat → S2} {w : World} {b : Nat} (hb : w.heap.size = b) (h : (len : Int) ≤ 1048576) (hr : SRw w ad len c) :
    Calls Tryd.prog 75 #[.slice ad len cap] w fun e w' => e = .returned (.slice (some ⟨b, 0, none⟩) len len) ∧ (SRw w' (some ⟨b, 0, none⟩) len c ∧ ∃ cs, CB w' b cs 75 ∧ cs.size = len * 2) ∧ Below w.heap.size w w' := by
  subst hb; exact toS2S_any ad len cap c w h hr
theorem toPap_at {ad : Option Addr} {len cap : Nat} {c : Nat → P4} {w : World} {b : Nat} (hb : w.heap.size = b) (h : (len : Int) ≤ 1048576) (hr : PRw w ad len c) :
    Calls Tryd.prog 76 #[.slice ad len cap] w fun e w' => e = .returned (.slice (some ⟨b, 0, none⟩) len len) ∧ (PRw w' (some ⟨b, 0, none⟩) len c ∧ ∃ cs, CB w' b cs 32 ∧ cs.size = len * 4) ∧ Below w.heap.size w w' := by
  subst hb; exact toP4S_any ad len cap c w h hr

set_option maxRecDepth 20000 in
set_option maxHeartbeats 4000000 in
theorem toReg_any (ad : Option Addr) (len cap : Nat) (c : Nat → S2) (ap : Option Addr) (np pcap : Nat) (p : Nat → P4) (w : World) (h : (len : Int) ≤ 1048576) (hn : (np : Int) ≤ 1048576) (hr : SRw w ad len c) (hp : PRw w ap np p) :
    Calls Tryd.prog 28 #[.agg #[.slice ad len cap, .slice ap np pcap]] w fun e w' => ∃ bs bp, e = .returned (.agg #[.slice (some ⟨bs, 0, none⟩) len len, .slice (some ⟨bp, 0, none⟩) np np]) ∧ RegAt w' bs bp len np c p ∧ w.heap.size ≤ bs ∧ Below w.heap.size w w' := by
  have HR : Hid (SRw w ad len c) := hr
  have HP : Hid (PRw w ap np p) := hp
  have HBL : Hid (Below w.heap.size w (((w.alloc (.cells #[.slice ad len cap, .slice ap np pcap] 50 (0, 0))).alloc (.cells #[.slice none 0 0, .slice none 0 0] 27 (0, 0))).alloc (.cells #[.slice none 0 0, .slice none 0 0] 27 (0, 0)))) := (((Below.refl _ _).alloc (Nat.le_refl _) _).alloc (by simp) _).alloc (by simp; omega) _
  clear hr hp
  go_enter Tryd.func28, Tryd.ntmps28
  go_wp2_with (first
    | (go_at_call 75; go_loud (refine (toSer_at (b := w.heap.size + 1 + 1 + 1) (by simp) h (HR.out.below HBL.out)).mono ?_; rintro e w1 ⟨rfl, ⟨i1, o1⟩, b1⟩; obtain ⟨C0, C1, C2, b2⟩ := three_bl b1; have k0 := (C2.cell 0).trans rfl; have k1 := (C2.cell 1).trans rfl; have f0 := C2.fr 0; have f1 := C2.fr 1; have m1 := (C0.cell 1).trans rfl; have HC0 := hid C0; have HC1 := hid C1; have HC2 := hid C2; have HI1 := hid i1; have HO1 := hid o1; have HB1 : Hid (Below w.heap.size w w1) := b2; have hs1 : w.heap.size + 1 + 1 + 1 < w1.heap.size := (by obtain ⟨cs, q, _⟩ := o1; exact q.lt); clear C0 C1 C2 b1 b2 i1 o1))
    | (go_at_call 76; go_loud (refine (toPap_at (b := w1.heap.size) (by simp) hn (HP.out.below (HB1.out.setCell (p := ⟨w.heap.size + 1 + 1, 0, none⟩) (by simp; omega) _))).mono ?_; rintro e w2 ⟨rfl, ⟨i2, o2⟩, b2⟩; have hz2 : (w1.setCell ⟨w.heap.size + 1 + 1, 0, none⟩ (.slice (some ⟨w.heap.size + 1 + 1 + 1, 0, none⟩) len len)).heap.size = w1.heap.size := (by simp); have X2 : CB w2 (w.heap.size + 1 + 1) #[.slice (some ⟨w.heap.size + 1 + 1 + 1, 0, none⟩) len len, .slice none 0 0] 27 := (HC2.out.set 0 _).below b2 (by rw [hz2]; omega); have X1 : CB w2 (w.heap.size + 1) #[.slice none 0 0, .slice none 0 0] 27 := (HC1.out.other _ (by omega)).below b2 (by rw [hz2]; omega); have HX1 := hid X1; have HI1b : Hid (SRw w2 (some ⟨w.heap.size + 1 + 1 + 1, 0, none⟩) len c) := (HI1.out.other _ (fun k off e => by simp only [Option.some.injEq, Addr.mk.injEq] at e; omega)).below b2; have HO1b : Hid (∃ cs, CB w2 (w.heap.size + 1 + 1 + 1) cs 75 ∧ cs.size = len * 2) := (by obtain ⟨cs, q1, q2⟩ := HO1.out; exact ⟨cs, (q1.other _ (by omega)).below b2 (by rw [hz2]; omega), q2⟩); have HI2 := hid i2; have HO2 := hid o2; have HB2 : Hid (Below w.heap.size w w2) := bel_on (HB1.out.setCell (p := ⟨w.heap.size + 1 + 1, 0, none⟩) (by simp; omega) _) b2; have l0 := (X2.cell 0).trans rfl; have l1 := (X2.cell 1).trans rfl; have g1 := X2.fr 1; have n0 := (X1.cell 0).trans rfl; have n1 := (X1.cell 1).trans rfl; have j0 := X1.fr 0; have j1 := X1.fr 1; have hs2 : w1.heap.size < w2.heap.size := (by obtain ⟨cs, q, _⟩ := o2; exact q.lt); clear X1 X2 b2 i2 o2 k0 k1 f0 f1 m1 hz2)))
  have RA : RegAt w2 (w.heap.size + 1 + 1 + 1) w1.heap.size len np c p := ⟨HI1b.out, HO1b.out, HI2.out, HO2.out, hs1⟩
  have hX := ((HX1.out.other (c := w.heap.size + 1 + 1) (o := 1) (.slice (some ⟨w1.heap.size, 0, none⟩) np np) (by omega)).set 0 (.slice (some ⟨w.heap.size + 1 + 1 + 1, 0, none⟩) len len)).set 1 (.slice (some ⟨w1.heap.size, 0, none⟩) np np)
  have hY := ((RA.other (b := w.heap.size + 1 + 1) (o := 1) (.slice (some ⟨w1.heap.size, 0, none⟩) np np) (by omega) (by omega)).other (b := w.heap.size + 1) (o := 0) (.slice (some ⟨w.heap.size + 1 + 1 + 1, 0, none⟩) len len) (by omega) (by omega)).other (b := w.heap.size + 1) (o := 1) (.slice (some ⟨w1.heap.size, 0, none⟩) np np) (by omega) (by omega)
  have hZ := ((HB2.out.setCell (p := ⟨w.heap.size + 1 + 1, 1, none⟩) (by simp; omega) (.slice (some ⟨w1.heap.size, 0, none⟩) np np)).setCell (p := ⟨w.heap.size + 1, 0, none⟩) (by simp) (.slice (some ⟨w.heap.size + 1 + 1 + 1, 0, none⟩) len len)).setCell (p := ⟨w.heap.size + 1, 1, none⟩) (by simp) (.slice (some ⟨w1.heap.size, 0, none⟩) np np)
  have e0 := hX.cell 0
  have e1 := hX.cell 1
  simp at e0 e1
  clear hX RA l0 l1 g1 n0 n1 j0 j1
  generalize (World.setCell _ _ _) = W5 at e0 e1 hY hZ ⊢
  refine bodyPost_ret (by simp [results, Tryd.results28, go_sem, e0, e1]; try rfl) rfl ?_
  exact ⟨_, _, rfl, hY, by omega, hZ⟩

set_option maxRecDepth 20000 in
set_option maxHeartbeats 1000000 in
theorem eqReg_same (ad ae : Option Addr) (len cap cae : Nat) (c : Nat → S2) (ap aq : Option Addr) (np pcap qcap : Nat) (p : Nat → P4) (w : World) (h : (len : Int) ≤ 1048576) (hn : (np : Int) ≤ 1048576) (hr : SRw w ad len c) (hp : PRw w ap np p) (hr2 : SRw w ae len c) (hp2 : PRw w aq np p) :
    Calls Tryd.prog 29 #[.agg #[.slice ad len cap, .slice ap np pcap], .agg #[.slice ae len cae, .slice aq np qcap]] w fun e w' => e = .returned (.bool true) ∧ Below w.heap.size w w' := by
  have HR : Hid (SRw w ad len c) := hr
  have HP : Hid (PRw w ap np p) := hp
  have HR2 : Hid (SRw w ae len c) := hr2
  have HP2 : Hid (PRw w aq np p) := hp2
  have HBL : Hid (Below w.heap.size w ((w.alloc (.cells #[.slice ad len cap, .slice ap np pcap] 27 (0, 0))).alloc (.cells #[.slice ae len cae, .slice aq np qcap] 27 (0, 0)))) := ((Below.refl _ _).alloc (Nat.le_refl _) _).alloc (by simp) _
  clear hr hp hr2 hp2
  go_enter Tryd.func29, Tryd.ntmps29
  go_wp2_with (first
    | (go_at_call 77; go_loud (refine (eqS2S_same _ _ _ _ _ c _ h (HR.out.below HBL.out) (HR2.out.below HBL.out)).mono ?_; rintro e w1 ⟨rfl, b1⟩; obtain ⟨C1, C2, b2⟩ := two_bl b1; have k1 := (C1.cell 1).trans rfl; have m1 := (C2.cell 1).trans rfl; have HB1 : Hid (Below w.heap.size w w1) := b2; clear b1 b2 C1 C2))
    | (go_at_call 78; go_loud (refine (eqP4S_same _ _ _ _ _ p _ hn (HP.out.below HB1.out) (HP2.out.below HB1.out)).mono ?_; rintro e w2 ⟨rfl, b2⟩; have HB2 : Hid (Below w.heap.size w w2) := bel_on HB1.out b2; clear b2)))
  go_returns
  exact ⟨rfl, HB2.out⟩
theorem slice_of {H : Type} {enc : TypeId × Value → H} {P : Program} {w : World} {sp : Nat → Bool} {held : Bool} {t e : TypeId} {fuel : Nat} {v : Value} {x : DataW H × List MemPlace}
    (ht : P.underlying t = some (.slice e)) (h : DataW.trod enc P w 0 sp held fuel t [v] = some x) : ∃ ad len cap, v = .slice ad len cap ∧ DataW.Trod enc P w 0 sp held t (.slice ad len cap) x.1 x.2 := by
  rcases Go.Deep.open_slice ht h with ⟨hcs, _⟩ | ⟨a, l, c, m, k, D, Pl, hcs, _⟩
  · have hv : v = .slice none 0 0 := by simpa using hcs
    subst hv
    exact ⟨none, 0, 0, rfl, fuel, by simpa [Value.cells] using h⟩
  · have hv : v = .slice (some a) l c := by simpa using hcs
    subst hv
    exact ⟨some a, l, c, rfl, fuel, by simpa [Value.cells] using h⟩
end Go.Proofs.YtdhpadcihlmhiaaDoor
