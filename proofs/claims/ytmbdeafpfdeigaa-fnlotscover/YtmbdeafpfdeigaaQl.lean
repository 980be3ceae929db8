/- The program's LotsOf. -/
import Derived.Test.YtmbdeafpfdeigaaQk
namespace Go.Proofs.Ytmbdeafpfdeigaa
open Go Go.ChangeShapes Go.WideShapes Go.ChangeAt Go.RowKit
set_option linter.unusedVariables false
set_option linter.unusedSimpArgs false

theorem TI.own {W : World} {tb n lo : Nat} {f : Nat → Int} (h : TI W tb n f) (hl : lo ≤ tb) : OwnI W lo (some ⟨tb, 0, none⟩) n f := by
  obtain ⟨cs, h1, h2, h3⟩ := h
  exact .inr ⟨tb, cs, rfl, hl, h1, h2, h3⟩
/-- What is ordered, by the kind. -/
def ordF (l : LT) (m : Nat → Int) (n : Nat) : Nat → Int := if l.kind = 2 then tO (fxG l.size) m else if l.kind = 3 then tO (spG m l.size n) m else if l.kind = 4 then orL l.setup l.hold m n else m
def loB (l : LT) (m : Nat → Int) (n : Nat) : Bool := ltB l && (nqB m n && rgB 1000000 (ordF l m n) n)
def loM (l : LT) (m : Nat → Int) (n : Nat) : Nat := if loB l m n = true then n else 0
theorem lo_f {l : LT} {m : Nat → Int} {n : Nat} (h : loB l m n = false) : loM l m n = 0 := if_neg (by rw [h]; decide)
theorem lo_t {l : LT} {m : Nat → Int} {n : Nat} (h : loB l m n = true) : loM l m n = n := if_pos h
/-- What a method of the lots leaves: orders of its own. -/
def OrP (w : World) (n : Nat) (f : Nat → Int) (e : Ending) (w' : World) : Prop := ∃ ad cp, e = .returned (.slice ad n cp) ∧ OwnI w' w.heap.size ad n f ∧ Below w.heap.size w w'
set_option maxRecDepth 20000 in
set_option maxHeartbeats 2000000 in
theorem forLot_any (ki sz su ho : Int) (a : Addr) (n cap : Nat) (m : Nat → Int) (w : World) (hn : n ≤ 40) (hr : IR w (some a) n m) :
    Calls Try.prog 119 #[.agg #[.int .i64 ki, .int .i64 sz, .int .i64 su, .int .i64 ho], .slice (some a) n cap] w (OrP w n m) := by
  have HR : Hid (IR w (some a) n m) := hr
  have HB0 : Hid (Below w.heap.size w (w.alloc (.cells #[.int .i64 ki, .int .i64 sz, .int .i64 su, .int .i64 ho] 48 (0, 0)))) := (Below.refl _ _).alloc (Nat.le_refl _) _
  have hn1 : (n : Int) ≤ 1048576 := by omega
  clear hr
  go_enter Try.func119, Try.ntmps119
  go_wp2_with (go_at_call 143; refine (cloneI_any a n cap m _ hn1 (HR.out.below HB0.out)).mono ?_; rintro e w1 ⟨ad, cp, rfl, o1, b1⟩; have HO : Hid (OwnI w1 w.heap.size ad n m ∧ Below w.heap.size w w1) := hid ⟨o1.mono (by simp), bel_on HB0.out b1⟩; clear o1 b1)
  go_returns
  exact ⟨ad, cp, rfl, HO.out.1, HO.out.2⟩
set_option maxRecDepth 20000 in
set_option maxHeartbeats 2000000 in
theorem fixedM_any (ki sz su ho : Int) (ad : Option Addr) (n cap : Nat) (m : Nat → Int) (w : World) (hn : n ≤ 40) (hz : 1 ≤ sz ∧ sz ≤ 1000000) (hm : ∀ j, j < n → 0 ≤ m j ∧ m j ≤ 1000000) (hr : IR w ad n m) :
    Calls Try.prog 116 #[.agg #[.int .i64 ki, .int .i64 sz, .int .i64 su, .int .i64 ho], .slice ad n cap] w (OrP w n (tO (fxG sz) m)) := by
  have HB0 : Hid (Below w.heap.size w (w.alloc (.cells #[.int .i64 ki, .int .i64 sz, .int .i64 su, .int .i64 ho] 48 (0, 0)))) := (Below.refl _ _).alloc (Nat.le_refl _) _
  have HC0 : Hid (CB (w.alloc (.cells #[.int .i64 ki, .int .i64 sz, .int .i64 su, .int .i64 ho] 48 (0, 0))) w.heap.size #[.int .i64 ki, .int .i64 sz, .int .i64 su, .int .i64 ho] 48) := CB.new _ _
  have HT := hid (topUpF_any ad n cap m w.heap.size (fxG sz) (w.alloc (.cells #[.int .i64 ki, .int .i64 sz, .int .i64 su, .int .i64 ho] 48 (0, 0))) hn hm (gb_fx hz) (hr.below HB0.out) (fun W k s b hk h0 h1 => fixed_any w.heap.size k s ki sz su ho W h0 h1 hz (HC0.out.below b HC0.out.lt)))
  clear hr hm
  go_enter Try.func116, Try.ntmps116
  go_wp2_with (go_at_call 138; refine HT.out.mono ?_; rintro e w1 ⟨rfl, o1, b1⟩; have HO : Hid (TI w1 (w.heap.size + 1) n (tO (fxG sz) m) ∧ Below w.heap.size w w1) := hid ⟨by simpa using o1, bel_on HB0.out b1⟩; clear o1 b1)
  go_returns
  exact ⟨_, _, by first | rfl | (simp; rfl), HO.out.1.own (by omega), HO.out.2⟩
set_option maxRecDepth 20000 in
set_option maxHeartbeats 2000000 in
theorem spanM_any (ki sz su ho : Int) (b off : Nat) (n cap : Nat) (m : Nat → Int) (w : World) (hn : n ≤ 40) (hcap : n ≤ cap) (hz : 1 ≤ sz ∧ sz ≤ 1000000) (hm : ∀ j, j < n → 0 ≤ m j ∧ m j ≤ 1000000) (hr : IR w (some ⟨b, off, none⟩) n m) :
    Calls Try.prog 117 #[.agg #[.int .i64 ki, .int .i64 sz, .int .i64 su, .int .i64 ho], .slice (some ⟨b, off, none⟩) n cap] w (OrP w n (tO (spG m sz n) m)) := by
  have HB0 : Hid (Below w.heap.size w ((w.alloc (.cells #[.int .i64 ki, .int .i64 sz, .int .i64 su, .int .i64 ho] 48 (0, 0))).alloc (.cells #[.slice (some ⟨b, off, none⟩) n cap] 24 (0, 0)))) := ((Below.refl _ _).alloc (Nat.le_refl _) _).alloc (by simp) _
  have HC0 : Hid (CB ((w.alloc (.cells #[.int .i64 ki, .int .i64 sz, .int .i64 su, .int .i64 ho] 48 (0, 0))).alloc (.cells #[.slice (some ⟨b, off, none⟩) n cap] 24 (0, 0))) w.heap.size #[.int .i64 ki, .int .i64 sz, .int .i64 su, .int .i64 ho] 48 ∧ CB ((w.alloc (.cells #[.int .i64 ki, .int .i64 sz, .int .i64 su, .int .i64 ho] 48 (0, 0))).alloc (.cells #[.slice (some ⟨b, off, none⟩) n cap] 24 (0, 0))) (w.heap.size + 1) #[.slice (some ⟨b, off, none⟩) n cap] 24) := hid ⟨(CB.new _ _).alloc _, CB.newAt (by simp) _ _⟩
  have hr2 := hr.below HB0.out
  have HT := hid (topUpS_any (some ⟨b, off, none⟩) n cap m w.heap.size (w.heap.size + 1) (spG m sz n) ((w.alloc (.cells #[.int .i64 ki, .int .i64 sz, .int .i64 su, .int .i64 ho] 48 (0, 0))).alloc (.cells #[.slice (some ⟨b, off, none⟩) n cap] 24 (0, 0))) hn hm (gb_sp hn hz hm) hr2 (fun W k s bb hk h0 h1 => span_any w.heap.size (w.heap.size + 1) k n cap b off m s ki sz su ho W hk hn hcap h0 h1 hz hm (hr2.below bb) (HC0.out.1.below bb HC0.out.1.lt) (keep_cell bb ((HC0.out.2.cell 0).trans rfl))))
  clear hr hm hr2
  go_enter Try.func117, Try.ntmps117
  go_wp2_with (go_at_call 138; refine HT.out.mono ?_; rintro e w1 ⟨rfl, o1, b1⟩; have HO : Hid (TI w1 (w.heap.size + 1 + 1) n (tO (spG m sz n) m) ∧ Below w.heap.size w w1) := hid ⟨by simpa using o1, bel_on HB0.out b1⟩; clear o1 b1)
  go_returns
  exact ⟨_, _, by first | rfl | (simp; rfl), HO.out.1.own (by omega), HO.out.2⟩
set_option maxRecDepth 20000 in
set_option maxHeartbeats 2000000 in
theorem ordersFor_any (ki sz su ho : Int) (b off : Nat) (n cap : Nat) (m : Nat → Int) (w : World) (hl : ltB ⟨ki, sz, su, ho⟩ = true) (hn : n ≤ 40) (hcap : n ≤ cap) (hm : ∀ j, j < n → 0 ≤ m j ∧ m j ≤ 1000000) (hr : IR w (some ⟨b, off, none⟩) n m) :
    Calls Try.prog 75 #[.agg #[.int .i64 ki, .int .i64 sz, .int .i64 su, .int .i64 ho], .slice (some ⟨b, off, none⟩) n cap] w (OrP w n (ordF ⟨ki, sz, su, ho⟩ m n)) := by
  obtain ⟨hk, hz, hS, hH⟩ := ltB_p hl
  have HB0 : Hid (Below w.heap.size w (w.alloc (.cells #[.int .i64 ki, .int .i64 sz, .int .i64 su, .int .i64 ho] 48 (0, 0)))) := (Below.refl _ _).alloc (Nat.le_refl _) _
  have hr2 := hr.below HB0.out
  have HUP : ∀ f e w', OrP (w.alloc (.cells #[.int .i64 ki, .int .i64 sz, .int .i64 su, .int .i64 ho] 48 (0, 0))) n f e w' → OrP w n f e w' := fun f e w' ⟨ad, cp, he, ho, hb⟩ => ⟨ad, cp, he, ho.mono (by simp), bel_on HB0.out hb⟩
  have hk' : ki = 1 ∨ ki = 2 ∨ ki = 3 ∨ ki = 4 := by show _; have h1 : 1 ≤ ki := hk.1; have h2 : ki ≤ 4 := hk.2; omega
  rcases hk' with rfl | rfl | rfl | rfl
  · have HC := hid (forLot_any 1 sz su ho ⟨b, off, none⟩ n cap m _ hn hr2)
    have HF : Hid (ordF ⟨1, sz, su, ho⟩ m n = m) := hid rfl
    have HU := hid HUP
    clear HUP hr hr2 hm hl hk hz hS hH
    rw [HF.out]
    go_enter Try.func75, Try.ntmps75
    go_wp2_with (go_at_call 119; refine HC.out.mono ?_; rintro e w1 hO; obtain ⟨ad1, cp1, rfl, o1, b1⟩ := HU.out _ _ _ hO; have HO : Hid (OwnI w1 w.heap.size ad1 n (m) ∧ Below w.heap.size w w1) := hid ⟨o1, b1⟩; clear hO o1 b1)
    go_returns
    exact ⟨ad1, cp1, rfl, HO.out.1, HO.out.2⟩
  · have HC := hid (fixedM_any 2 sz su ho (some ⟨b, off, none⟩) n cap m _ hn hz hm hr2)
    have HF : Hid (ordF ⟨2, sz, su, ho⟩ m n = tO (fxG sz) m) := hid rfl
    have HU := hid HUP
    clear HUP hr hr2 hm hl hk hz hS hH
    rw [HF.out]
    go_enter Try.func75, Try.ntmps75
    go_wp2_with (go_at_call 116; refine HC.out.mono ?_; rintro e w1 hO; obtain ⟨ad1, cp1, rfl, o1, b1⟩ := HU.out _ _ _ hO; have HO : Hid (OwnI w1 w.heap.size ad1 n (tO (fxG sz) m) ∧ Below w.heap.size w w1) := hid ⟨o1, b1⟩; clear hO o1 b1)
    go_returns
    exact ⟨ad1, cp1, rfl, HO.out.1, HO.out.2⟩
  · have HC := hid (spanM_any 3 sz su ho b off n cap m _ hn hcap hz hm hr2)
    have HF : Hid (ordF ⟨3, sz, su, ho⟩ m n = tO (spG m sz n) m) := hid rfl
    have HU := hid HUP
    clear HUP hr hr2 hm hl hk hz hS hH
    rw [HF.out]
    go_enter Try.func75, Try.ntmps75
    go_wp2_with (go_at_call 117; refine HC.out.mono ?_; rintro e w1 hO; obtain ⟨ad1, cp1, rfl, o1, b1⟩ := HU.out _ _ _ hO; have HO : Hid (OwnI w1 w.heap.size ad1 n (tO (spG m sz n) m) ∧ Below w.heap.size w w1) := hid ⟨o1, b1⟩; clear hO o1 b1)
    go_returns
    exact ⟨ad1, cp1, rfl, HO.out.1, HO.out.2⟩
  · have HC := hid (least_any 4 sz su ho (some ⟨b, off, none⟩) n cap m _ hn hcap hS hH hm hr2)
    have HF : Hid (ordF ⟨4, sz, su, ho⟩ m n = orL su ho m n) := hid rfl
    clear HUP hr hr2 hm hl hk hz hS hH
    rw [HF.out]
    go_enter Try.func75, Try.ntmps75
    go_wp2_with (go_at_call 118; refine HC.out.mono ?_; rintro e w1 ⟨tb, rfl, h1, o1, b1⟩; have HO : Hid (OwnI w1 w.heap.size (some ⟨tb, 0, none⟩) n (orL su ho m n) ∧ Below w.heap.size w w1) := hid ⟨o1.own (by have := HB0.out.size; omega), bel_on HB0.out b1⟩; clear h1 o1 b1)
    go_returns
    exact ⟨_, _, rfl, HO.out.1, HO.out.2⟩
set_option maxRecDepth 20000 in
set_option maxHeartbeats 2000000 in
theorem implLotsOf_any (l : LT) (ad : Option Addr) (n cap : Nat) (m : Nat → Int) (w : World) (hn : (n : Int) ≤ 1048576) (hcap : n ≤ cap) (hr : IR w ad n m) :
    Calls Try.prog 32 #[l.val, .slice ad n cap] w fun e w' => ∃ a cp, e = .returned (.tuple #[.slice a (loM l m n) cp, .bool (loB l m n)]) ∧ OwnI w' w.heap.size a (loM l m n) (ordF l m n) ∧ Below w.heap.size w w' := by
  obtain ⟨ki, sz, su, ho⟩ := l
  unfold LT.val
  have HR : Hid (IR w ad n m) := hr
  have HBL : Hid (Below w.heap.size w (w.alloc (.cells #[.int .i64 ki, .int .i64 sz, .int .i64 su, .int .i64 ho] 48 (0, 0)))) := (Below.refl _ _).alloc (Nat.le_refl _) _
  have HC : Hid (CB (w.alloc (.cells #[.int .i64 ki, .int .i64 sz, .int .i64 su, .int .i64 ho] 48 (0, 0))) w.heap.size #[.int .i64 ki, .int .i64 sz, .int .i64 su, .int .i64 ho] 48) := CB.new _ _
  clear hr
  cases hL : ltB ⟨ki, sz, su, ho⟩
  · have HL : Hid (ltB ⟨ki, sz, su, ho⟩ = false) := hL
    have HV : Hid (loB ⟨ki, sz, su, ho⟩ m n = false) := hid (by unfold loB; rw [hL]; rfl)
    clear hL
    rw [HV.out, lo_f HV.out]
    go_enter Try.func32, Try.ntmps32
    go_wp2_with (first | (go_at_call 73; refine (lotsRight_eq ⟨ki, sz, su, ho⟩ _ _ HL.out).mono ?_; rintro e w1 ⟨rfl, b1⟩; have HB1 : Hid (Below w.heap.size w w1) := hid (bel_on HBL.out b1); have HC1 := hid (HC.out.below b1 HC.out.lt); clear b1))
    go_returns
    exact ⟨_, _, rfl, .inl rfl, HB1.out.alloc HB1.out.size _⟩
  have HL : Hid (ltB ⟨ki, sz, su, ho⟩ = true) := hL
  cases hN : nqB m n
  · have HN : Hid (nqB m n = false) := hN
    have HV : Hid (loB ⟨ki, sz, su, ho⟩ m n = false) := hid (by unfold loB; rw [hN]; simp)
    clear hN hL
    rw [HV.out, lo_f HV.out]
    go_enter Try.func32, Try.ntmps32
    go_wp2_with (first | (go_at_call 73; refine (lotsRight_eq ⟨ki, sz, su, ho⟩ _ _ HL.out).mono ?_; rintro e w1 ⟨rfl, b1⟩; have HB1 : Hid (Below w.heap.size w w1) := hid (bel_on HBL.out b1); have HC1 := hid (HC.out.below b1 HC.out.lt); clear b1) | (go_at_call 74; refine (areNeeds_eq _ n cap m _ _ hn (HR.out.below HB1.out) HN.out).mono ?_; rintro e w2 ⟨rfl, b2⟩; have HB2 : Hid (Below w.heap.size w w2) := hid (bel_on HB1.out b2); have HC2 := hid (HC1.out.below b2 HC1.out.lt); have k0 : w2.cell? ⟨w.heap.size, 0, none⟩ = some (.int .i64 ki) := (HC2.out.cell 0).trans rfl; have k1 : w2.cell? ⟨w.heap.size, 1, none⟩ = some (.int .i64 sz) := (HC2.out.cell 1).trans rfl; have k2 : w2.cell? ⟨w.heap.size, 2, none⟩ = some (.int .i64 su) := (HC2.out.cell 2).trans rfl; have k3 : w2.cell? ⟨w.heap.size, 3, none⟩ = some (.int .i64 ho) := (HC2.out.cell 3).trans rfl; clear b2))
    go_returns
    exact ⟨_, _, rfl, .inl rfl, HB2.out.alloc HB2.out.size _⟩
  have HN : Hid (nqB m n = true) := hN
  obtain ⟨hn0, hn40, hm⟩ := nqB_p hN
  have HNM : Hid (n ≤ 40 ∧ ∀ j, j < n → 0 ≤ m j ∧ m j ≤ 1000000) := hid ⟨hn40, hm⟩
  obtain ⟨kb, off, rfl, _⟩ := HR.out.addr (by omega)
  have HOF := hid (fun W h => ordersFor_any ki sz su ho kb off n cap m W hL HNM.out.1 hcap HNM.out.2 h)
  have HLO : Hid (loB ⟨ki, sz, su, ho⟩ m n = rgB 1000000 (ordF ⟨ki, sz, su, ho⟩ m n) n) := hid (by unfold loB; rw [hL, hN]; rfl)
  clear hL hN hm hn40 hn0
  obtain ⟨G, hG⟩ : ∃ G, ordF ⟨ki, sz, su, ho⟩ m n = G := ⟨_, rfl⟩
  rw [hG] at HOF HLO ⊢
  clear hG
  cases hQ : rgB 1000000 G n
  · have HQ : Hid (rgB 1000000 G n = false) := hQ
    have HV : Hid (loB ⟨ki, sz, su, ho⟩ m n = false) := hid (by rw [HLO.out, hQ])
    clear hQ HLO
    rw [HV.out, lo_f HV.out]
    go_enter Try.func32, Try.ntmps32
    go_wp2_with (first | (go_at_call 73; refine (lotsRight_eq ⟨ki, sz, su, ho⟩ _ _ HL.out).mono ?_; rintro e w1 ⟨rfl, b1⟩; have HB1 : Hid (Below w.heap.size w w1) := hid (bel_on HBL.out b1); have HC1 := hid (HC.out.below b1 HC.out.lt); clear b1) | (go_at_call 74; refine (areNeeds_eq _ n cap m _ _ hn (HR.out.below HB1.out) HN.out).mono ?_; rintro e w2 ⟨rfl, b2⟩; have HB2 : Hid (Below w.heap.size w w2) := hid (bel_on HB1.out b2); have HC2 := hid (HC1.out.below b2 HC1.out.lt); have k0 : w2.cell? ⟨w.heap.size, 0, none⟩ = some (.int .i64 ki) := (HC2.out.cell 0).trans rfl; have k1 : w2.cell? ⟨w.heap.size, 1, none⟩ = some (.int .i64 sz) := (HC2.out.cell 1).trans rfl; have k2 : w2.cell? ⟨w.heap.size, 2, none⟩ = some (.int .i64 su) := (HC2.out.cell 2).trans rfl; have k3 : w2.cell? ⟨w.heap.size, 3, none⟩ = some (.int .i64 ho) := (HC2.out.cell 3).trans rfl; clear b2) | (go_at_call 75; refine (HOF.out _ (HR.out.below HB2.out)).mono ?_; rintro e w3 ⟨a3, c3, rfl, o3, b3⟩; have HB3 : Hid (Below w.heap.size w w3) := hid (bel_on HB2.out b3); have HO3 : Hid (OwnI w3 w.heap.size a3 n G) := hid (o3.mono HB2.out.size); clear o3 b3 k0 k1 k2 k3) | (go_at_call 62; refine (allQt_eq a3 n c3 G _ _ hn HO3.out.row HQ.out).mono ?_; rintro e w4 ⟨rfl, b4⟩; have HB4 : Hid (Below w.heap.size w w4) := hid (bel_on HB3.out b4); have HO4 := hid (HO3.out.below b4); clear b4))
    go_returns
    exact ⟨_, _, rfl, .inl rfl, HB4.out.alloc HB4.out.size _⟩
  have HQ : Hid (rgB 1000000 G n = true) := hQ
  have HV : Hid (loB ⟨ki, sz, su, ho⟩ m n = true) := hid (by rw [HLO.out, hQ])
  clear hQ HLO
  rw [HV.out, lo_t HV.out]
  go_enter Try.func32, Try.ntmps32
  go_wp2_with (first | (go_at_call 73; refine (lotsRight_eq ⟨ki, sz, su, ho⟩ _ _ HL.out).mono ?_; rintro e w1 ⟨rfl, b1⟩; have HB1 : Hid (Below w.heap.size w w1) := hid (bel_on HBL.out b1); have HC1 := hid (HC.out.below b1 HC.out.lt); clear b1) | (go_at_call 74; refine (areNeeds_eq _ n cap m _ _ hn (HR.out.below HB1.out) HN.out).mono ?_; rintro e w2 ⟨rfl, b2⟩; have HB2 : Hid (Below w.heap.size w w2) := hid (bel_on HB1.out b2); have HC2 := hid (HC1.out.below b2 HC1.out.lt); have k0 : w2.cell? ⟨w.heap.size, 0, none⟩ = some (.int .i64 ki) := (HC2.out.cell 0).trans rfl; have k1 : w2.cell? ⟨w.heap.size, 1, none⟩ = some (.int .i64 sz) := (HC2.out.cell 1).trans rfl; have k2 : w2.cell? ⟨w.heap.size, 2, none⟩ = some (.int .i64 su) := (HC2.out.cell 2).trans rfl; have k3 : w2.cell? ⟨w.heap.size, 3, none⟩ = some (.int .i64 ho) := (HC2.out.cell 3).trans rfl; clear b2) | (go_at_call 75; refine (HOF.out _ (HR.out.below HB2.out)).mono ?_; rintro e w3 ⟨a3, c3, rfl, o3, b3⟩; have HB3 : Hid (Below w.heap.size w w3) := hid (bel_on HB2.out b3); have HO3 : Hid (OwnI w3 w.heap.size a3 n G) := hid (o3.mono HB2.out.size); clear o3 b3 k0 k1 k2 k3) | (go_at_call 62; refine (allQt_eq a3 n c3 G _ _ hn HO3.out.row HQ.out).mono ?_; rintro e w4 ⟨rfl, b4⟩; have HB4 : Hid (Below w.heap.size w w4) := hid (bel_on HB3.out b4); have HO4 := hid (HO3.out.below b4); clear b4))
  go_returns
  exact ⟨_, _, rfl, HO4.out, HB4.out⟩
end Go.Proofs.Ytmbdeafpfdeigaa
