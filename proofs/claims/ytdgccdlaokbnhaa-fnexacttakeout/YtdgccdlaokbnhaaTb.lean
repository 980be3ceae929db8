/- TakeIn of the program. -/
import Derived.Test.YtdgccdlaokbnhaaTa
namespace Go.Proofs.Ytdgccdlaokbnhaa
open Go Go.ChangeShapes Go.WideShapes Go.ChangeAt Go.RowKit
set_option linter.unusedVariables false
set_option linter.unusedSimpArgs false


theorem implWorth_eq (m p : Int) (ad : Option Addr) (n cap : Nat) (off : Int) (c : Nat → LA2) (v : Bool) (w : World) (h : (n : Int) ≤ 1048576) (hr : LAr w ad n c) (hv : woB m p n c off = v) :
    Calls Try.prog 18 #[.agg #[.int .i64 m, .int .i64 p, .slice ad n cap, .int .i64 off]] w fun e w' => e = .returned (.bool v) ∧ Below w.heap.size w w' := by
  subst hv; exact implWorth_any m p ad n cap off c w h hr
/-- The worth that TakeIn would make. -/
def tiN (m : Int) (n : Nat) : Nat := if m = 1 ∨ m = 2 then n + 1 else 1
def tiC (m p : Int) (n : Nat) (c : Nat → LA2) (q k : Int) : Nat → LA2 := if m = 1 ∨ m = 2 then putL c n ⟨q, k⟩ else if m = 3 then fun _ => ⟨qS c n + q, kS c n + k⟩ else fun _ => ⟨qS c n + q, kS c n + q * p⟩
def tiO (m p off q k : Int) : Int := if m = 4 then off + (k - q * p) else off
open Classical in
noncomputable def tiB (m p : Int) (n : Nat) (c : Nat → LA2) (off q k : Int) : Bool := woB m p n c off && laB ⟨q, k⟩ && woB m p (tiN m n) (tiC m p n c q k) (tiO m p off q k)
def zI (b : Bool) (x : Int) : Int := if b = true then x else 0
def zN (b : Bool) (x : Nat) : Nat := if b = true then x else 0
/-- What TakeIn answers. -/
def TiR (m p : Int) (n : Nat) (c : Nat → LA2) (off q k : Int) (w : World) (e : Ending) (w' : World) : Prop :=
  ∃ ad cap, e = .returned (.tuple #[.agg #[.int .i64 (zI (tiB m p n c off q k) m), .int .i64 (zI (tiB m p n c off q k) p), .slice ad (zN (tiB m p n c off q k) (tiN m n)) cap, .int .i64 (zI (tiB m p n c off q k) (tiO m p off q k))], .bool (tiB m p n c off q k)]) ∧ OwnLA2 w' w.heap.size ad (zN (tiB m p n c off q k) (tiN m n)) (tiC m p n c q k) ∧ Below w.heap.size w w'
structure UB (w : World) (m p : Int) (sv : Value) (off q k : Int) (V : World) : Prop where
  bl : Below w.heap.size w V
  bx : CB V w.heap.size #[.int .i64 m, .int .i64 p, sv, .int .i64 off] 26
  rs : CB V (w.heap.size + 1) #[.int .i64 0, .int .i64 0, .slice none 0 0, .int .i64 0] 26
  ca : CB V (w.heap.size + 1 + 1) #[.int .i64 q, .int .i64 k] 40
section
variable {w V V' : World} {m p off q k : Int} {sv : Value}
theorem UB.below (h : UB w m p sv off q k V) (b : Below V.heap.size V V') : UB w m p sv off q k V' := ⟨bel_on h.bl b, h.bx.below b h.bx.lt, h.rs.below b h.rs.lt, h.ca.below b h.ca.lt⟩
theorem UB.alloc (h : UB w m p sv off q k V) (o : Obj) : UB w m p sv off q k (V.alloc o) := h.below ((Below.refl _ _).alloc (Nat.le_refl _) o)
theorem UB.drew (h : UB w m p sv off q k V) : UB w m p sv off q k V.drew := h.below (Below.refl _ _).drew
theorem UB.size (h : UB w m p sv off q k V) : w.heap.size + 3 ≤ V.heap.size := h.ca.lt
theorem UB.cells (h : UB w m p sv off q k V) : V.cell? ⟨w.heap.size, 0, none⟩ = some (.int .i64 m) ∧ V.cell? ⟨w.heap.size, 1, none⟩ = some (.int .i64 p) ∧ V.cell? ⟨w.heap.size, 2, none⟩ = some sv ∧ V.cell? ⟨w.heap.size, 3, none⟩ = some (.int .i64 off) ∧ V.cell? ⟨w.heap.size + 1 + 1, 0, none⟩ = some (.int .i64 q) ∧ V.cell? ⟨w.heap.size + 1 + 1, 1, none⟩ = some (.int .i64 k) := ⟨h.bx.cell 0, h.bx.cell 1, h.bx.cell 2, h.bx.cell 3, h.ca.cell 0, h.ca.cell 1⟩
theorem UB.set (h : UB w m p sv off q k V) {b o : Nat} (u : Value) (hb : w.heap.size + 3 ≤ b) : UB w m p sv off q k (V.setCell ⟨b, o, none⟩ u) := ⟨h.bl.setCell (by simp <;> omega) _, h.bx.other _ (by omega), h.rs.other _ (by omega), h.ca.other _ (by omega)⟩
theorem UB.start (w : World) (m p : Int) (sv : Value) (off q k : Int) : UB w m p sv off q k (((w.alloc (.cells #[.int .i64 m, .int .i64 p, sv, .int .i64 off] 26 (0, 0))).alloc (.cells #[.int .i64 0, .int .i64 0, .slice none 0 0, .int .i64 0] 26 (0, 0))).alloc (.cells #[.int .i64 q, .int .i64 k] 40 (0, 0))) :=
  ⟨(((Below.refl _ _).alloc (Nat.le_refl _) _).alloc (by simp) _).alloc (by simp; omega) _, ((CB.new _ _).alloc _).alloc _, (CB.newAt (by simp) _ _).alloc _, CB.newAt (by simp) _ _⟩
end
theorem set4 {w : World} {b : Nat} {a0 a1 a2 a3 v0 v1 v2 v3 : Value} {t : TypeId} (h : CB w b #[a0, a1, a2, a3] t) : CB ((((w.setCell ⟨b, 0, none⟩ v0).setCell ⟨b, 1, none⟩ v1).setCell ⟨b, 2, none⟩ v2).setCell ⟨b, 3, none⟩ v3) b #[v0, v1, v2, v3] t := by simpa using (((h.set 0 v0).set 1 v1).set 2 v2).set 3 v3

theorem methodOf_1 (p : Int) (ad : Option Addr) (n cap : Nat) (off : Int) (w : World) :
    Calls Try.prog 78 #[.agg #[.int .i64 1, .int .i64 p, .slice ad n cap, .int .i64 off]] w fun e w' => e = .returned (.iface 136 (.agg #[])) ∧ Below w.heap.size w w' := by
  go_enter Try.func78, Try.ntmps78
  go_wp2
  go_returns
  exact ⟨rfl, by go_grown⟩
theorem methodOf_2 (p : Int) (ad : Option Addr) (n cap : Nat) (off : Int) (w : World) :
    Calls Try.prog 78 #[.agg #[.int .i64 2, .int .i64 p, .slice ad n cap, .int .i64 off]] w fun e w' => e = .returned (.iface 137 (.agg #[])) ∧ Below w.heap.size w w' := by
  go_enter Try.func78, Try.ntmps78
  go_wp2
  go_returns
  exact ⟨rfl, by go_grown⟩
theorem methodOf_3 (p : Int) (ad : Option Addr) (n cap : Nat) (off : Int) (w : World) :
    Calls Try.prog 78 #[.agg #[.int .i64 3, .int .i64 p, .slice ad n cap, .int .i64 off]] w fun e w' => e = .returned (.iface 140 (.agg #[])) ∧ Below w.heap.size w w' := by
  go_enter Try.func78, Try.ntmps78
  go_wp2
  go_returns
  exact ⟨rfl, by go_grown⟩
theorem methodOf_4 (p : Int) (ad : Option Addr) (n cap : Nat) (off : Int) (w : World) :
    Calls Try.prog 78 #[.agg #[.int .i64 4, .int .i64 p, .slice ad n cap, .int .i64 off]] w fun e w' => e = .returned (.iface 141 (.agg #[])) ∧ Below w.heap.size w w' := by
  go_enter Try.func78, Try.ntmps78
  go_wp2
  go_returns
  exact ⟨rfl, by go_grown⟩
set_option maxRecDepth 20000 in
set_option maxHeartbeats 16000000 in
theorem takeIn_1 (p : Int) (a : Addr) (n cap : Nat) (off q k : Int) (N : Nat) (C : Nat → LA2) (O : Int) (BV : Bool) (c : Nat → LA2) (w : World) (hn : n ≤ 300) (hN : N ≤ 301) (hN0 : N ≠ 0) (hw0 : woB 1 p n c off = true) (hla : laB ⟨q, k⟩ = true) (hr : LAr w (some a) n c)
    (hme : ∀ W, LAr W (some a) n c → Calls Try.prog 145 #[.agg #[], .agg #[.int .i64 1, .int .i64 p, .slice (some a) n cap, .int .i64 off], .agg #[.int .i64 q, .int .i64 k]] W (MeR 1 p N C O W)) (hBV : woB 1 p N C O = BV) :
    Calls Try.prog 31 #[.agg #[.int .i64 1, .int .i64 p, .slice (some a) n cap, .int .i64 off], .int .i64 q, .int .i64 k] w fun e w' => ∃ ad cap, e = .returned (.tuple #[.agg #[.int .i64 (zI BV 1), .int .i64 (zI BV p), .slice ad (zN BV N) cap, .int .i64 (zI BV O)], .bool BV]) ∧ OwnLA2 w' w.heap.size ad (zN BV N) C ∧ Below w.heap.size w w' := by
  have HR : Hid (LAr w (some a) n c) := hr
  have HW0 : Hid (woB 1 p n c off = true) := hw0
  have HLA : Hid (laB ⟨q, k⟩ = true) := hla
  have HME := hid hme
  unfold MeR at HME
  have HTB : Hid (woB 1 p N C O = BV) := hBV
  have HN0 : Hid (N ≠ 0) := hN0
  have HNI : Hid ((N : Int) ≤ 1048576) := hid (by omega)
  have hnI : (n : Int) ≤ 1048576 := by omega
  have hn1 : ∀ w, (nilAhead 275 136 (.agg #[]) "loop.example/g00040/impl.takeIn").run Try.prog w = .ok (some false) w := fun w => by kernel_rfl
  have hm1 : ∀ w, (method 275 136 (.agg #[]) "loop.example/g00040/impl.takeIn").run Try.prog w = .ok (145, .agg #[]) w := fun w => by kernel_rfl
  clear hr hw0 hla hme hBV hN0 hN
  go_enter Try.func31, Try.ntmps31
  go_wp2_with (first
    | (go_at_call 18; refine (implWorth_eq _ _ _ _ _ _ c _ _ hnI (((HR.out.alloc _).alloc _).alloc _) HW0.out).mono ?_; rintro e w3 ⟨rfl, b3⟩; have U3 : Hid (UB w 1 p (.slice (some a) n cap) off q k w3) := hid ((UB.start w 1 p (.slice (some a) n cap) off q k).below b3); have R3 : Hid (LAr w3 (some a) n c) := hid ((((HR.out.alloc _).alloc _).alloc _).below b3); have k0 : w3.cell? ⟨w.heap.size + 1 + 1, 0, none⟩ = some (.int .i64 q) := U3.out.ca.cell 0; have k1 : w3.cell? ⟨w.heap.size + 1 + 1, 1, none⟩ = some (.int .i64 k) := U3.out.ca.cell 1; have x0 : w3.cell? ⟨w.heap.size + 1, 0, none⟩ = some (.int .i64 0) := U3.out.rs.cell 0; have x1 : w3.cell? ⟨w.heap.size + 1, 1, none⟩ = some (.int .i64 0) := U3.out.rs.cell 1; have x2 : w3.cell? ⟨w.heap.size + 1, 2, none⟩ = some (.slice none 0 0) := U3.out.rs.cell 2; have x3 : w3.cell? ⟨w.heap.size + 1, 3, none⟩ = some (.int .i64 0) := U3.out.rs.cell 3; have f0 := U3.out.rs.fr 0; have f1 := U3.out.rs.fr 1; have f2 := U3.out.rs.fr 2; have f3 := U3.out.rs.fr 3; clear b3)
    | (go_at_call 77; refine (laRight_eq ⟨q, k⟩ _ _ HLA.out).mono ?_; rintro e w4 ⟨rfl, b4⟩; clear x0 x1 x2 x3 f0 f1 f2 f3; have U4 := hid (U3.out.below b4); have R4 := hid (R3.out.below b4); have x0 : w4.cell? ⟨w.heap.size + 1, 0, none⟩ = some (.int .i64 0) := U4.out.rs.cell 0; have x1 : w4.cell? ⟨w.heap.size + 1, 1, none⟩ = some (.int .i64 0) := U4.out.rs.cell 1; have x2 : w4.cell? ⟨w.heap.size + 1, 2, none⟩ = some (.slice none 0 0) := U4.out.rs.cell 2; have x3 : w4.cell? ⟨w.heap.size + 1, 3, none⟩ = some (.int .i64 0) := U4.out.rs.cell 3; have f0 := U4.out.rs.fr 0; have f1 := U4.out.rs.fr 1; have f2 := U4.out.rs.fr 2; have f3 := U4.out.rs.fr 3; clear b4))
  clear x0 x1 x2 x3 f0 f1 f2 f3 k0 k1
  generalize hV : w4 = V at U4 R4 ⊢
  clear hV U3 R3
  have HV := hid U4.out.drew
  have HVR : Hid (LAr V.drew (some a) n c) := hid (R4.out.below (Below.refl _ _).drew)
  refine wp_region_noPanic ?_
  refine wp_region_held_drew (S := fun w' => (w'.cell? ⟨w.heap.size, 0, none⟩ = some (.int .i64 1)) ∧ (w'.cell? ⟨w.heap.size, 1, none⟩ = some (.int .i64 p)) ∧ (w'.cell? ⟨w.heap.size, 2, none⟩ = some (.slice (some a) n cap)) ∧ (w'.cell? ⟨w.heap.size, 3, none⟩ = some (.int .i64 off)) ∧ (w'.cell? ⟨w.heap.size + 1 + 1, 0, none⟩ = some (.int .i64 q)) ∧ (w'.cell? ⟨w.heap.size + 1 + 1, 1, none⟩ = some (.int .i64 k))) (by kernel_rfl) (by exact HV.out.cells) (fun hHeld => ?_)
  refine wpAnyH_take (i := 0) (oi := { dst := some 22, op := Go.Op.load 26 (Go.Operand.tmp 3), type := 26, pos := "l16_cost.go:151", after := #[], guard := none }) (v := ?_) rfl (by kernel_rfl) (by kernel_rfl) (by kernel_rfl) (fun _ _ _ h => h) (Or.inl ⟨by rfl, ?_⟩) (by assumption) ?_
  rotate_left
  · (intro w hSw; (try dsimp only at hSw); go_simp <;> try with_reducible rfl)
  try simp only [Act.put, List.setIfInBounds_toArray, List.set_cons_zero, List.set_cons_succ]
  refine wpAnyH_take (i := 2) (oi := { dst := some 24, op := Go.Op.load 26 (Go.Operand.tmp 3), type := 26, pos := "l16_cost.go:151", after := #[], guard := none }) (v := ?_) rfl (by kernel_rfl) (by kernel_rfl) (by kernel_rfl) (fun _ _ _ h => h) (Or.inl ⟨by rfl, ?_⟩) (by assumption) ?_
  rotate_left
  · (intro w hSw; (try dsimp only at hSw); go_simp <;> try with_reducible rfl)
  try simp only [Act.put, List.setIfInBounds_toArray, List.set_cons_zero, List.set_cons_succ]
  refine wpAnyH_take (i := 3) (oi := { dst := some 25, op := Go.Op.load 40 (Go.Operand.tmp 8), type := 40, pos := "l16_cost.go:151", after := #[], guard := none }) (v := ?_) rfl (by kernel_rfl) (by kernel_rfl) (by kernel_rfl) (fun _ _ _ h => h) (Or.inl ⟨by rfl, ?_⟩) (by assumption) ?_
  rotate_left
  · (intro w hSw; (try dsimp only at hSw); go_simp <;> try with_reducible rfl)
  try simp only [Act.put, List.setIfInBounds_toArray, List.set_cons_zero, List.set_cons_succ]
  refine wpAnyH_ready (rs := [1, 5]) (by kernel_rfl) (by simp) ?_
  refine AllReadyH.cons (o := { dst := some 23, op := Go.Op.call { callee := Go.Callee.value (Go.Operand.func 78), args := #[Go.Operand.tmp 22], argTypes := #[26] }, type := 102, pos := "l16_cost.go:151", after := #[{ on := 0, ground := Go.Ground.data }], guard := none }) rfl (fun K hK => ?_) (AllReadyH.cons (o := { dst := some 9, op := Go.Op.alloc 26, type := 0, pos := "l16_cost.go:151", after := #[], guard := none }) rfl (fun K hK => ?_) (AllReadyH.nil))
  · go_simp
    refine (methodOf_1 p (some a) n cap off _).mono ?_
    rintro e w5 ⟨rfl, b5⟩
    have U5 := hid (HV.out.below b5)
    have R5 := hid (HVR.out.below b5)
    clear b5
    first | refine hK.out _ _ (by exact U5.out.cells) (fun hHeld => ?_) | (go_wp2_with fail; refine hK.out _ _ (by exact U5.out.cells) (fun hHeld => ?_))
    clear hK K
    try simp only [Act.put, List.setIfInBounds_toArray, List.set_cons_zero, List.set_cons_succ]
    refine wpAnyH_ready (rs := [4, 5]) (by kernel_rfl) (by simp) ?_
    refine AllReadyH.cons (o := { dst := some 26, op := Go.Op.call { callee := Go.Callee.invoke (Go.Operand.tmp 23) "loop.example/g00040/impl.takeIn", args := #[Go.Operand.tmp 24, Go.Operand.tmp 25], argTypes := #[26, 40] }, type := 26, pos := "l16_cost.go:151", after := #[{ on := 1, ground := Go.Ground.data }, { on := 2, ground := Go.Ground.data }, { on := 3, ground := Go.Ground.data }, { on := 1, ground := Go.Ground.chain }], guard := none }) rfl (fun K hK => ?_) (AllReadyH.cons (o := { dst := some 9, op := Go.Op.alloc 26, type := 0, pos := "l16_cost.go:151", after := #[], guard := none }) rfl (fun K hK => ?_) (AllReadyH.nil))
    · go_simp
      refine (HME.out _ R5.out).mono ?_
      rintro e w6 ⟨ad6, cp6, rfl, o6, b6⟩
      have U6 := hid (U5.out.below b6)
      have O6 := hid (o6.mono U5.out.size)
      clear b6 o6
      first | refine hK.out _ _ (by exact U6.out.cells) (fun hHeld => ?_) | (go_wp2_with fail; refine hK.out _ _ (by exact U6.out.cells) (fun hHeld => ?_))
      clear hK K
      try simp only [Act.put, List.setIfInBounds_toArray, List.set_cons_zero, List.set_cons_succ]
      have HNP : Hid (∀ g, ad6 = some ⟨g, 0, none⟩ → w.heap.size + 3 ≤ g) := hid (fun g hg => by rcases O6.out with h0 | ⟨g0, _, e0, h1, _⟩; (exact absurd h0 HN0.out); (rw [hg] at e0; cases e0; exact h1))
      refine wpAnyH_ready (rs := [5]) (by kernel_rfl) (by simp) ?_
      refine AllReadyH.cons (o := { dst := some 9, op := Go.Op.alloc 26, type := 0, pos := "l16_cost.go:151", after := #[], guard := none }) rfl (fun K hK => ?_) (AllReadyH.nil)
      go_simp
      have U6a := hid (U6.out.alloc (.cells #[.int .i64 0, .int .i64 0, .slice none 0 0, .int .i64 0] 26 (0, 0)))
      first | refine hK.out _ _ (by exact U6a.out.cells) (fun hHeld => ?_) | (go_wp2_with fail; refine hK.out _ _ (by exact U6a.out.cells) (fun hHeld => ?_))
      clear hK K
      try simp only [Act.put, List.setIfInBounds_toArray, List.set_cons_zero, List.set_cons_succ]
      refine wpAnyH_ready (rs := [6]) (by kernel_rfl) (by simp) ?_
      refine AllReadyH.cons (o := { dst := none, op := Go.Op.store 26 (Go.Operand.tmp 9) (Go.Operand.tmp 26), type := 0, pos := "l16_cost.go:151", after := #[{ on := 5, ground := Go.Ground.data }, { on := 4, ground := Go.Ground.data }, { on := 4, ground := Go.Ground.chain }, { on := 0, ground := Go.Ground.phase }, { on := 1, ground := Go.Ground.phase }, { on := 2, ground := Go.Ground.phase }, { on := 3, ground := Go.Ground.phase }, { on := 4, ground := Go.Ground.phase }, { on := 5, ground := Go.Ground.phase }], guard := none }) rfl (fun K hK => ?_) (AllReadyH.nil)
      go_simp
      have U8 := hid (U6.out.alloc (.cells #[.int .i64 1, .int .i64 p, .slice ad6 N cp6, .int .i64 O] 26 (0, 0)))
      first | refine hK.out _ _ (by exact U8.out.cells) (fun hHeld => ?_) | (go_wp2_with fail; refine hK.out _ _ (by exact U8.out.cells) (fun hHeld => ?_))
      clear hK K
      try simp only [Act.put, List.setIfInBounds_toArray, List.set_cons_zero, List.set_cons_succ]
      refine wpAnyH_done (by kernel_rfl) ?_ _
      refine NoPanic.normal ?_
      clear hHeld
      have UF : Hid (UB w 1 p (.slice (some a) n cap) off q k (w6.alloc (.cells #[.int .i64 1, .int .i64 p, .slice ad6 N cp6, .int .i64 O] 26 (0, 0)))) := hid (U6.out.alloc _)
      have NF : Hid (CB (w6.alloc (.cells #[.int .i64 1, .int .i64 p, .slice ad6 N cp6, .int .i64 O] 26 (0, 0))) w6.heap.size #[.int .i64 1, .int .i64 p, .slice ad6 N cp6, .int .i64 O] 26) := hid (CB.new _ _)
      have OF : Hid (OwnLA2 (w6.alloc (.cells #[.int .i64 1, .int .i64 p, .slice ad6 N cp6, .int .i64 O] 26 (0, 0))) (w.heap.size + 3) ad6 N C) := hid (O6.out.below ((Below.refl _ _).alloc (Nat.le_refl _) _))
      have HNG : Hid (∀ g, ad6 = some ⟨g, 0, none⟩ → w.heap.size + 3 ≤ g) := hid (fun g hg => HNP.out g hg)
      have hnb : w.heap.size + 3 ≤ w6.heap.size := U6.out.size
      obtain ⟨nb, hnb2⟩ : ∃ nb, w6.heap.size = nb := ⟨_, rfl⟩
      rw [hnb2] at NF hnb ⊢
      generalize w6.alloc (.cells #[.int .i64 1, .int .i64 p, .slice ad6 N cp6, .int .i64 O] 26 (0, 0)) = WF at UF NF OF ⊢
      clear U8 U6a U6 O6 hnb2
      have n0 : WF.cell? ⟨nb, 0, none⟩ = some (.int .i64 1) := NF.out.cell 0
      have n1 : WF.cell? ⟨nb, 1, none⟩ = some (.int .i64 p) := NF.out.cell 1
      have n2 : WF.cell? ⟨nb, 2, none⟩ = some (.slice ad6 N cp6) := NF.out.cell 2
      have n3 : WF.cell? ⟨nb, 3, none⟩ = some (.int .i64 O) := NF.out.cell 3
      cases hw : woB 1 p N C O
      · obtain rfl : BV = false := by rw [← HTB.out, hw]
        have HWN := hid hw
        clear hw
        go_wp2_with (go_at_call 18; refine (implWorth_eq _ _ _ _ _ _ C false _ HNI.out OF.out.row HWN.out).mono ?_; rintro e w7 ⟨rfl, b7⟩; have U7 := hid (UF.out.below b7); have N7 := hid (NF.out.below b7 NF.out.lt); have O7 := hid (OF.out.below b7); have x0 : w7.cell? ⟨w.heap.size + 1, 0, none⟩ = some (.int .i64 0) := U7.out.rs.cell 0; have x1 : w7.cell? ⟨w.heap.size + 1, 1, none⟩ = some (.int .i64 0) := U7.out.rs.cell 1; have x2 : w7.cell? ⟨w.heap.size + 1, 2, none⟩ = some (.slice none 0 0) := U7.out.rs.cell 2; have x3 : w7.cell? ⟨w.heap.size + 1, 3, none⟩ = some (.int .i64 0) := U7.out.rs.cell 3; have f0 := U7.out.rs.fr 0; have f1 := U7.out.rs.fr 1; have f2 := U7.out.rs.fr 2; have f3 := U7.out.rs.fr 3; have m0 : w7.cell? ⟨nb, 0, none⟩ = some (.int .i64 1) := N7.out.cell 0; have m1 : w7.cell? ⟨nb, 1, none⟩ = some (.int .i64 p) := N7.out.cell 1; have m2 : w7.cell? ⟨nb, 2, none⟩ = some (.slice ad6 N cp6) := N7.out.cell 2; have m3 : w7.cell? ⟨nb, 3, none⟩ = some (.int .i64 O) := N7.out.cell 3; clear b7)
        have ZC : CB ((((w7.setCell ⟨w.heap.size + 1, 0, none⟩ (.int .i64 0)).setCell ⟨w.heap.size + 1, 1, none⟩ (.int .i64 0)).setCell ⟨w.heap.size + 1, 2, none⟩ (.slice none 0 0)).setCell ⟨w.heap.size + 1, 3, none⟩ (.int .i64 0)) (w.heap.size + 1) #[.int .i64 0, .int .i64 0, .slice none 0 0, .int .i64 0] 26 := set4 U7.out.rs
        have ZB : Below w.heap.size w ((((w7.setCell ⟨w.heap.size + 1, 0, none⟩ (.int .i64 0)).setCell ⟨w.heap.size + 1, 1, none⟩ (.int .i64 0)).setCell ⟨w.heap.size + 1, 2, none⟩ (.slice none 0 0)).setCell ⟨w.heap.size + 1, 3, none⟩ (.int .i64 0)) := ((((U7.out.bl.setCell (by simp <;> omega) _).setCell (by simp <;> omega) _).setCell (by simp <;> omega) _).setCell (by simp <;> omega) _)
        have ZO : OwnLA2 ((((w7.setCell ⟨w.heap.size + 1, 0, none⟩ (.int .i64 0)).setCell ⟨w.heap.size + 1, 1, none⟩ (.int .i64 0)).setCell ⟨w.heap.size + 1, 2, none⟩ (.slice none 0 0)).setCell ⟨w.heap.size + 1, 3, none⟩ (.int .i64 0)) w.heap.size none 0 C := .inl rfl
        generalize ((((w7.setCell ⟨w.heap.size + 1, 0, none⟩ (.int .i64 0)).setCell ⟨w.heap.size + 1, 1, none⟩ (.int .i64 0)).setCell ⟨w.heap.size + 1, 2, none⟩ (.slice none 0 0)).setCell ⟨w.heap.size + 1, 3, none⟩ (.int .i64 0)) = Z at ZC ZB ZO ⊢
        have z0 : Z.cell? ⟨w.heap.size + 1, 0, none⟩ = some (.int .i64 0) := ZC.cell 0
        have z1 : Z.cell? ⟨w.heap.size + 1, 1, none⟩ = some (.int .i64 0) := ZC.cell 1
        have z2 : Z.cell? ⟨w.heap.size + 1, 2, none⟩ = some (.slice none 0 0) := ZC.cell 2
        have z3 : Z.cell? ⟨w.heap.size + 1, 3, none⟩ = some (.int .i64 0) := ZC.cell 3
        refine bodyPost_ret (v := .tuple #[.agg #[.int .i64 0, .int .i64 0, .slice none 0 0, .int .i64 0], .bool false]) (by simp [results, Try.results31, go_sem, z0, z1, z2, z3]; try rfl) rfl ?_
        exact ⟨_, _, rfl, ZO, ZB⟩
      · obtain rfl : BV = true := by rw [← HTB.out, hw]
        have HWN := hid hw
        clear hw
        go_wp2_with (go_at_call 18; refine (implWorth_eq _ _ _ _ _ _ C true _ HNI.out OF.out.row HWN.out).mono ?_; rintro e w7 ⟨rfl, b7⟩; have U7 := hid (UF.out.below b7); have N7 := hid (NF.out.below b7 NF.out.lt); have O7 := hid (OF.out.below b7); have x0 : w7.cell? ⟨w.heap.size + 1, 0, none⟩ = some (.int .i64 0) := U7.out.rs.cell 0; have x1 : w7.cell? ⟨w.heap.size + 1, 1, none⟩ = some (.int .i64 0) := U7.out.rs.cell 1; have x2 : w7.cell? ⟨w.heap.size + 1, 2, none⟩ = some (.slice none 0 0) := U7.out.rs.cell 2; have x3 : w7.cell? ⟨w.heap.size + 1, 3, none⟩ = some (.int .i64 0) := U7.out.rs.cell 3; have f0 := U7.out.rs.fr 0; have f1 := U7.out.rs.fr 1; have f2 := U7.out.rs.fr 2; have f3 := U7.out.rs.fr 3; have m0 : w7.cell? ⟨nb, 0, none⟩ = some (.int .i64 1) := N7.out.cell 0; have m1 : w7.cell? ⟨nb, 1, none⟩ = some (.int .i64 p) := N7.out.cell 1; have m2 : w7.cell? ⟨nb, 2, none⟩ = some (.slice ad6 N cp6) := N7.out.cell 2; have m3 : w7.cell? ⟨nb, 3, none⟩ = some (.int .i64 O) := N7.out.cell 3; clear b7)
        have ZC : CB ((((w7.setCell ⟨w.heap.size + 1, 0, none⟩ (.int .i64 1)).setCell ⟨w.heap.size + 1, 1, none⟩ (.int .i64 p)).setCell ⟨w.heap.size + 1, 2, none⟩ (.slice ad6 N cp6)).setCell ⟨w.heap.size + 1, 3, none⟩ (.int .i64 O)) (w.heap.size + 1) #[.int .i64 1, .int .i64 p, .slice ad6 N cp6, .int .i64 O] 26 := set4 U7.out.rs
        have ZB : Below w.heap.size w ((((w7.setCell ⟨w.heap.size + 1, 0, none⟩ (.int .i64 1)).setCell ⟨w.heap.size + 1, 1, none⟩ (.int .i64 p)).setCell ⟨w.heap.size + 1, 2, none⟩ (.slice ad6 N cp6)).setCell ⟨w.heap.size + 1, 3, none⟩ (.int .i64 O)) := ((((U7.out.bl.setCell (by simp <;> omega) _).setCell (by simp <;> omega) _).setCell (by simp <;> omega) _).setCell (by simp <;> omega) _)
        have ZO : OwnLA2 ((((w7.setCell ⟨w.heap.size + 1, 0, none⟩ (.int .i64 1)).setCell ⟨w.heap.size + 1, 1, none⟩ (.int .i64 p)).setCell ⟨w.heap.size + 1, 2, none⟩ (.slice ad6 N cp6)).setCell ⟨w.heap.size + 1, 3, none⟩ (.int .i64 O)) w.heap.size ad6 N C := (O7.out.keep (fun g hg => keep4 (by have := HNG.out g hg; omega))).mono (by omega)
        generalize ((((w7.setCell ⟨w.heap.size + 1, 0, none⟩ (.int .i64 1)).setCell ⟨w.heap.size + 1, 1, none⟩ (.int .i64 p)).setCell ⟨w.heap.size + 1, 2, none⟩ (.slice ad6 N cp6)).setCell ⟨w.heap.size + 1, 3, none⟩ (.int .i64 O)) = Z at ZC ZB ZO ⊢
        have z0 : Z.cell? ⟨w.heap.size + 1, 0, none⟩ = some (.int .i64 1) := ZC.cell 0
        have z1 : Z.cell? ⟨w.heap.size + 1, 1, none⟩ = some (.int .i64 p) := ZC.cell 1
        have z2 : Z.cell? ⟨w.heap.size + 1, 2, none⟩ = some (.slice ad6 N cp6) := ZC.cell 2
        have z3 : Z.cell? ⟨w.heap.size + 1, 3, none⟩ = some (.int .i64 O) := ZC.cell 3
        refine bodyPost_ret (v := .tuple #[.agg #[.int .i64 1, .int .i64 p, .slice ad6 N cp6, .int .i64 O], .bool true]) (by simp [results, Try.results31, go_sem, z0, z1, z2, z3]; try rfl) rfl ?_
        exact ⟨_, _, rfl, ZO, ZB⟩
    · go_simp
      have UN := hid (U5.out.alloc (.cells #[.int .i64 0, .int .i64 0, .slice none 0 0, .int .i64 0] 26 (0, 0)))
      have NN : Hid (CB (w5.alloc (.cells #[.int .i64 0, .int .i64 0, .slice none 0 0, .int .i64 0] 26 (0, 0))) w5.heap.size #[.int .i64 0, .int .i64 0, .slice none 0 0, .int .i64 0] 26) := hid (CB.new _ _)
      have RN := hid (R5.out.alloc (.cells #[.int .i64 0, .int .i64 0, .slice none 0 0, .int .i64 0] 26 (0, 0)))
      first | refine hK.out _ _ (by exact UN.out.cells) (fun hHeld => ?_) | (go_wp2_with fail; refine hK.out _ _ (by exact UN.out.cells) (fun hHeld => ?_))
      clear hK K
      try simp only [Act.put, List.setIfInBounds_toArray, List.set_cons_zero, List.set_cons_succ]
      refine wpAnyH_ready (rs := [4]) (by kernel_rfl) (by simp) ?_
      refine AllReadyH.cons (o := { dst := some 26, op := Go.Op.call { callee := Go.Callee.invoke (Go.Operand.tmp 23) "loop.example/g00040/impl.takeIn", args := #[Go.Operand.tmp 24, Go.Operand.tmp 25], argTypes := #[26, 40] }, type := 26, pos := "l16_cost.go:151", after := #[{ on := 1, ground := Go.Ground.data }, { on := 2, ground := Go.Ground.data }, { on := 3, ground := Go.Ground.data }, { on := 1, ground := Go.Ground.chain }], guard := none }) rfl (fun K hK => ?_) (AllReadyH.nil)
      have HSZ : Hid ((w5.alloc (.cells #[.int .i64 0, .int .i64 0, .slice none 0 0, .int .i64 0] 26 (0, 0))).heap.size = w5.heap.size + 1) := hid (by simp)
      go_simp
      refine (HME.out _ RN.out).mono ?_
      rintro e w6 ⟨ad6, cp6, rfl, o6, b6⟩
      have U6 := hid (UN.out.below b6)
      have OQ := hid o6
      have O6 := hid (o6.mono UN.out.size)
      have N6 := hid (NN.out.below b6 NN.out.lt)
      clear b6 o6
      first | refine hK.out _ _ (by exact U6.out.cells) (fun hHeld => ?_) | (go_wp2_with fail; refine hK.out _ _ (by exact U6.out.cells) (fun hHeld => ?_))
      clear hK K
      try simp only [Act.put, List.setIfInBounds_toArray, List.set_cons_zero, List.set_cons_succ]
      have HNP : Hid (∀ g, ad6 = some ⟨g, 0, none⟩ → w.heap.size + 3 ≤ g) := hid (fun g hg => by rcases O6.out with h0 | ⟨g0, _, e0, h1, _⟩; (exact absurd h0 HN0.out); (rw [hg] at e0; cases e0; exact h1))
      have HGB : Hid (w.heap.size + 3 ≤ w5.heap.size) := hid U5.out.size
      have HNQ : Hid (∀ g, ad6 = some ⟨g, 0, none⟩ → w5.heap.size < g) := hid (fun g hg => by rcases OQ.out with h0 | ⟨g0, _, e0, h1, _⟩; (exact absurd h0 HN0.out); (rw [hg] at e0; cases e0; rw [HSZ.out] at h1; omega))
      have x0 : w6.cell? ⟨w5.heap.size, 0, none⟩ = some (.int .i64 0) := N6.out.cell 0
      have x1 : w6.cell? ⟨w5.heap.size, 1, none⟩ = some (.int .i64 0) := N6.out.cell 1
      have x2 : w6.cell? ⟨w5.heap.size, 2, none⟩ = some (.slice none 0 0) := N6.out.cell 2
      have x3 : w6.cell? ⟨w5.heap.size, 3, none⟩ = some (.int .i64 0) := N6.out.cell 3
      have f0 : w6.frozen? ⟨w5.heap.size, 0, none⟩ = false := N6.out.fr 0
      have f1 : w6.frozen? ⟨w5.heap.size, 1, none⟩ = false := N6.out.fr 1
      have f2 : w6.frozen? ⟨w5.heap.size, 2, none⟩ = false := N6.out.fr 2
      have f3 : w6.frozen? ⟨w5.heap.size, 3, none⟩ = false := N6.out.fr 3
      refine wpAnyH_ready (rs := [6]) (by kernel_rfl) (by simp) ?_
      refine AllReadyH.cons (o := { dst := none, op := Go.Op.store 26 (Go.Operand.tmp 9) (Go.Operand.tmp 26), type := 0, pos := "l16_cost.go:151", after := #[{ on := 5, ground := Go.Ground.data }, { on := 4, ground := Go.Ground.data }, { on := 4, ground := Go.Ground.chain }, { on := 0, ground := Go.Ground.phase }, { on := 1, ground := Go.Ground.phase }, { on := 2, ground := Go.Ground.phase }, { on := 3, ground := Go.Ground.phase }, { on := 4, ground := Go.Ground.phase }, { on := 5, ground := Go.Ground.phase }], guard := none }) rfl (fun K hK => ?_) (AllReadyH.nil)
      go_simp
      have U8 := hid ((((U6.out.set (b := w5.heap.size) (o := 0) (.int .i64 1) HGB.out).set (b := w5.heap.size) (o := 1) (.int .i64 p) HGB.out).set (b := w5.heap.size) (o := 2) (.slice ad6 N cp6) HGB.out).set (b := w5.heap.size) (o := 3) (.int .i64 O) HGB.out)
      first | refine hK.out _ _ (by exact U8.out.cells) (fun hHeld => ?_) | (go_wp2_with fail; refine hK.out _ _ (by exact U8.out.cells) (fun hHeld => ?_))
      clear hK K
      try simp only [Act.put, List.setIfInBounds_toArray, List.set_cons_zero, List.set_cons_succ]
      refine wpAnyH_done (by kernel_rfl) ?_ _
      refine NoPanic.normal ?_
      clear hHeld
      clear x0 x1 x2 x3 f0 f1 f2 f3
      have UF : Hid (UB w 1 p (.slice (some a) n cap) off q k (((((w6.setCell ⟨w5.heap.size, 0, none⟩ (.int .i64 1)).setCell ⟨w5.heap.size, 1, none⟩ (.int .i64 p)).setCell ⟨w5.heap.size, 2, none⟩ (.slice ad6 N cp6)).setCell ⟨w5.heap.size, 3, none⟩ (.int .i64 O)))) := U8
      have NF : Hid (CB (((((w6.setCell ⟨w5.heap.size, 0, none⟩ (.int .i64 1)).setCell ⟨w5.heap.size, 1, none⟩ (.int .i64 p)).setCell ⟨w5.heap.size, 2, none⟩ (.slice ad6 N cp6)).setCell ⟨w5.heap.size, 3, none⟩ (.int .i64 O))) w5.heap.size #[.int .i64 1, .int .i64 p, .slice ad6 N cp6, .int .i64 O] 26) := hid (set4 N6.out)
      have OF : Hid (OwnLA2 (((((w6.setCell ⟨w5.heap.size, 0, none⟩ (.int .i64 1)).setCell ⟨w5.heap.size, 1, none⟩ (.int .i64 p)).setCell ⟨w5.heap.size, 2, none⟩ (.slice ad6 N cp6)).setCell ⟨w5.heap.size, 3, none⟩ (.int .i64 O))) (w.heap.size + 3) ad6 N C) := hid (O6.out.keep (fun g hg => keep4 (by have := HNQ.out g hg; omega)))
      have HNG : Hid (∀ g, ad6 = some ⟨g, 0, none⟩ → w.heap.size + 3 ≤ g) := hid (fun g hg => HNP.out g hg)
      have hnb := HGB.out
      obtain ⟨nb, hnb2⟩ : ∃ nb, w5.heap.size = nb := ⟨_, rfl⟩
      rw [hnb2] at UF NF OF hnb ⊢
      generalize ((((w6.setCell ⟨nb, 0, none⟩ (.int .i64 1)).setCell ⟨nb, 1, none⟩ (.int .i64 p)).setCell ⟨nb, 2, none⟩ (.slice ad6 N cp6)).setCell ⟨nb, 3, none⟩ (.int .i64 O)) = WF at UF NF OF ⊢
      clear U8 U6 O6 hnb2
      have n0 : WF.cell? ⟨nb, 0, none⟩ = some (.int .i64 1) := NF.out.cell 0
      have n1 : WF.cell? ⟨nb, 1, none⟩ = some (.int .i64 p) := NF.out.cell 1
      have n2 : WF.cell? ⟨nb, 2, none⟩ = some (.slice ad6 N cp6) := NF.out.cell 2
      have n3 : WF.cell? ⟨nb, 3, none⟩ = some (.int .i64 O) := NF.out.cell 3
      cases hw : woB 1 p N C O
      · obtain rfl : BV = false := by rw [← HTB.out, hw]
        have HWN := hid hw
        clear hw
        go_wp2_with (go_at_call 18; refine (implWorth_eq _ _ _ _ _ _ C false _ HNI.out OF.out.row HWN.out).mono ?_; rintro e w7 ⟨rfl, b7⟩; have U7 := hid (UF.out.below b7); have N7 := hid (NF.out.below b7 NF.out.lt); have O7 := hid (OF.out.below b7); have x0 : w7.cell? ⟨w.heap.size + 1, 0, none⟩ = some (.int .i64 0) := U7.out.rs.cell 0; have x1 : w7.cell? ⟨w.heap.size + 1, 1, none⟩ = some (.int .i64 0) := U7.out.rs.cell 1; have x2 : w7.cell? ⟨w.heap.size + 1, 2, none⟩ = some (.slice none 0 0) := U7.out.rs.cell 2; have x3 : w7.cell? ⟨w.heap.size + 1, 3, none⟩ = some (.int .i64 0) := U7.out.rs.cell 3; have f0 := U7.out.rs.fr 0; have f1 := U7.out.rs.fr 1; have f2 := U7.out.rs.fr 2; have f3 := U7.out.rs.fr 3; have m0 : w7.cell? ⟨nb, 0, none⟩ = some (.int .i64 1) := N7.out.cell 0; have m1 : w7.cell? ⟨nb, 1, none⟩ = some (.int .i64 p) := N7.out.cell 1; have m2 : w7.cell? ⟨nb, 2, none⟩ = some (.slice ad6 N cp6) := N7.out.cell 2; have m3 : w7.cell? ⟨nb, 3, none⟩ = some (.int .i64 O) := N7.out.cell 3; clear b7)
        have ZC : CB ((((w7.setCell ⟨w.heap.size + 1, 0, none⟩ (.int .i64 0)).setCell ⟨w.heap.size + 1, 1, none⟩ (.int .i64 0)).setCell ⟨w.heap.size + 1, 2, none⟩ (.slice none 0 0)).setCell ⟨w.heap.size + 1, 3, none⟩ (.int .i64 0)) (w.heap.size + 1) #[.int .i64 0, .int .i64 0, .slice none 0 0, .int .i64 0] 26 := set4 U7.out.rs
        have ZB : Below w.heap.size w ((((w7.setCell ⟨w.heap.size + 1, 0, none⟩ (.int .i64 0)).setCell ⟨w.heap.size + 1, 1, none⟩ (.int .i64 0)).setCell ⟨w.heap.size + 1, 2, none⟩ (.slice none 0 0)).setCell ⟨w.heap.size + 1, 3, none⟩ (.int .i64 0)) := ((((U7.out.bl.setCell (by simp <;> omega) _).setCell (by simp <;> omega) _).setCell (by simp <;> omega) _).setCell (by simp <;> omega) _)
        have ZO : OwnLA2 ((((w7.setCell ⟨w.heap.size + 1, 0, none⟩ (.int .i64 0)).setCell ⟨w.heap.size + 1, 1, none⟩ (.int .i64 0)).setCell ⟨w.heap.size + 1, 2, none⟩ (.slice none 0 0)).setCell ⟨w.heap.size + 1, 3, none⟩ (.int .i64 0)) w.heap.size none 0 C := .inl rfl
        generalize ((((w7.setCell ⟨w.heap.size + 1, 0, none⟩ (.int .i64 0)).setCell ⟨w.heap.size + 1, 1, none⟩ (.int .i64 0)).setCell ⟨w.heap.size + 1, 2, none⟩ (.slice none 0 0)).setCell ⟨w.heap.size + 1, 3, none⟩ (.int .i64 0)) = Z at ZC ZB ZO ⊢
        have z0 : Z.cell? ⟨w.heap.size + 1, 0, none⟩ = some (.int .i64 0) := ZC.cell 0
        have z1 : Z.cell? ⟨w.heap.size + 1, 1, none⟩ = some (.int .i64 0) := ZC.cell 1
        have z2 : Z.cell? ⟨w.heap.size + 1, 2, none⟩ = some (.slice none 0 0) := ZC.cell 2
        have z3 : Z.cell? ⟨w.heap.size + 1, 3, none⟩ = some (.int .i64 0) := ZC.cell 3
        refine bodyPost_ret (v := .tuple #[.agg #[.int .i64 0, .int .i64 0, .slice none 0 0, .int .i64 0], .bool false]) (by simp [results, Try.results31, go_sem, z0, z1, z2, z3]; try rfl) rfl ?_
        exact ⟨_, _, rfl, ZO, ZB⟩
      · obtain rfl : BV = true := by rw [← HTB.out, hw]
        have HWN := hid hw
        clear hw
        go_wp2_with (go_at_call 18; refine (implWorth_eq _ _ _ _ _ _ C true _ HNI.out OF.out.row HWN.out).mono ?_; rintro e w7 ⟨rfl, b7⟩; have U7 := hid (UF.out.below b7); have N7 := hid (NF.out.below b7 NF.out.lt); have O7 := hid (OF.out.below b7); have x0 : w7.cell? ⟨w.heap.size + 1, 0, none⟩ = some (.int .i64 0) := U7.out.rs.cell 0; have x1 : w7.cell? ⟨w.heap.size + 1, 1, none⟩ = some (.int .i64 0) := U7.out.rs.cell 1; have x2 : w7.cell? ⟨w.heap.size + 1, 2, none⟩ = some (.slice none 0 0) := U7.out.rs.cell 2; have x3 : w7.cell? ⟨w.heap.size + 1, 3, none⟩ = some (.int .i64 0) := U7.out.rs.cell 3; have f0 := U7.out.rs.fr 0; have f1 := U7.out.rs.fr 1; have f2 := U7.out.rs.fr 2; have f3 := U7.out.rs.fr 3; have m0 : w7.cell? ⟨nb, 0, none⟩ = some (.int .i64 1) := N7.out.cell 0; have m1 : w7.cell? ⟨nb, 1, none⟩ = some (.int .i64 p) := N7.out.cell 1; have m2 : w7.cell? ⟨nb, 2, none⟩ = some (.slice ad6 N cp6) := N7.out.cell 2; have m3 : w7.cell? ⟨nb, 3, none⟩ = some (.int .i64 O) := N7.out.cell 3; clear b7)
        have ZC : CB ((((w7.setCell ⟨w.heap.size + 1, 0, none⟩ (.int .i64 1)).setCell ⟨w.heap.size + 1, 1, none⟩ (.int .i64 p)).setCell ⟨w.heap.size + 1, 2, none⟩ (.slice ad6 N cp6)).setCell ⟨w.heap.size + 1, 3, none⟩ (.int .i64 O)) (w.heap.size + 1) #[.int .i64 1, .int .i64 p, .slice ad6 N cp6, .int .i64 O] 26 := set4 U7.out.rs
        have ZB : Below w.heap.size w ((((w7.setCell ⟨w.heap.size + 1, 0, none⟩ (.int .i64 1)).setCell ⟨w.heap.size + 1, 1, none⟩ (.int .i64 p)).setCell ⟨w.heap.size + 1, 2, none⟩ (.slice ad6 N cp6)).setCell ⟨w.heap.size + 1, 3, none⟩ (.int .i64 O)) := ((((U7.out.bl.setCell (by simp <;> omega) _).setCell (by simp <;> omega) _).setCell (by simp <;> omega) _).setCell (by simp <;> omega) _)
        have ZO : OwnLA2 ((((w7.setCell ⟨w.heap.size + 1, 0, none⟩ (.int .i64 1)).setCell ⟨w.heap.size + 1, 1, none⟩ (.int .i64 p)).setCell ⟨w.heap.size + 1, 2, none⟩ (.slice ad6 N cp6)).setCell ⟨w.heap.size + 1, 3, none⟩ (.int .i64 O)) w.heap.size ad6 N C := (O7.out.keep (fun g hg => keep4 (by have := HNG.out g hg; omega))).mono (by omega)
        generalize ((((w7.setCell ⟨w.heap.size + 1, 0, none⟩ (.int .i64 1)).setCell ⟨w.heap.size + 1, 1, none⟩ (.int .i64 p)).setCell ⟨w.heap.size + 1, 2, none⟩ (.slice ad6 N cp6)).setCell ⟨w.heap.size + 1, 3, none⟩ (.int .i64 O)) = Z at ZC ZB ZO ⊢
        have z0 : Z.cell? ⟨w.heap.size + 1, 0, none⟩ = some (.int .i64 1) := ZC.cell 0
        have z1 : Z.cell? ⟨w.heap.size + 1, 1, none⟩ = some (.int .i64 p) := ZC.cell 1
        have z2 : Z.cell? ⟨w.heap.size + 1, 2, none⟩ = some (.slice ad6 N cp6) := ZC.cell 2
        have z3 : Z.cell? ⟨w.heap.size + 1, 3, none⟩ = some (.int .i64 O) := ZC.cell 3
        refine bodyPost_ret (v := .tuple #[.agg #[.int .i64 1, .int .i64 p, .slice ad6 N cp6, .int .i64 O], .bool true]) (by simp [results, Try.results31, go_sem, z0, z1, z2, z3]; try rfl) rfl ?_
        exact ⟨_, _, rfl, ZO, ZB⟩
  · go_simp
    have UN := hid (HV.out.alloc (.cells #[.int .i64 0, .int .i64 0, .slice none 0 0, .int .i64 0] 26 (0, 0)))
    have NN : Hid (CB (V.drew.alloc (.cells #[.int .i64 0, .int .i64 0, .slice none 0 0, .int .i64 0] 26 (0, 0))) V.drew.heap.size #[.int .i64 0, .int .i64 0, .slice none 0 0, .int .i64 0] 26) := hid (CB.new _ _)
    first | refine hK.out _ _ (by exact UN.out.cells) (fun hHeld => ?_) | (go_wp2_with fail; refine hK.out _ _ (by exact UN.out.cells) (fun hHeld => ?_))
    clear hK K
    try simp only [Act.put, List.setIfInBounds_toArray, List.set_cons_zero, List.set_cons_succ]
    refine wpAnyH_ready (rs := [1]) (by kernel_rfl) (by simp) ?_
    refine AllReadyH.cons (o := { dst := some 23, op := Go.Op.call { callee := Go.Callee.value (Go.Operand.func 78), args := #[Go.Operand.tmp 22], argTypes := #[26] }, type := 102, pos := "l16_cost.go:151", after := #[{ on := 0, ground := Go.Ground.data }], guard := none }) rfl (fun K hK => ?_) (AllReadyH.nil)
    go_simp
    refine (methodOf_1 p (some a) n cap off _).mono ?_
    rintro e w5 ⟨rfl, b5⟩
    have U5 := hid (UN.out.below b5)
    have R5 := hid ((HVR.out.alloc (.cells #[.int .i64 0, .int .i64 0, .slice none 0 0, .int .i64 0] 26 (0, 0))).below b5)
    have N5 := hid (NN.out.below b5 NN.out.lt)
    clear b5
    first | refine hK.out _ _ (by exact U5.out.cells) (fun hHeld => ?_) | (go_wp2_with fail; refine hK.out _ _ (by exact U5.out.cells) (fun hHeld => ?_))
    clear hK K
    try simp only [Act.put, List.setIfInBounds_toArray, List.set_cons_zero, List.set_cons_succ]
    refine wpAnyH_ready (rs := [4]) (by kernel_rfl) (by simp) ?_
    refine AllReadyH.cons (o := { dst := some 26, op := Go.Op.call { callee := Go.Callee.invoke (Go.Operand.tmp 23) "loop.example/g00040/impl.takeIn", args := #[Go.Operand.tmp 24, Go.Operand.tmp 25], argTypes := #[26, 40] }, type := 26, pos := "l16_cost.go:151", after := #[{ on := 1, ground := Go.Ground.data }, { on := 2, ground := Go.Ground.data }, { on := 3, ground := Go.Ground.data }, { on := 1, ground := Go.Ground.chain }], guard := none }) rfl (fun K hK => ?_) (AllReadyH.nil)
    have HSZ : Hid (V.drew.heap.size + 1 ≤ w5.heap.size) := hid N5.out.lt
    go_simp
    refine (HME.out _ R5.out).mono ?_
    rintro e w6 ⟨ad6, cp6, rfl, o6, b6⟩
    have U6 := hid (U5.out.below b6)
    have OQ := hid o6
    have O6 := hid (o6.mono U5.out.size)
    have N6 := hid (N5.out.below b6 N5.out.lt)
    clear b6 o6
    first | refine hK.out _ _ (by exact U6.out.cells) (fun hHeld => ?_) | (go_wp2_with fail; refine hK.out _ _ (by exact U6.out.cells) (fun hHeld => ?_))
    clear hK K
    try simp only [Act.put, List.setIfInBounds_toArray, List.set_cons_zero, List.set_cons_succ]
    have HNP : Hid (∀ g, ad6 = some ⟨g, 0, none⟩ → w.heap.size + 3 ≤ g) := hid (fun g hg => by rcases O6.out with h0 | ⟨g0, _, e0, h1, _⟩; (exact absurd h0 HN0.out); (rw [hg] at e0; cases e0; exact h1))
    have HGB : Hid (w.heap.size + 3 ≤ V.heap.size) := hid HV.out.size
    have HNQ : Hid (∀ g, ad6 = some ⟨g, 0, none⟩ → V.heap.size < g) := hid (fun g hg => by rcases OQ.out with h0 | ⟨g0, _, e0, h1, _⟩; (exact absurd h0 HN0.out); (rw [hg] at e0; cases e0; have h2 : V.heap.size + 1 ≤ w5.heap.size := HSZ.out; omega))
    have x0 : w6.cell? ⟨V.heap.size, 0, none⟩ = some (.int .i64 0) := N6.out.cell 0
    have x1 : w6.cell? ⟨V.heap.size, 1, none⟩ = some (.int .i64 0) := N6.out.cell 1
    have x2 : w6.cell? ⟨V.heap.size, 2, none⟩ = some (.slice none 0 0) := N6.out.cell 2
    have x3 : w6.cell? ⟨V.heap.size, 3, none⟩ = some (.int .i64 0) := N6.out.cell 3
    have f0 : w6.frozen? ⟨V.heap.size, 0, none⟩ = false := N6.out.fr 0
    have f1 : w6.frozen? ⟨V.heap.size, 1, none⟩ = false := N6.out.fr 1
    have f2 : w6.frozen? ⟨V.heap.size, 2, none⟩ = false := N6.out.fr 2
    have f3 : w6.frozen? ⟨V.heap.size, 3, none⟩ = false := N6.out.fr 3
    refine wpAnyH_ready (rs := [6]) (by kernel_rfl) (by simp) ?_
    refine AllReadyH.cons (o := { dst := none, op := Go.Op.store 26 (Go.Operand.tmp 9) (Go.Operand.tmp 26), type := 0, pos := "l16_cost.go:151", after := #[{ on := 5, ground := Go.Ground.data }, { on := 4, ground := Go.Ground.data }, { on := 4, ground := Go.Ground.chain }, { on := 0, ground := Go.Ground.phase }, { on := 1, ground := Go.Ground.phase }, { on := 2, ground := Go.Ground.phase }, { on := 3, ground := Go.Ground.phase }, { on := 4, ground := Go.Ground.phase }, { on := 5, ground := Go.Ground.phase }], guard := none }) rfl (fun K hK => ?_) (AllReadyH.nil)
    go_simp
    have U8 := hid ((((U6.out.set (b := V.heap.size) (o := 0) (.int .i64 1) HGB.out).set (b := V.heap.size) (o := 1) (.int .i64 p) HGB.out).set (b := V.heap.size) (o := 2) (.slice ad6 N cp6) HGB.out).set (b := V.heap.size) (o := 3) (.int .i64 O) HGB.out)
    first | refine hK.out _ _ (by exact U8.out.cells) (fun hHeld => ?_) | (go_wp2_with fail; refine hK.out _ _ (by exact U8.out.cells) (fun hHeld => ?_))
    clear hK K
    try simp only [Act.put, List.setIfInBounds_toArray, List.set_cons_zero, List.set_cons_succ]
    refine wpAnyH_done (by kernel_rfl) ?_ _
    refine NoPanic.normal ?_
    clear hHeld
    clear x0 x1 x2 x3 f0 f1 f2 f3
    have UF : Hid (UB w 1 p (.slice (some a) n cap) off q k (((((w6.setCell ⟨V.heap.size, 0, none⟩ (.int .i64 1)).setCell ⟨V.heap.size, 1, none⟩ (.int .i64 p)).setCell ⟨V.heap.size, 2, none⟩ (.slice ad6 N cp6)).setCell ⟨V.heap.size, 3, none⟩ (.int .i64 O)))) := U8
    have NF : Hid (CB (((((w6.setCell ⟨V.heap.size, 0, none⟩ (.int .i64 1)).setCell ⟨V.heap.size, 1, none⟩ (.int .i64 p)).setCell ⟨V.heap.size, 2, none⟩ (.slice ad6 N cp6)).setCell ⟨V.heap.size, 3, none⟩ (.int .i64 O))) V.heap.size #[.int .i64 1, .int .i64 p, .slice ad6 N cp6, .int .i64 O] 26) := hid (set4 N6.out)
    have OF : Hid (OwnLA2 (((((w6.setCell ⟨V.heap.size, 0, none⟩ (.int .i64 1)).setCell ⟨V.heap.size, 1, none⟩ (.int .i64 p)).setCell ⟨V.heap.size, 2, none⟩ (.slice ad6 N cp6)).setCell ⟨V.heap.size, 3, none⟩ (.int .i64 O))) (w.heap.size + 3) ad6 N C) := hid (O6.out.keep (fun g hg => keep4 (by have := HNQ.out g hg; omega)))
    have HNG : Hid (∀ g, ad6 = some ⟨g, 0, none⟩ → w.heap.size + 3 ≤ g) := hid (fun g hg => HNP.out g hg)
    have hnb := HGB.out
    obtain ⟨nb, hnb2⟩ : ∃ nb, V.heap.size = nb := ⟨_, rfl⟩
    rw [hnb2] at UF NF OF hnb ⊢
    generalize ((((w6.setCell ⟨nb, 0, none⟩ (.int .i64 1)).setCell ⟨nb, 1, none⟩ (.int .i64 p)).setCell ⟨nb, 2, none⟩ (.slice ad6 N cp6)).setCell ⟨nb, 3, none⟩ (.int .i64 O)) = WF at UF NF OF ⊢
    clear U8 U6 O6 hnb2
    have n0 : WF.cell? ⟨nb, 0, none⟩ = some (.int .i64 1) := NF.out.cell 0
    have n1 : WF.cell? ⟨nb, 1, none⟩ = some (.int .i64 p) := NF.out.cell 1
    have n2 : WF.cell? ⟨nb, 2, none⟩ = some (.slice ad6 N cp6) := NF.out.cell 2
    have n3 : WF.cell? ⟨nb, 3, none⟩ = some (.int .i64 O) := NF.out.cell 3
    cases hw : woB 1 p N C O
    · obtain rfl : BV = false := by rw [← HTB.out, hw]
      have HWN := hid hw
      clear hw
      go_wp2_with (go_at_call 18; refine (implWorth_eq _ _ _ _ _ _ C false _ HNI.out OF.out.row HWN.out).mono ?_; rintro e w7 ⟨rfl, b7⟩; have U7 := hid (UF.out.below b7); have N7 := hid (NF.out.below b7 NF.out.lt); have O7 := hid (OF.out.below b7); have x0 : w7.cell? ⟨w.heap.size + 1, 0, none⟩ = some (.int .i64 0) := U7.out.rs.cell 0; have x1 : w7.cell? ⟨w.heap.size + 1, 1, none⟩ = some (.int .i64 0) := U7.out.rs.cell 1; have x2 : w7.cell? ⟨w.heap.size + 1, 2, none⟩ = some (.slice none 0 0) := U7.out.rs.cell 2; have x3 : w7.cell? ⟨w.heap.size + 1, 3, none⟩ = some (.int .i64 0) := U7.out.rs.cell 3; have f0 := U7.out.rs.fr 0; have f1 := U7.out.rs.fr 1; have f2 := U7.out.rs.fr 2; have f3 := U7.out.rs.fr 3; have m0 : w7.cell? ⟨nb, 0, none⟩ = some (.int .i64 1) := N7.out.cell 0; have m1 : w7.cell? ⟨nb, 1, none⟩ = some (.int .i64 p) := N7.out.cell 1; have m2 : w7.cell? ⟨nb, 2, none⟩ = some (.slice ad6 N cp6) := N7.out.cell 2; have m3 : w7.cell? ⟨nb, 3, none⟩ = some (.int .i64 O) := N7.out.cell 3; clear b7)
      have ZC : CB ((((w7.setCell ⟨w.heap.size + 1, 0, none⟩ (.int .i64 0)).setCell ⟨w.heap.size + 1, 1, none⟩ (.int .i64 0)).setCell ⟨w.heap.size + 1, 2, none⟩ (.slice none 0 0)).setCell ⟨w.heap.size + 1, 3, none⟩ (.int .i64 0)) (w.heap.size + 1) #[.int .i64 0, .int .i64 0, .slice none 0 0, .int .i64 0] 26 := set4 U7.out.rs
      have ZB : Below w.heap.size w ((((w7.setCell ⟨w.heap.size + 1, 0, none⟩ (.int .i64 0)).setCell ⟨w.heap.size + 1, 1, none⟩ (.int .i64 0)).setCell ⟨w.heap.size + 1, 2, none⟩ (.slice none 0 0)).setCell ⟨w.heap.size + 1, 3, none⟩ (.int .i64 0)) := ((((U7.out.bl.setCell (by simp <;> omega) _).setCell (by simp <;> omega) _).setCell (by simp <;> omega) _).setCell (by simp <;> omega) _)
      have ZO : OwnLA2 ((((w7.setCell ⟨w.heap.size + 1, 0, none⟩ (.int .i64 0)).setCell ⟨w.heap.size + 1, 1, none⟩ (.int .i64 0)).setCell ⟨w.heap.size + 1, 2, none⟩ (.slice none 0 0)).setCell ⟨w.heap.size + 1, 3, none⟩ (.int .i64 0)) w.heap.size none 0 C := .inl rfl
      generalize ((((w7.setCell ⟨w.heap.size + 1, 0, none⟩ (.int .i64 0)).setCell ⟨w.heap.size + 1, 1, none⟩ (.int .i64 0)).setCell ⟨w.heap.size + 1, 2, none⟩ (.slice none 0 0)).setCell ⟨w.heap.size + 1, 3, none⟩ (.int .i64 0)) = Z at ZC ZB ZO ⊢
      have z0 : Z.cell? ⟨w.heap.size + 1, 0, none⟩ = some (.int .i64 0) := ZC.cell 0
      have z1 : Z.cell? ⟨w.heap.size + 1, 1, none⟩ = some (.int .i64 0) := ZC.cell 1
      have z2 : Z.cell? ⟨w.heap.size + 1, 2, none⟩ = some (.slice none 0 0) := ZC.cell 2
      have z3 : Z.cell? ⟨w.heap.size + 1, 3, none⟩ = some (.int .i64 0) := ZC.cell 3
      refine bodyPost_ret (v := .tuple #[.agg #[.int .i64 0, .int .i64 0, .slice none 0 0, .int .i64 0], .bool false]) (by simp [results, Try.results31, go_sem, z0, z1, z2, z3]; try rfl) rfl ?_
      exact ⟨_, _, rfl, ZO, ZB⟩
    · obtain rfl : BV = true := by rw [← HTB.out, hw]
      have HWN := hid hw
      clear hw
      go_wp2_with (go_at_call 18; refine (implWorth_eq _ _ _ _ _ _ C true _ HNI.out OF.out.row HWN.out).mono ?_; rintro e w7 ⟨rfl, b7⟩; have U7 := hid (UF.out.below b7); have N7 := hid (NF.out.below b7 NF.out.lt); have O7 := hid (OF.out.below b7); have x0 : w7.cell? ⟨w.heap.size + 1, 0, none⟩ = some (.int .i64 0) := U7.out.rs.cell 0; have x1 : w7.cell? ⟨w.heap.size + 1, 1, none⟩ = some (.int .i64 0) := U7.out.rs.cell 1; have x2 : w7.cell? ⟨w.heap.size + 1, 2, none⟩ = some (.slice none 0 0) := U7.out.rs.cell 2; have x3 : w7.cell? ⟨w.heap.size + 1, 3, none⟩ = some (.int .i64 0) := U7.out.rs.cell 3; have f0 := U7.out.rs.fr 0; have f1 := U7.out.rs.fr 1; have f2 := U7.out.rs.fr 2; have f3 := U7.out.rs.fr 3; have m0 : w7.cell? ⟨nb, 0, none⟩ = some (.int .i64 1) := N7.out.cell 0; have m1 : w7.cell? ⟨nb, 1, none⟩ = some (.int .i64 p) := N7.out.cell 1; have m2 : w7.cell? ⟨nb, 2, none⟩ = some (.slice ad6 N cp6) := N7.out.cell 2; have m3 : w7.cell? ⟨nb, 3, none⟩ = some (.int .i64 O) := N7.out.cell 3; clear b7)
      have ZC : CB ((((w7.setCell ⟨w.heap.size + 1, 0, none⟩ (.int .i64 1)).setCell ⟨w.heap.size + 1, 1, none⟩ (.int .i64 p)).setCell ⟨w.heap.size + 1, 2, none⟩ (.slice ad6 N cp6)).setCell ⟨w.heap.size + 1, 3, none⟩ (.int .i64 O)) (w.heap.size + 1) #[.int .i64 1, .int .i64 p, .slice ad6 N cp6, .int .i64 O] 26 := set4 U7.out.rs
      have ZB : Below w.heap.size w ((((w7.setCell ⟨w.heap.size + 1, 0, none⟩ (.int .i64 1)).setCell ⟨w.heap.size + 1, 1, none⟩ (.int .i64 p)).setCell ⟨w.heap.size + 1, 2, none⟩ (.slice ad6 N cp6)).setCell ⟨w.heap.size + 1, 3, none⟩ (.int .i64 O)) := ((((U7.out.bl.setCell (by simp <;> omega) _).setCell (by simp <;> omega) _).setCell (by simp <;> omega) _).setCell (by simp <;> omega) _)
      have ZO : OwnLA2 ((((w7.setCell ⟨w.heap.size + 1, 0, none⟩ (.int .i64 1)).setCell ⟨w.heap.size + 1, 1, none⟩ (.int .i64 p)).setCell ⟨w.heap.size + 1, 2, none⟩ (.slice ad6 N cp6)).setCell ⟨w.heap.size + 1, 3, none⟩ (.int .i64 O)) w.heap.size ad6 N C := (O7.out.keep (fun g hg => keep4 (by have := HNG.out g hg; omega))).mono (by omega)
      generalize ((((w7.setCell ⟨w.heap.size + 1, 0, none⟩ (.int .i64 1)).setCell ⟨w.heap.size + 1, 1, none⟩ (.int .i64 p)).setCell ⟨w.heap.size + 1, 2, none⟩ (.slice ad6 N cp6)).setCell ⟨w.heap.size + 1, 3, none⟩ (.int .i64 O)) = Z at ZC ZB ZO ⊢
      have z0 : Z.cell? ⟨w.heap.size + 1, 0, none⟩ = some (.int .i64 1) := ZC.cell 0
      have z1 : Z.cell? ⟨w.heap.size + 1, 1, none⟩ = some (.int .i64 p) := ZC.cell 1
      have z2 : Z.cell? ⟨w.heap.size + 1, 2, none⟩ = some (.slice ad6 N cp6) := ZC.cell 2
      have z3 : Z.cell? ⟨w.heap.size + 1, 3, none⟩ = some (.int .i64 O) := ZC.cell 3
      refine bodyPost_ret (v := .tuple #[.agg #[.int .i64 1, .int .i64 p, .slice ad6 N cp6, .int .i64 O], .bool true]) (by simp [results, Try.results31, go_sem, z0, z1, z2, z3]; try rfl) rfl ?_
      exact ⟨_, _, rfl, ZO, ZB⟩

set_option maxRecDepth 20000 in
set_option maxHeartbeats 16000000 in
theorem takeIn_2 (p : Int) (a : Addr) (n cap : Nat) (off q k : Int) (N : Nat) (C : Nat → LA2) (O : Int) (BV : Bool) (c : Nat → LA2) (w : World) (hn : n ≤ 300) (hN : N ≤ 301) (hN0 : N ≠ 0) (hw0 : woB 2 p n c off = true) (hla : laB ⟨q, k⟩ = true) (hr : LAr w (some a) n c)
    (hme : ∀ W, LAr W (some a) n c → Calls Try.prog 145 #[.agg #[], .agg #[.int .i64 2, .int .i64 p, .slice (some a) n cap, .int .i64 off], .agg #[.int .i64 q, .int .i64 k]] W (MeR 2 p N C O W)) (hBV : woB 2 p N C O = BV) :
    Calls Try.prog 31 #[.agg #[.int .i64 2, .int .i64 p, .slice (some a) n cap, .int .i64 off], .int .i64 q, .int .i64 k] w fun e w' => ∃ ad cap, e = .returned (.tuple #[.agg #[.int .i64 (zI BV 2), .int .i64 (zI BV p), .slice ad (zN BV N) cap, .int .i64 (zI BV O)], .bool BV]) ∧ OwnLA2 w' w.heap.size ad (zN BV N) C ∧ Below w.heap.size w w' := by
  have HR : Hid (LAr w (some a) n c) := hr
  have HW0 : Hid (woB 2 p n c off = true) := hw0
  have HLA : Hid (laB ⟨q, k⟩ = true) := hla
  have HME := hid hme
  unfold MeR at HME
  have HTB : Hid (woB 2 p N C O = BV) := hBV
  have HN0 : Hid (N ≠ 0) := hN0
  have HNI : Hid ((N : Int) ≤ 1048576) := hid (by omega)
  have hnI : (n : Int) ≤ 1048576 := by omega
  have hn1 : ∀ w, (nilAhead 275 137 (.agg #[]) "loop.example/g00040/impl.takeIn").run Try.prog w = .ok (some false) w := fun w => by kernel_rfl
  have hm1 : ∀ w, (method 275 137 (.agg #[]) "loop.example/g00040/impl.takeIn").run Try.prog w = .ok (145, .agg #[]) w := fun w => by kernel_rfl
  clear hr hw0 hla hme hBV hN0 hN
  go_enter Try.func31, Try.ntmps31
  go_wp2_with (first
    | (go_at_call 18; refine (implWorth_eq _ _ _ _ _ _ c _ _ hnI (((HR.out.alloc _).alloc _).alloc _) HW0.out).mono ?_; rintro e w3 ⟨rfl, b3⟩; have U3 : Hid (UB w 2 p (.slice (some a) n cap) off q k w3) := hid ((UB.start w 2 p (.slice (some a) n cap) off q k).below b3); have R3 : Hid (LAr w3 (some a) n c) := hid ((((HR.out.alloc _).alloc _).alloc _).below b3); have k0 : w3.cell? ⟨w.heap.size + 1 + 1, 0, none⟩ = some (.int .i64 q) := U3.out.ca.cell 0; have k1 : w3.cell? ⟨w.heap.size + 1 + 1, 1, none⟩ = some (.int .i64 k) := U3.out.ca.cell 1; have x0 : w3.cell? ⟨w.heap.size + 1, 0, none⟩ = some (.int .i64 0) := U3.out.rs.cell 0; have x1 : w3.cell? ⟨w.heap.size + 1, 1, none⟩ = some (.int .i64 0) := U3.out.rs.cell 1; have x2 : w3.cell? ⟨w.heap.size + 1, 2, none⟩ = some (.slice none 0 0) := U3.out.rs.cell 2; have x3 : w3.cell? ⟨w.heap.size + 1, 3, none⟩ = some (.int .i64 0) := U3.out.rs.cell 3; have f0 := U3.out.rs.fr 0; have f1 := U3.out.rs.fr 1; have f2 := U3.out.rs.fr 2; have f3 := U3.out.rs.fr 3; clear b3)
    | (go_at_call 77; refine (laRight_eq ⟨q, k⟩ _ _ HLA.out).mono ?_; rintro e w4 ⟨rfl, b4⟩; clear x0 x1 x2 x3 f0 f1 f2 f3; have U4 := hid (U3.out.below b4); have R4 := hid (R3.out.below b4); have x0 : w4.cell? ⟨w.heap.size + 1, 0, none⟩ = some (.int .i64 0) := U4.out.rs.cell 0; have x1 : w4.cell? ⟨w.heap.size + 1, 1, none⟩ = some (.int .i64 0) := U4.out.rs.cell 1; have x2 : w4.cell? ⟨w.heap.size + 1, 2, none⟩ = some (.slice none 0 0) := U4.out.rs.cell 2; have x3 : w4.cell? ⟨w.heap.size + 1, 3, none⟩ = some (.int .i64 0) := U4.out.rs.cell 3; have f0 := U4.out.rs.fr 0; have f1 := U4.out.rs.fr 1; have f2 := U4.out.rs.fr 2; have f3 := U4.out.rs.fr 3; clear b4))
  clear x0 x1 x2 x3 f0 f1 f2 f3 k0 k1
  generalize hV : w4 = V at U4 R4 ⊢
  clear hV U3 R3
  have HV := hid U4.out.drew
  have HVR : Hid (LAr V.drew (some a) n c) := hid (R4.out.below (Below.refl _ _).drew)
  refine wp_region_noPanic ?_
  refine wp_region_held_drew (S := fun w' => (w'.cell? ⟨w.heap.size, 0, none⟩ = some (.int .i64 2)) ∧ (w'.cell? ⟨w.heap.size, 1, none⟩ = some (.int .i64 p)) ∧ (w'.cell? ⟨w.heap.size, 2, none⟩ = some (.slice (some a) n cap)) ∧ (w'.cell? ⟨w.heap.size, 3, none⟩ = some (.int .i64 off)) ∧ (w'.cell? ⟨w.heap.size + 1 + 1, 0, none⟩ = some (.int .i64 q)) ∧ (w'.cell? ⟨w.heap.size + 1 + 1, 1, none⟩ = some (.int .i64 k))) (by kernel_rfl) (by exact HV.out.cells) (fun hHeld => ?_)
  refine wpAnyH_take (i := 0) (oi := { dst := some 22, op := Go.Op.load 26 (Go.Operand.tmp 3), type := 26, pos := "l16_cost.go:151", after := #[], guard := none }) (v := ?_) rfl (by kernel_rfl) (by kernel_rfl) (by kernel_rfl) (fun _ _ _ h => h) (Or.inl ⟨by rfl, ?_⟩) (by assumption) ?_
  rotate_left
  · (intro w hSw; (try dsimp only at hSw); go_simp <;> try with_reducible rfl)
  try simp only [Act.put, List.setIfInBounds_toArray, List.set_cons_zero, List.set_cons_succ]
  refine wpAnyH_take (i := 2) (oi := { dst := some 24, op := Go.Op.load 26 (Go.Operand.tmp 3), type := 26, pos := "l16_cost.go:151", after := #[], guard := none }) (v := ?_) rfl (by kernel_rfl) (by kernel_rfl) (by kernel_rfl) (fun _ _ _ h => h) (Or.inl ⟨by rfl, ?_⟩) (by assumption) ?_
  rotate_left
  · (intro w hSw; (try dsimp only at hSw); go_simp <;> try with_reducible rfl)
  try simp only [Act.put, List.setIfInBounds_toArray, List.set_cons_zero, List.set_cons_succ]
  refine wpAnyH_take (i := 3) (oi := { dst := some 25, op := Go.Op.load 40 (Go.Operand.tmp 8), type := 40, pos := "l16_cost.go:151", after := #[], guard := none }) (v := ?_) rfl (by kernel_rfl) (by kernel_rfl) (by kernel_rfl) (fun _ _ _ h => h) (Or.inl ⟨by rfl, ?_⟩) (by assumption) ?_
  rotate_left
  · (intro w hSw; (try dsimp only at hSw); go_simp <;> try with_reducible rfl)
  try simp only [Act.put, List.setIfInBounds_toArray, List.set_cons_zero, List.set_cons_succ]
  refine wpAnyH_ready (rs := [1, 5]) (by kernel_rfl) (by simp) ?_
  refine AllReadyH.cons (o := { dst := some 23, op := Go.Op.call { callee := Go.Callee.value (Go.Operand.func 78), args := #[Go.Operand.tmp 22], argTypes := #[26] }, type := 102, pos := "l16_cost.go:151", after := #[{ on := 0, ground := Go.Ground.data }], guard := none }) rfl (fun K hK => ?_) (AllReadyH.cons (o := { dst := some 9, op := Go.Op.alloc 26, type := 0, pos := "l16_cost.go:151", after := #[], guard := none }) rfl (fun K hK => ?_) (AllReadyH.nil))
  · go_simp
    refine (methodOf_2 p (some a) n cap off _).mono ?_
    rintro e w5 ⟨rfl, b5⟩
    have U5 := hid (HV.out.below b5)
    have R5 := hid (HVR.out.below b5)
    clear b5
    first | refine hK.out _ _ (by exact U5.out.cells) (fun hHeld => ?_) | (go_wp2_with fail; refine hK.out _ _ (by exact U5.out.cells) (fun hHeld => ?_))
    clear hK K
    try simp only [Act.put, List.setIfInBounds_toArray, List.set_cons_zero, List.set_cons_succ]
    refine wpAnyH_ready (rs := [4, 5]) (by kernel_rfl) (by simp) ?_
    refine AllReadyH.cons (o := { dst := some 26, op := Go.Op.call { callee := Go.Callee.invoke (Go.Operand.tmp 23) "loop.example/g00040/impl.takeIn", args := #[Go.Operand.tmp 24, Go.Operand.tmp 25], argTypes := #[26, 40] }, type := 26, pos := "l16_cost.go:151", after := #[{ on := 1, ground := Go.Ground.data }, { on := 2, ground := Go.Ground.data }, { on := 3, ground := Go.Ground.data }, { on := 1, ground := Go.Ground.chain }], guard := none }) rfl (fun K hK => ?_) (AllReadyH.cons (o := { dst := some 9, op := Go.Op.alloc 26, type := 0, pos := "l16_cost.go:151", after := #[], guard := none }) rfl (fun K hK => ?_) (AllReadyH.nil))
    · go_simp
      refine (HME.out _ R5.out).mono ?_
      rintro e w6 ⟨ad6, cp6, rfl, o6, b6⟩
      have U6 := hid (U5.out.below b6)
      have O6 := hid (o6.mono U5.out.size)
      clear b6 o6
      first | refine hK.out _ _ (by exact U6.out.cells) (fun hHeld => ?_) | (go_wp2_with fail; refine hK.out _ _ (by exact U6.out.cells) (fun hHeld => ?_))
      clear hK K
      try simp only [Act.put, List.setIfInBounds_toArray, List.set_cons_zero, List.set_cons_succ]
      have HNP : Hid (∀ g, ad6 = some ⟨g, 0, none⟩ → w.heap.size + 3 ≤ g) := hid (fun g hg => by rcases O6.out with h0 | ⟨g0, _, e0, h1, _⟩; (exact absurd h0 HN0.out); (rw [hg] at e0; cases e0; exact h1))
      refine wpAnyH_ready (rs := [5]) (by kernel_rfl) (by simp) ?_
      refine AllReadyH.cons (o := { dst := some 9, op := Go.Op.alloc 26, type := 0, pos := "l16_cost.go:151", after := #[], guard := none }) rfl (fun K hK => ?_) (AllReadyH.nil)
      go_simp
      have U6a := hid (U6.out.alloc (.cells #[.int .i64 0, .int .i64 0, .slice none 0 0, .int .i64 0] 26 (0, 0)))
      first | refine hK.out _ _ (by exact U6a.out.cells) (fun hHeld => ?_) | (go_wp2_with fail; refine hK.out _ _ (by exact U6a.out.cells) (fun hHeld => ?_))
      clear hK K
      try simp only [Act.put, List.setIfInBounds_toArray, List.set_cons_zero, List.set_cons_succ]
      refine wpAnyH_ready (rs := [6]) (by kernel_rfl) (by simp) ?_
      refine AllReadyH.cons (o := { dst := none, op := Go.Op.store 26 (Go.Operand.tmp 9) (Go.Operand.tmp 26), type := 0, pos := "l16_cost.go:151", after := #[{ on := 5, ground := Go.Ground.data }, { on := 4, ground := Go.Ground.data }, { on := 4, ground := Go.Ground.chain }, { on := 0, ground := Go.Ground.phase }, { on := 1, ground := Go.Ground.phase }, { on := 2, ground := Go.Ground.phase }, { on := 3, ground := Go.Ground.phase }, { on := 4, ground := Go.Ground.phase }, { on := 5, ground := Go.Ground.phase }], guard := none }) rfl (fun K hK => ?_) (AllReadyH.nil)
      go_simp
      have U8 := hid (U6.out.alloc (.cells #[.int .i64 2, .int .i64 p, .slice ad6 N cp6, .int .i64 O] 26 (0, 0)))
      first | refine hK.out _ _ (by exact U8.out.cells) (fun hHeld => ?_) | (go_wp2_with fail; refine hK.out _ _ (by exact U8.out.cells) (fun hHeld => ?_))
      clear hK K
      try simp only [Act.put, List.setIfInBounds_toArray, List.set_cons_zero, List.set_cons_succ]
      refine wpAnyH_done (by kernel_rfl) ?_ _
      refine NoPanic.normal ?_
      clear hHeld
      have UF : Hid (UB w 2 p (.slice (some a) n cap) off q k (w6.alloc (.cells #[.int .i64 2, .int .i64 p, .slice ad6 N cp6, .int .i64 O] 26 (0, 0)))) := hid (U6.out.alloc _)
      have NF : Hid (CB (w6.alloc (.cells #[.int .i64 2, .int .i64 p, .slice ad6 N cp6, .int .i64 O] 26 (0, 0))) w6.heap.size #[.int .i64 2, .int .i64 p, .slice ad6 N cp6, .int .i64 O] 26) := hid (CB.new _ _)
      have OF : Hid (OwnLA2 (w6.alloc (.cells #[.int .i64 2, .int .i64 p, .slice ad6 N cp6, .int .i64 O] 26 (0, 0))) (w.heap.size + 3) ad6 N C) := hid (O6.out.below ((Below.refl _ _).alloc (Nat.le_refl _) _))
      have HNG : Hid (∀ g, ad6 = some ⟨g, 0, none⟩ → w.heap.size + 3 ≤ g) := hid (fun g hg => HNP.out g hg)
      have hnb : w.heap.size + 3 ≤ w6.heap.size := U6.out.size
      obtain ⟨nb, hnb2⟩ : ∃ nb, w6.heap.size = nb := ⟨_, rfl⟩
      rw [hnb2] at NF hnb ⊢
      generalize w6.alloc (.cells #[.int .i64 2, .int .i64 p, .slice ad6 N cp6, .int .i64 O] 26 (0, 0)) = WF at UF NF OF ⊢
      clear U8 U6a U6 O6 hnb2
      have n0 : WF.cell? ⟨nb, 0, none⟩ = some (.int .i64 2) := NF.out.cell 0
      have n1 : WF.cell? ⟨nb, 1, none⟩ = some (.int .i64 p) := NF.out.cell 1
      have n2 : WF.cell? ⟨nb, 2, none⟩ = some (.slice ad6 N cp6) := NF.out.cell 2
      have n3 : WF.cell? ⟨nb, 3, none⟩ = some (.int .i64 O) := NF.out.cell 3
      cases hw : woB 2 p N C O
      · obtain rfl : BV = false := by rw [← HTB.out, hw]
        have HWN := hid hw
        clear hw
        go_wp2_with (go_at_call 18; refine (implWorth_eq _ _ _ _ _ _ C false _ HNI.out OF.out.row HWN.out).mono ?_; rintro e w7 ⟨rfl, b7⟩; have U7 := hid (UF.out.below b7); have N7 := hid (NF.out.below b7 NF.out.lt); have O7 := hid (OF.out.below b7); have x0 : w7.cell? ⟨w.heap.size + 1, 0, none⟩ = some (.int .i64 0) := U7.out.rs.cell 0; have x1 : w7.cell? ⟨w.heap.size + 1, 1, none⟩ = some (.int .i64 0) := U7.out.rs.cell 1; have x2 : w7.cell? ⟨w.heap.size + 1, 2, none⟩ = some (.slice none 0 0) := U7.out.rs.cell 2; have x3 : w7.cell? ⟨w.heap.size + 1, 3, none⟩ = some (.int .i64 0) := U7.out.rs.cell 3; have f0 := U7.out.rs.fr 0; have f1 := U7.out.rs.fr 1; have f2 := U7.out.rs.fr 2; have f3 := U7.out.rs.fr 3; have m0 : w7.cell? ⟨nb, 0, none⟩ = some (.int .i64 2) := N7.out.cell 0; have m1 : w7.cell? ⟨nb, 1, none⟩ = some (.int .i64 p) := N7.out.cell 1; have m2 : w7.cell? ⟨nb, 2, none⟩ = some (.slice ad6 N cp6) := N7.out.cell 2; have m3 : w7.cell? ⟨nb, 3, none⟩ = some (.int .i64 O) := N7.out.cell 3; clear b7)
        have ZC : CB ((((w7.setCell ⟨w.heap.size + 1, 0, none⟩ (.int .i64 0)).setCell ⟨w.heap.size + 1, 1, none⟩ (.int .i64 0)).setCell ⟨w.heap.size + 1, 2, none⟩ (.slice none 0 0)).setCell ⟨w.heap.size + 1, 3, none⟩ (.int .i64 0)) (w.heap.size + 1) #[.int .i64 0, .int .i64 0, .slice none 0 0, .int .i64 0] 26 := set4 U7.out.rs
        have ZB : Below w.heap.size w ((((w7.setCell ⟨w.heap.size + 1, 0, none⟩ (.int .i64 0)).setCell ⟨w.heap.size + 1, 1, none⟩ (.int .i64 0)).setCell ⟨w.heap.size + 1, 2, none⟩ (.slice none 0 0)).setCell ⟨w.heap.size + 1, 3, none⟩ (.int .i64 0)) := ((((U7.out.bl.setCell (by simp <;> omega) _).setCell (by simp <;> omega) _).setCell (by simp <;> omega) _).setCell (by simp <;> omega) _)
        have ZO : OwnLA2 ((((w7.setCell ⟨w.heap.size + 1, 0, none⟩ (.int .i64 0)).setCell ⟨w.heap.size + 1, 1, none⟩ (.int .i64 0)).setCell ⟨w.heap.size + 1, 2, none⟩ (.slice none 0 0)).setCell ⟨w.heap.size + 1, 3, none⟩ (.int .i64 0)) w.heap.size none 0 C := .inl rfl
        generalize ((((w7.setCell ⟨w.heap.size + 1, 0, none⟩ (.int .i64 0)).setCell ⟨w.heap.size + 1, 1, none⟩ (.int .i64 0)).setCell ⟨w.heap.size + 1, 2, none⟩ (.slice none 0 0)).setCell ⟨w.heap.size + 1, 3, none⟩ (.int .i64 0)) = Z at ZC ZB ZO ⊢
        have z0 : Z.cell? ⟨w.heap.size + 1, 0, none⟩ = some (.int .i64 0) := ZC.cell 0
        have z1 : Z.cell? ⟨w.heap.size + 1, 1, none⟩ = some (.int .i64 0) := ZC.cell 1
        have z2 : Z.cell? ⟨w.heap.size + 1, 2, none⟩ = some (.slice none 0 0) := ZC.cell 2
        have z3 : Z.cell? ⟨w.heap.size + 1, 3, none⟩ = some (.int .i64 0) := ZC.cell 3
        refine bodyPost_ret (v := .tuple #[.agg #[.int .i64 0, .int .i64 0, .slice none 0 0, .int .i64 0], .bool false]) (by simp [results, Try.results31, go_sem, z0, z1, z2, z3]; try rfl) rfl ?_
        exact ⟨_, _, rfl, ZO, ZB⟩
      · obtain rfl : BV = true := by rw [← HTB.out, hw]
        have HWN := hid hw
        clear hw
        go_wp2_with (go_at_call 18; refine (implWorth_eq _ _ _ _ _ _ C true _ HNI.out OF.out.row HWN.out).mono ?_; rintro e w7 ⟨rfl, b7⟩; have U7 := hid (UF.out.below b7); have N7 := hid (NF.out.below b7 NF.out.lt); have O7 := hid (OF.out.below b7); have x0 : w7.cell? ⟨w.heap.size + 1, 0, none⟩ = some (.int .i64 0) := U7.out.rs.cell 0; have x1 : w7.cell? ⟨w.heap.size + 1, 1, none⟩ = some (.int .i64 0) := U7.out.rs.cell 1; have x2 : w7.cell? ⟨w.heap.size + 1, 2, none⟩ = some (.slice none 0 0) := U7.out.rs.cell 2; have x3 : w7.cell? ⟨w.heap.size + 1, 3, none⟩ = some (.int .i64 0) := U7.out.rs.cell 3; have f0 := U7.out.rs.fr 0; have f1 := U7.out.rs.fr 1; have f2 := U7.out.rs.fr 2; have f3 := U7.out.rs.fr 3; have m0 : w7.cell? ⟨nb, 0, none⟩ = some (.int .i64 2) := N7.out.cell 0; have m1 : w7.cell? ⟨nb, 1, none⟩ = some (.int .i64 p) := N7.out.cell 1; have m2 : w7.cell? ⟨nb, 2, none⟩ = some (.slice ad6 N cp6) := N7.out.cell 2; have m3 : w7.cell? ⟨nb, 3, none⟩ = some (.int .i64 O) := N7.out.cell 3; clear b7)
        have ZC : CB ((((w7.setCell ⟨w.heap.size + 1, 0, none⟩ (.int .i64 2)).setCell ⟨w.heap.size + 1, 1, none⟩ (.int .i64 p)).setCell ⟨w.heap.size + 1, 2, none⟩ (.slice ad6 N cp6)).setCell ⟨w.heap.size + 1, 3, none⟩ (.int .i64 O)) (w.heap.size + 1) #[.int .i64 2, .int .i64 p, .slice ad6 N cp6, .int .i64 O] 26 := set4 U7.out.rs
        have ZB : Below w.heap.size w ((((w7.setCell ⟨w.heap.size + 1, 0, none⟩ (.int .i64 2)).setCell ⟨w.heap.size + 1, 1, none⟩ (.int .i64 p)).setCell ⟨w.heap.size + 1, 2, none⟩ (.slice ad6 N cp6)).setCell ⟨w.heap.size + 1, 3, none⟩ (.int .i64 O)) := ((((U7.out.bl.setCell (by simp <;> omega) _).setCell (by simp <;> omega) _).setCell (by simp <;> omega) _).setCell (by simp <;> omega) _)
        have ZO : OwnLA2 ((((w7.setCell ⟨w.heap.size + 1, 0, none⟩ (.int .i64 2)).setCell ⟨w.heap.size + 1, 1, none⟩ (.int .i64 p)).setCell ⟨w.heap.size + 1, 2, none⟩ (.slice ad6 N cp6)).setCell ⟨w.heap.size + 1, 3, none⟩ (.int .i64 O)) w.heap.size ad6 N C := (O7.out.keep (fun g hg => keep4 (by have := HNG.out g hg; omega))).mono (by omega)
        generalize ((((w7.setCell ⟨w.heap.size + 1, 0, none⟩ (.int .i64 2)).setCell ⟨w.heap.size + 1, 1, none⟩ (.int .i64 p)).setCell ⟨w.heap.size + 1, 2, none⟩ (.slice ad6 N cp6)).setCell ⟨w.heap.size + 1, 3, none⟩ (.int .i64 O)) = Z at ZC ZB ZO ⊢
        have z0 : Z.cell? ⟨w.heap.size + 1, 0, none⟩ = some (.int .i64 2) := ZC.cell 0
        have z1 : Z.cell? ⟨w.heap.size + 1, 1, none⟩ = some (.int .i64 p) := ZC.cell 1
        have z2 : Z.cell? ⟨w.heap.size + 1, 2, none⟩ = some (.slice ad6 N cp6) := ZC.cell 2
        have z3 : Z.cell? ⟨w.heap.size + 1, 3, none⟩ = some (.int .i64 O) := ZC.cell 3
        refine bodyPost_ret (v := .tuple #[.agg #[.int .i64 2, .int .i64 p, .slice ad6 N cp6, .int .i64 O], .bool true]) (by simp [results, Try.results31, go_sem, z0, z1, z2, z3]; try rfl) rfl ?_
        exact ⟨_, _, rfl, ZO, ZB⟩
    · go_simp
      have UN := hid (U5.out.alloc (.cells #[.int .i64 0, .int .i64 0, .slice none 0 0, .int .i64 0] 26 (0, 0)))
      have NN : Hid (CB (w5.alloc (.cells #[.int .i64 0, .int .i64 0, .slice none 0 0, .int .i64 0] 26 (0, 0))) w5.heap.size #[.int .i64 0, .int .i64 0, .slice none 0 0, .int .i64 0] 26) := hid (CB.new _ _)
      have RN := hid (R5.out.alloc (.cells #[.int .i64 0, .int .i64 0, .slice none 0 0, .int .i64 0] 26 (0, 0)))
      first | refine hK.out _ _ (by exact UN.out.cells) (fun hHeld => ?_) | (go_wp2_with fail; refine hK.out _ _ (by exact UN.out.cells) (fun hHeld => ?_))
      clear hK K
      try simp only [Act.put, List.setIfInBounds_toArray, List.set_cons_zero, List.set_cons_succ]
      refine wpAnyH_ready (rs := [4]) (by kernel_rfl) (by simp) ?_
      refine AllReadyH.cons (o := { dst := some 26, op := Go.Op.call { callee := Go.Callee.invoke (Go.Operand.tmp 23) "loop.example/g00040/impl.takeIn", args := #[Go.Operand.tmp 24, Go.Operand.tmp 25], argTypes := #[26, 40] }, type := 26, pos := "l16_cost.go:151", after := #[{ on := 1, ground := Go.Ground.data }, { on := 2, ground := Go.Ground.data }, { on := 3, ground := Go.Ground.data }, { on := 1, ground := Go.Ground.chain }], guard := none }) rfl (fun K hK => ?_) (AllReadyH.nil)
      have HSZ : Hid ((w5.alloc (.cells #[.int .i64 0, .int .i64 0, .slice none 0 0, .int .i64 0] 26 (0, 0))).heap.size = w5.heap.size + 1) := hid (by simp)
      go_simp
      refine (HME.out _ RN.out).mono ?_
      rintro e w6 ⟨ad6, cp6, rfl, o6, b6⟩
      have U6 := hid (UN.out.below b6)
      have OQ := hid o6
      have O6 := hid (o6.mono UN.out.size)
      have N6 := hid (NN.out.below b6 NN.out.lt)
      clear b6 o6
      first | refine hK.out _ _ (by exact U6.out.cells) (fun hHeld => ?_) | (go_wp2_with fail; refine hK.out _ _ (by exact U6.out.cells) (fun hHeld => ?_))
      clear hK K
      try simp only [Act.put, List.setIfInBounds_toArray, List.set_cons_zero, List.set_cons_succ]
      have HNP : Hid (∀ g, ad6 = some ⟨g, 0, none⟩ → w.heap.size + 3 ≤ g) := hid (fun g hg => by rcases O6.out with h0 | ⟨g0, _, e0, h1, _⟩; (exact absurd h0 HN0.out); (rw [hg] at e0; cases e0; exact h1))
      have HGB : Hid (w.heap.size + 3 ≤ w5.heap.size) := hid U5.out.size
      have HNQ : Hid (∀ g, ad6 = some ⟨g, 0, none⟩ → w5.heap.size < g) := hid (fun g hg => by rcases OQ.out with h0 | ⟨g0, _, e0, h1, _⟩; (exact absurd h0 HN0.out); (rw [hg] at e0; cases e0; rw [HSZ.out] at h1; omega))
      have x0 : w6.cell? ⟨w5.heap.size, 0, none⟩ = some (.int .i64 0) := N6.out.cell 0
      have x1 : w6.cell? ⟨w5.heap.size, 1, none⟩ = some (.int .i64 0) := N6.out.cell 1
      have x2 : w6.cell? ⟨w5.heap.size, 2, none⟩ = some (.slice none 0 0) := N6.out.cell 2
      have x3 : w6.cell? ⟨w5.heap.size, 3, none⟩ = some (.int .i64 0) := N6.out.cell 3
      have f0 : w6.frozen? ⟨w5.heap.size, 0, none⟩ = false := N6.out.fr 0
      have f1 : w6.frozen? ⟨w5.heap.size, 1, none⟩ = false := N6.out.fr 1
      have f2 : w6.frozen? ⟨w5.heap.size, 2, none⟩ = false := N6.out.fr 2
      have f3 : w6.frozen? ⟨w5.heap.size, 3, none⟩ = false := N6.out.fr 3
      refine wpAnyH_ready (rs := [6]) (by kernel_rfl) (by simp) ?_
      refine AllReadyH.cons (o := { dst := none, op := Go.Op.store 26 (Go.Operand.tmp 9) (Go.Operand.tmp 26), type := 0, pos := "l16_cost.go:151", after := #[{ on := 5, ground := Go.Ground.data }, { on := 4, ground := Go.Ground.data }, { on := 4, ground := Go.Ground.chain }, { on := 0, ground := Go.Ground.phase }, { on := 1, ground := Go.Ground.phase }, { on := 2, ground := Go.Ground.phase }, { on := 3, ground := Go.Ground.phase }, { on := 4, ground := Go.Ground.phase }, { on := 5, ground := Go.Ground.phase }], guard := none }) rfl (fun K hK => ?_) (AllReadyH.nil)
      go_simp
      have U8 := hid ((((U6.out.set (b := w5.heap.size) (o := 0) (.int .i64 2) HGB.out).set (b := w5.heap.size) (o := 1) (.int .i64 p) HGB.out).set (b := w5.heap.size) (o := 2) (.slice ad6 N cp6) HGB.out).set (b := w5.heap.size) (o := 3) (.int .i64 O) HGB.out)
      first | refine hK.out _ _ (by exact U8.out.cells) (fun hHeld => ?_) | (go_wp2_with fail; refine hK.out _ _ (by exact U8.out.cells) (fun hHeld => ?_))
      clear hK K
      try simp only [Act.put, List.setIfInBounds_toArray, List.set_cons_zero, List.set_cons_succ]
      refine wpAnyH_done (by kernel_rfl) ?_ _
      refine NoPanic.normal ?_
      clear hHeld
      clear x0 x1 x2 x3 f0 f1 f2 f3
      have UF : Hid (UB w 2 p (.slice (some a) n cap) off q k (((((w6.setCell ⟨w5.heap.size, 0, none⟩ (.int .i64 2)).setCell ⟨w5.heap.size, 1, none⟩ (.int .i64 p)).setCell ⟨w5.heap.size, 2, none⟩ (.slice ad6 N cp6)).setCell ⟨w5.heap.size, 3, none⟩ (.int .i64 O)))) := U8
      have NF : Hid (CB (((((w6.setCell ⟨w5.heap.size, 0, none⟩ (.int .i64 2)).setCell ⟨w5.heap.size, 1, none⟩ (.int .i64 p)).setCell ⟨w5.heap.size, 2, none⟩ (.slice ad6 N cp6)).setCell ⟨w5.heap.size, 3, none⟩ (.int .i64 O))) w5.heap.size #[.int .i64 2, .int .i64 p, .slice ad6 N cp6, .int .i64 O] 26) := hid (set4 N6.out)
      have OF : Hid (OwnLA2 (((((w6.setCell ⟨w5.heap.size, 0, none⟩ (.int .i64 2)).setCell ⟨w5.heap.size, 1, none⟩ (.int .i64 p)).setCell ⟨w5.heap.size, 2, none⟩ (.slice ad6 N cp6)).setCell ⟨w5.heap.size, 3, none⟩ (.int .i64 O))) (w.heap.size + 3) ad6 N C) := hid (O6.out.keep (fun g hg => keep4 (by have := HNQ.out g hg; omega)))
      have HNG : Hid (∀ g, ad6 = some ⟨g, 0, none⟩ → w.heap.size + 3 ≤ g) := hid (fun g hg => HNP.out g hg)
      have hnb := HGB.out
      obtain ⟨nb, hnb2⟩ : ∃ nb, w5.heap.size = nb := ⟨_, rfl⟩
      rw [hnb2] at UF NF OF hnb ⊢
      generalize ((((w6.setCell ⟨nb, 0, none⟩ (.int .i64 2)).setCell ⟨nb, 1, none⟩ (.int .i64 p)).setCell ⟨nb, 2, none⟩ (.slice ad6 N cp6)).setCell ⟨nb, 3, none⟩ (.int .i64 O)) = WF at UF NF OF ⊢
      clear U8 U6 O6 hnb2
      have n0 : WF.cell? ⟨nb, 0, none⟩ = some (.int .i64 2) := NF.out.cell 0
      have n1 : WF.cell? ⟨nb, 1, none⟩ = some (.int .i64 p) := NF.out.cell 1
      have n2 : WF.cell? ⟨nb, 2, none⟩ = some (.slice ad6 N cp6) := NF.out.cell 2
      have n3 : WF.cell? ⟨nb, 3, none⟩ = some (.int .i64 O) := NF.out.cell 3
      cases hw : woB 2 p N C O
      · obtain rfl : BV = false := by rw [← HTB.out, hw]
        have HWN := hid hw
        clear hw
        go_wp2_with (go_at_call 18; refine (implWorth_eq _ _ _ _ _ _ C false _ HNI.out OF.out.row HWN.out).mono ?_; rintro e w7 ⟨rfl, b7⟩; have U7 := hid (UF.out.below b7); have N7 := hid (NF.out.below b7 NF.out.lt); have O7 := hid (OF.out.below b7); have x0 : w7.cell? ⟨w.heap.size + 1, 0, none⟩ = some (.int .i64 0) := U7.out.rs.cell 0; have x1 : w7.cell? ⟨w.heap.size + 1, 1, none⟩ = some (.int .i64 0) := U7.out.rs.cell 1; have x2 : w7.cell? ⟨w.heap.size + 1, 2, none⟩ = some (.slice none 0 0) := U7.out.rs.cell 2; have x3 : w7.cell? ⟨w.heap.size + 1, 3, none⟩ = some (.int .i64 0) := U7.out.rs.cell 3; have f0 := U7.out.rs.fr 0; have f1 := U7.out.rs.fr 1; have f2 := U7.out.rs.fr 2; have f3 := U7.out.rs.fr 3; have m0 : w7.cell? ⟨nb, 0, none⟩ = some (.int .i64 2) := N7.out.cell 0; have m1 : w7.cell? ⟨nb, 1, none⟩ = some (.int .i64 p) := N7.out.cell 1; have m2 : w7.cell? ⟨nb, 2, none⟩ = some (.slice ad6 N cp6) := N7.out.cell 2; have m3 : w7.cell? ⟨nb, 3, none⟩ = some (.int .i64 O) := N7.out.cell 3; clear b7)
        have ZC : CB ((((w7.setCell ⟨w.heap.size + 1, 0, none⟩ (.int .i64 0)).setCell ⟨w.heap.size + 1, 1, none⟩ (.int .i64 0)).setCell ⟨w.heap.size + 1, 2, none⟩ (.slice none 0 0)).setCell ⟨w.heap.size + 1, 3, none⟩ (.int .i64 0)) (w.heap.size + 1) #[.int .i64 0, .int .i64 0, .slice none 0 0, .int .i64 0] 26 := set4 U7.out.rs
        have ZB : Below w.heap.size w ((((w7.setCell ⟨w.heap.size + 1, 0, none⟩ (.int .i64 0)).setCell ⟨w.heap.size + 1, 1, none⟩ (.int .i64 0)).setCell ⟨w.heap.size + 1, 2, none⟩ (.slice none 0 0)).setCell ⟨w.heap.size + 1, 3, none⟩ (.int .i64 0)) := ((((U7.out.bl.setCell (by simp <;> omega) _).setCell (by simp <;> omega) _).setCell (by simp <;> omega) _).setCell (by simp <;> omega) _)
        have ZO : OwnLA2 ((((w7.setCell ⟨w.heap.size + 1, 0, none⟩ (.int .i64 0)).setCell ⟨w.heap.size + 1, 1, none⟩ (.int .i64 0)).setCell ⟨w.heap.size + 1, 2, none⟩ (.slice none 0 0)).setCell ⟨w.heap.size + 1, 3, none⟩ (.int .i64 0)) w.heap.size none 0 C := .inl rfl
        generalize ((((w7.setCell ⟨w.heap.size + 1, 0, none⟩ (.int .i64 0)).setCell ⟨w.heap.size + 1, 1, none⟩ (.int .i64 0)).setCell ⟨w.heap.size + 1, 2, none⟩ (.slice none 0 0)).setCell ⟨w.heap.size + 1, 3, none⟩ (.int .i64 0)) = Z at ZC ZB ZO ⊢
        have z0 : Z.cell? ⟨w.heap.size + 1, 0, none⟩ = some (.int .i64 0) := ZC.cell 0
        have z1 : Z.cell? ⟨w.heap.size + 1, 1, none⟩ = some (.int .i64 0) := ZC.cell 1
        have z2 : Z.cell? ⟨w.heap.size + 1, 2, none⟩ = some (.slice none 0 0) := ZC.cell 2
        have z3 : Z.cell? ⟨w.heap.size + 1, 3, none⟩ = some (.int .i64 0) := ZC.cell 3
        refine bodyPost_ret (v := .tuple #[.agg #[.int .i64 0, .int .i64 0, .slice none 0 0, .int .i64 0], .bool false]) (by simp [results, Try.results31, go_sem, z0, z1, z2, z3]; try rfl) rfl ?_
        exact ⟨_, _, rfl, ZO, ZB⟩
      · obtain rfl : BV = true := by rw [← HTB.out, hw]
        have HWN := hid hw
        clear hw
        go_wp2_with (go_at_call 18; refine (implWorth_eq _ _ _ _ _ _ C true _ HNI.out OF.out.row HWN.out).mono ?_; rintro e w7 ⟨rfl, b7⟩; have U7 := hid (UF.out.below b7); have N7 := hid (NF.out.below b7 NF.out.lt); have O7 := hid (OF.out.below b7); have x0 : w7.cell? ⟨w.heap.size + 1, 0, none⟩ = some (.int .i64 0) := U7.out.rs.cell 0; have x1 : w7.cell? ⟨w.heap.size + 1, 1, none⟩ = some (.int .i64 0) := U7.out.rs.cell 1; have x2 : w7.cell? ⟨w.heap.size + 1, 2, none⟩ = some (.slice none 0 0) := U7.out.rs.cell 2; have x3 : w7.cell? ⟨w.heap.size + 1, 3, none⟩ = some (.int .i64 0) := U7.out.rs.cell 3; have f0 := U7.out.rs.fr 0; have f1 := U7.out.rs.fr 1; have f2 := U7.out.rs.fr 2; have f3 := U7.out.rs.fr 3; have m0 : w7.cell? ⟨nb, 0, none⟩ = some (.int .i64 2) := N7.out.cell 0; have m1 : w7.cell? ⟨nb, 1, none⟩ = some (.int .i64 p) := N7.out.cell 1; have m2 : w7.cell? ⟨nb, 2, none⟩ = some (.slice ad6 N cp6) := N7.out.cell 2; have m3 : w7.cell? ⟨nb, 3, none⟩ = some (.int .i64 O) := N7.out.cell 3; clear b7)
        have ZC : CB ((((w7.setCell ⟨w.heap.size + 1, 0, none⟩ (.int .i64 2)).setCell ⟨w.heap.size + 1, 1, none⟩ (.int .i64 p)).setCell ⟨w.heap.size + 1, 2, none⟩ (.slice ad6 N cp6)).setCell ⟨w.heap.size + 1, 3, none⟩ (.int .i64 O)) (w.heap.size + 1) #[.int .i64 2, .int .i64 p, .slice ad6 N cp6, .int .i64 O] 26 := set4 U7.out.rs
        have ZB : Below w.heap.size w ((((w7.setCell ⟨w.heap.size + 1, 0, none⟩ (.int .i64 2)).setCell ⟨w.heap.size + 1, 1, none⟩ (.int .i64 p)).setCell ⟨w.heap.size + 1, 2, none⟩ (.slice ad6 N cp6)).setCell ⟨w.heap.size + 1, 3, none⟩ (.int .i64 O)) := ((((U7.out.bl.setCell (by simp <;> omega) _).setCell (by simp <;> omega) _).setCell (by simp <;> omega) _).setCell (by simp <;> omega) _)
        have ZO : OwnLA2 ((((w7.setCell ⟨w.heap.size + 1, 0, none⟩ (.int .i64 2)).setCell ⟨w.heap.size + 1, 1, none⟩ (.int .i64 p)).setCell ⟨w.heap.size + 1, 2, none⟩ (.slice ad6 N cp6)).setCell ⟨w.heap.size + 1, 3, none⟩ (.int .i64 O)) w.heap.size ad6 N C := (O7.out.keep (fun g hg => keep4 (by have := HNG.out g hg; omega))).mono (by omega)
        generalize ((((w7.setCell ⟨w.heap.size + 1, 0, none⟩ (.int .i64 2)).setCell ⟨w.heap.size + 1, 1, none⟩ (.int .i64 p)).setCell ⟨w.heap.size + 1, 2, none⟩ (.slice ad6 N cp6)).setCell ⟨w.heap.size + 1, 3, none⟩ (.int .i64 O)) = Z at ZC ZB ZO ⊢
        have z0 : Z.cell? ⟨w.heap.size + 1, 0, none⟩ = some (.int .i64 2) := ZC.cell 0
        have z1 : Z.cell? ⟨w.heap.size + 1, 1, none⟩ = some (.int .i64 p) := ZC.cell 1
        have z2 : Z.cell? ⟨w.heap.size + 1, 2, none⟩ = some (.slice ad6 N cp6) := ZC.cell 2
        have z3 : Z.cell? ⟨w.heap.size + 1, 3, none⟩ = some (.int .i64 O) := ZC.cell 3
        refine bodyPost_ret (v := .tuple #[.agg #[.int .i64 2, .int .i64 p, .slice ad6 N cp6, .int .i64 O], .bool true]) (by simp [results, Try.results31, go_sem, z0, z1, z2, z3]; try rfl) rfl ?_
        exact ⟨_, _, rfl, ZO, ZB⟩
  · go_simp
    have UN := hid (HV.out.alloc (.cells #[.int .i64 0, .int .i64 0, .slice none 0 0, .int .i64 0] 26 (0, 0)))
    have NN : Hid (CB (V.drew.alloc (.cells #[.int .i64 0, .int .i64 0, .slice none 0 0, .int .i64 0] 26 (0, 0))) V.drew.heap.size #[.int .i64 0, .int .i64 0, .slice none 0 0, .int .i64 0] 26) := hid (CB.new _ _)
    first | refine hK.out _ _ (by exact UN.out.cells) (fun hHeld => ?_) | (go_wp2_with fail; refine hK.out _ _ (by exact UN.out.cells) (fun hHeld => ?_))
    clear hK K
    try simp only [Act.put, List.setIfInBounds_toArray, List.set_cons_zero, List.set_cons_succ]
    refine wpAnyH_ready (rs := [1]) (by kernel_rfl) (by simp) ?_
    refine AllReadyH.cons (o := { dst := some 23, op := Go.Op.call { callee := Go.Callee.value (Go.Operand.func 78), args := #[Go.Operand.tmp 22], argTypes := #[26] }, type := 102, pos := "l16_cost.go:151", after := #[{ on := 0, ground := Go.Ground.data }], guard := none }) rfl (fun K hK => ?_) (AllReadyH.nil)
    go_simp
    refine (methodOf_2 p (some a) n cap off _).mono ?_
    rintro e w5 ⟨rfl, b5⟩
    have U5 := hid (UN.out.below b5)
    have R5 := hid ((HVR.out.alloc (.cells #[.int .i64 0, .int .i64 0, .slice none 0 0, .int .i64 0] 26 (0, 0))).below b5)
    have N5 := hid (NN.out.below b5 NN.out.lt)
    clear b5
    first | refine hK.out _ _ (by exact U5.out.cells) (fun hHeld => ?_) | (go_wp2_with fail; refine hK.out _ _ (by exact U5.out.cells) (fun hHeld => ?_))
    clear hK K
    try simp only [Act.put, List.setIfInBounds_toArray, List.set_cons_zero, List.set_cons_succ]
    refine wpAnyH_ready (rs := [4]) (by kernel_rfl) (by simp) ?_
    refine AllReadyH.cons (o := { dst := some 26, op := Go.Op.call { callee := Go.Callee.invoke (Go.Operand.tmp 23) "loop.example/g00040/impl.takeIn", args := #[Go.Operand.tmp 24, Go.Operand.tmp 25], argTypes := #[26, 40] }, type := 26, pos := "l16_cost.go:151", after := #[{ on := 1, ground := Go.Ground.data }, { on := 2, ground := Go.Ground.data }, { on := 3, ground := Go.Ground.data }, { on := 1, ground := Go.Ground.chain }], guard := none }) rfl (fun K hK => ?_) (AllReadyH.nil)
    have HSZ : Hid (V.drew.heap.size + 1 ≤ w5.heap.size) := hid N5.out.lt
    go_simp
    refine (HME.out _ R5.out).mono ?_
    rintro e w6 ⟨ad6, cp6, rfl, o6, b6⟩
    have U6 := hid (U5.out.below b6)
    have OQ := hid o6
    have O6 := hid (o6.mono U5.out.size)
    have N6 := hid (N5.out.below b6 N5.out.lt)
    clear b6 o6
    first | refine hK.out _ _ (by exact U6.out.cells) (fun hHeld => ?_) | (go_wp2_with fail; refine hK.out _ _ (by exact U6.out.cells) (fun hHeld => ?_))
    clear hK K
    try simp only [Act.put, List.setIfInBounds_toArray, List.set_cons_zero, List.set_cons_succ]
    have HNP : Hid (∀ g, ad6 = some ⟨g, 0, none⟩ → w.heap.size + 3 ≤ g) := hid (fun g hg => by rcases O6.out with h0 | ⟨g0, _, e0, h1, _⟩; (exact absurd h0 HN0.out); (rw [hg] at e0; cases e0; exact h1))
    have HGB : Hid (w.heap.size + 3 ≤ V.heap.size) := hid HV.out.size
    have HNQ : Hid (∀ g, ad6 = some ⟨g, 0, none⟩ → V.heap.size < g) := hid (fun g hg => by rcases OQ.out with h0 | ⟨g0, _, e0, h1, _⟩; (exact absurd h0 HN0.out); (rw [hg] at e0; cases e0; have h2 : V.heap.size + 1 ≤ w5.heap.size := HSZ.out; omega))
    have x0 : w6.cell? ⟨V.heap.size, 0, none⟩ = some (.int .i64 0) := N6.out.cell 0
    have x1 : w6.cell? ⟨V.heap.size, 1, none⟩ = some (.int .i64 0) := N6.out.cell 1
    have x2 : w6.cell? ⟨V.heap.size, 2, none⟩ = some (.slice none 0 0) := N6.out.cell 2
    have x3 : w6.cell? ⟨V.heap.size, 3, none⟩ = some (.int .i64 0) := N6.out.cell 3
    have f0 : w6.frozen? ⟨V.heap.size, 0, none⟩ = false := N6.out.fr 0
    have f1 : w6.frozen? ⟨V.heap.size, 1, none⟩ = false := N6.out.fr 1
    have f2 : w6.frozen? ⟨V.heap.size, 2, none⟩ = false := N6.out.fr 2
    have f3 : w6.frozen? ⟨V.heap.size, 3, none⟩ = false := N6.out.fr 3
    refine wpAnyH_ready (rs := [6]) (by kernel_rfl) (by simp) ?_
    refine AllReadyH.cons (o := { dst := none, op := Go.Op.store 26 (Go.Operand.tmp 9) (Go.Operand.tmp 26), type := 0, pos := "l16_cost.go:151", after := #[{ on := 5, ground := Go.Ground.data }, { on := 4, ground := Go.Ground.data }, { on := 4, ground := Go.Ground.chain }, { on := 0, ground := Go.Ground.phase }, { on := 1, ground := Go.Ground.phase }, { on := 2, ground := Go.Ground.phase }, { on := 3, ground := Go.Ground.phase }, { on := 4, ground := Go.Ground.phase }, { on := 5, ground := Go.Ground.phase }], guard := none }) rfl (fun K hK => ?_) (AllReadyH.nil)
    go_simp
    have U8 := hid ((((U6.out.set (b := V.heap.size) (o := 0) (.int .i64 2) HGB.out).set (b := V.heap.size) (o := 1) (.int .i64 p) HGB.out).set (b := V.heap.size) (o := 2) (.slice ad6 N cp6) HGB.out).set (b := V.heap.size) (o := 3) (.int .i64 O) HGB.out)
    first | refine hK.out _ _ (by exact U8.out.cells) (fun hHeld => ?_) | (go_wp2_with fail; refine hK.out _ _ (by exact U8.out.cells) (fun hHeld => ?_))
    clear hK K
    try simp only [Act.put, List.setIfInBounds_toArray, List.set_cons_zero, List.set_cons_succ]
    refine wpAnyH_done (by kernel_rfl) ?_ _
    refine NoPanic.normal ?_
    clear hHeld
    clear x0 x1 x2 x3 f0 f1 f2 f3
    have UF : Hid (UB w 2 p (.slice (some a) n cap) off q k (((((w6.setCell ⟨V.heap.size, 0, none⟩ (.int .i64 2)).setCell ⟨V.heap.size, 1, none⟩ (.int .i64 p)).setCell ⟨V.heap.size, 2, none⟩ (.slice ad6 N cp6)).setCell ⟨V.heap.size, 3, none⟩ (.int .i64 O)))) := U8
    have NF : Hid (CB (((((w6.setCell ⟨V.heap.size, 0, none⟩ (.int .i64 2)).setCell ⟨V.heap.size, 1, none⟩ (.int .i64 p)).setCell ⟨V.heap.size, 2, none⟩ (.slice ad6 N cp6)).setCell ⟨V.heap.size, 3, none⟩ (.int .i64 O))) V.heap.size #[.int .i64 2, .int .i64 p, .slice ad6 N cp6, .int .i64 O] 26) := hid (set4 N6.out)
    have OF : Hid (OwnLA2 (((((w6.setCell ⟨V.heap.size, 0, none⟩ (.int .i64 2)).setCell ⟨V.heap.size, 1, none⟩ (.int .i64 p)).setCell ⟨V.heap.size, 2, none⟩ (.slice ad6 N cp6)).setCell ⟨V.heap.size, 3, none⟩ (.int .i64 O))) (w.heap.size + 3) ad6 N C) := hid (O6.out.keep (fun g hg => keep4 (by have := HNQ.out g hg; omega)))
    have HNG : Hid (∀ g, ad6 = some ⟨g, 0, none⟩ → w.heap.size + 3 ≤ g) := hid (fun g hg => HNP.out g hg)
    have hnb := HGB.out
    obtain ⟨nb, hnb2⟩ : ∃ nb, V.heap.size = nb := ⟨_, rfl⟩
    rw [hnb2] at UF NF OF hnb ⊢
    generalize ((((w6.setCell ⟨nb, 0, none⟩ (.int .i64 2)).setCell ⟨nb, 1, none⟩ (.int .i64 p)).setCell ⟨nb, 2, none⟩ (.slice ad6 N cp6)).setCell ⟨nb, 3, none⟩ (.int .i64 O)) = WF at UF NF OF ⊢
    clear U8 U6 O6 hnb2
    have n0 : WF.cell? ⟨nb, 0, none⟩ = some (.int .i64 2) := NF.out.cell 0
    have n1 : WF.cell? ⟨nb, 1, none⟩ = some (.int .i64 p) := NF.out.cell 1
    have n2 : WF.cell? ⟨nb, 2, none⟩ = some (.slice ad6 N cp6) := NF.out.cell 2
    have n3 : WF.cell? ⟨nb, 3, none⟩ = some (.int .i64 O) := NF.out.cell 3
    cases hw : woB 2 p N C O
    · obtain rfl : BV = false := by rw [← HTB.out, hw]
      have HWN := hid hw
      clear hw
      go_wp2_with (go_at_call 18; refine (implWorth_eq _ _ _ _ _ _ C false _ HNI.out OF.out.row HWN.out).mono ?_; rintro e w7 ⟨rfl, b7⟩; have U7 := hid (UF.out.below b7); have N7 := hid (NF.out.below b7 NF.out.lt); have O7 := hid (OF.out.below b7); have x0 : w7.cell? ⟨w.heap.size + 1, 0, none⟩ = some (.int .i64 0) := U7.out.rs.cell 0; have x1 : w7.cell? ⟨w.heap.size + 1, 1, none⟩ = some (.int .i64 0) := U7.out.rs.cell 1; have x2 : w7.cell? ⟨w.heap.size + 1, 2, none⟩ = some (.slice none 0 0) := U7.out.rs.cell 2; have x3 : w7.cell? ⟨w.heap.size + 1, 3, none⟩ = some (.int .i64 0) := U7.out.rs.cell 3; have f0 := U7.out.rs.fr 0; have f1 := U7.out.rs.fr 1; have f2 := U7.out.rs.fr 2; have f3 := U7.out.rs.fr 3; have m0 : w7.cell? ⟨nb, 0, none⟩ = some (.int .i64 2) := N7.out.cell 0; have m1 : w7.cell? ⟨nb, 1, none⟩ = some (.int .i64 p) := N7.out.cell 1; have m2 : w7.cell? ⟨nb, 2, none⟩ = some (.slice ad6 N cp6) := N7.out.cell 2; have m3 : w7.cell? ⟨nb, 3, none⟩ = some (.int .i64 O) := N7.out.cell 3; clear b7)
      have ZC : CB ((((w7.setCell ⟨w.heap.size + 1, 0, none⟩ (.int .i64 0)).setCell ⟨w.heap.size + 1, 1, none⟩ (.int .i64 0)).setCell ⟨w.heap.size + 1, 2, none⟩ (.slice none 0 0)).setCell ⟨w.heap.size + 1, 3, none⟩ (.int .i64 0)) (w.heap.size + 1) #[.int .i64 0, .int .i64 0, .slice none 0 0, .int .i64 0] 26 := set4 U7.out.rs
      have ZB : Below w.heap.size w ((((w7.setCell ⟨w.heap.size + 1, 0, none⟩ (.int .i64 0)).setCell ⟨w.heap.size + 1, 1, none⟩ (.int .i64 0)).setCell ⟨w.heap.size + 1, 2, none⟩ (.slice none 0 0)).setCell ⟨w.heap.size + 1, 3, none⟩ (.int .i64 0)) := ((((U7.out.bl.setCell (by simp <;> omega) _).setCell (by simp <;> omega) _).setCell (by simp <;> omega) _).setCell (by simp <;> omega) _)
      have ZO : OwnLA2 ((((w7.setCell ⟨w.heap.size + 1, 0, none⟩ (.int .i64 0)).setCell ⟨w.heap.size + 1, 1, none⟩ (.int .i64 0)).setCell ⟨w.heap.size + 1, 2, none⟩ (.slice none 0 0)).setCell ⟨w.heap.size + 1, 3, none⟩ (.int .i64 0)) w.heap.size none 0 C := .inl rfl
      generalize ((((w7.setCell ⟨w.heap.size + 1, 0, none⟩ (.int .i64 0)).setCell ⟨w.heap.size + 1, 1, none⟩ (.int .i64 0)).setCell ⟨w.heap.size + 1, 2, none⟩ (.slice none 0 0)).setCell ⟨w.heap.size + 1, 3, none⟩ (.int .i64 0)) = Z at ZC ZB ZO ⊢
      have z0 : Z.cell? ⟨w.heap.size + 1, 0, none⟩ = some (.int .i64 0) := ZC.cell 0
      have z1 : Z.cell? ⟨w.heap.size + 1, 1, none⟩ = some (.int .i64 0) := ZC.cell 1
      have z2 : Z.cell? ⟨w.heap.size + 1, 2, none⟩ = some (.slice none 0 0) := ZC.cell 2
      have z3 : Z.cell? ⟨w.heap.size + 1, 3, none⟩ = some (.int .i64 0) := ZC.cell 3
      refine bodyPost_ret (v := .tuple #[.agg #[.int .i64 0, .int .i64 0, .slice none 0 0, .int .i64 0], .bool false]) (by simp [results, Try.results31, go_sem, z0, z1, z2, z3]; try rfl) rfl ?_
      exact ⟨_, _, rfl, ZO, ZB⟩
    · obtain rfl : BV = true := by rw [← HTB.out, hw]
      have HWN := hid hw
      clear hw
      go_wp2_with (go_at_call 18; refine (implWorth_eq _ _ _ _ _ _ C true _ HNI.out OF.out.row HWN.out).mono ?_; rintro e w7 ⟨rfl, b7⟩; have U7 := hid (UF.out.below b7); have N7 := hid (NF.out.below b7 NF.out.lt); have O7 := hid (OF.out.below b7); have x0 : w7.cell? ⟨w.heap.size + 1, 0, none⟩ = some (.int .i64 0) := U7.out.rs.cell 0; have x1 : w7.cell? ⟨w.heap.size + 1, 1, none⟩ = some (.int .i64 0) := U7.out.rs.cell 1; have x2 : w7.cell? ⟨w.heap.size + 1, 2, none⟩ = some (.slice none 0 0) := U7.out.rs.cell 2; have x3 : w7.cell? ⟨w.heap.size + 1, 3, none⟩ = some (.int .i64 0) := U7.out.rs.cell 3; have f0 := U7.out.rs.fr 0; have f1 := U7.out.rs.fr 1; have f2 := U7.out.rs.fr 2; have f3 := U7.out.rs.fr 3; have m0 : w7.cell? ⟨nb, 0, none⟩ = some (.int .i64 2) := N7.out.cell 0; have m1 : w7.cell? ⟨nb, 1, none⟩ = some (.int .i64 p) := N7.out.cell 1; have m2 : w7.cell? ⟨nb, 2, none⟩ = some (.slice ad6 N cp6) := N7.out.cell 2; have m3 : w7.cell? ⟨nb, 3, none⟩ = some (.int .i64 O) := N7.out.cell 3; clear b7)
      have ZC : CB ((((w7.setCell ⟨w.heap.size + 1, 0, none⟩ (.int .i64 2)).setCell ⟨w.heap.size + 1, 1, none⟩ (.int .i64 p)).setCell ⟨w.heap.size + 1, 2, none⟩ (.slice ad6 N cp6)).setCell ⟨w.heap.size + 1, 3, none⟩ (.int .i64 O)) (w.heap.size + 1) #[.int .i64 2, .int .i64 p, .slice ad6 N cp6, .int .i64 O] 26 := set4 U7.out.rs
      have ZB : Below w.heap.size w ((((w7.setCell ⟨w.heap.size + 1, 0, none⟩ (.int .i64 2)).setCell ⟨w.heap.size + 1, 1, none⟩ (.int .i64 p)).setCell ⟨w.heap.size + 1, 2, none⟩ (.slice ad6 N cp6)).setCell ⟨w.heap.size + 1, 3, none⟩ (.int .i64 O)) := ((((U7.out.bl.setCell (by simp <;> omega) _).setCell (by simp <;> omega) _).setCell (by simp <;> omega) _).setCell (by simp <;> omega) _)
      have ZO : OwnLA2 ((((w7.setCell ⟨w.heap.size + 1, 0, none⟩ (.int .i64 2)).setCell ⟨w.heap.size + 1, 1, none⟩ (.int .i64 p)).setCell ⟨w.heap.size + 1, 2, none⟩ (.slice ad6 N cp6)).setCell ⟨w.heap.size + 1, 3, none⟩ (.int .i64 O)) w.heap.size ad6 N C := (O7.out.keep (fun g hg => keep4 (by have := HNG.out g hg; omega))).mono (by omega)
      generalize ((((w7.setCell ⟨w.heap.size + 1, 0, none⟩ (.int .i64 2)).setCell ⟨w.heap.size + 1, 1, none⟩ (.int .i64 p)).setCell ⟨w.heap.size + 1, 2, none⟩ (.slice ad6 N cp6)).setCell ⟨w.heap.size + 1, 3, none⟩ (.int .i64 O)) = Z at ZC ZB ZO ⊢
      have z0 : Z.cell? ⟨w.heap.size + 1, 0, none⟩ = some (.int .i64 2) := ZC.cell 0
      have z1 : Z.cell? ⟨w.heap.size + 1, 1, none⟩ = some (.int .i64 p) := ZC.cell 1
      have z2 : Z.cell? ⟨w.heap.size + 1, 2, none⟩ = some (.slice ad6 N cp6) := ZC.cell 2
      have z3 : Z.cell? ⟨w.heap.size + 1, 3, none⟩ = some (.int .i64 O) := ZC.cell 3
      refine bodyPost_ret (v := .tuple #[.agg #[.int .i64 2, .int .i64 p, .slice ad6 N cp6, .int .i64 O], .bool true]) (by simp [results, Try.results31, go_sem, z0, z1, z2, z3]; try rfl) rfl ?_
      exact ⟨_, _, rfl, ZO, ZB⟩

set_option maxRecDepth 20000 in
set_option maxHeartbeats 16000000 in
theorem takeIn_3 (p : Int) (a : Addr) (n cap : Nat) (off q k : Int) (N : Nat) (C : Nat → LA2) (O : Int) (BV : Bool) (c : Nat → LA2) (w : World) (hn : n ≤ 300) (hN : N ≤ 301) (hN0 : N ≠ 0) (hw0 : woB 3 p n c off = true) (hla : laB ⟨q, k⟩ = true) (hr : LAr w (some a) n c)
    (hme : ∀ W, LAr W (some a) n c → Calls Try.prog 149 #[.agg #[], .agg #[.int .i64 3, .int .i64 p, .slice (some a) n cap, .int .i64 off], .agg #[.int .i64 q, .int .i64 k]] W (MeR 3 p N C O W)) (hBV : woB 3 p N C O = BV) :
    Calls Try.prog 31 #[.agg #[.int .i64 3, .int .i64 p, .slice (some a) n cap, .int .i64 off], .int .i64 q, .int .i64 k] w fun e w' => ∃ ad cap, e = .returned (.tuple #[.agg #[.int .i64 (zI BV 3), .int .i64 (zI BV p), .slice ad (zN BV N) cap, .int .i64 (zI BV O)], .bool BV]) ∧ OwnLA2 w' w.heap.size ad (zN BV N) C ∧ Below w.heap.size w w' := by
  have HR : Hid (LAr w (some a) n c) := hr
  have HW0 : Hid (woB 3 p n c off = true) := hw0
  have HLA : Hid (laB ⟨q, k⟩ = true) := hla
  have HME := hid hme
  unfold MeR at HME
  have HTB : Hid (woB 3 p N C O = BV) := hBV
  have HN0 : Hid (N ≠ 0) := hN0
  have HNI : Hid ((N : Int) ≤ 1048576) := hid (by omega)
  have hnI : (n : Int) ≤ 1048576 := by omega
  have hn1 : ∀ w, (nilAhead 275 140 (.agg #[]) "loop.example/g00040/impl.takeIn").run Try.prog w = .ok (some false) w := fun w => by kernel_rfl
  have hm1 : ∀ w, (method 275 140 (.agg #[]) "loop.example/g00040/impl.takeIn").run Try.prog w = .ok (149, .agg #[]) w := fun w => by kernel_rfl
  clear hr hw0 hla hme hBV hN0 hN
  go_enter Try.func31, Try.ntmps31
  go_wp2_with (first
    | (go_at_call 18; refine (implWorth_eq _ _ _ _ _ _ c _ _ hnI (((HR.out.alloc _).alloc _).alloc _) HW0.out).mono ?_; rintro e w3 ⟨rfl, b3⟩; have U3 : Hid (UB w 3 p (.slice (some a) n cap) off q k w3) := hid ((UB.start w 3 p (.slice (some a) n cap) off q k).below b3); have R3 : Hid (LAr w3 (some a) n c) := hid ((((HR.out.alloc _).alloc _).alloc _).below b3); have k0 : w3.cell? ⟨w.heap.size + 1 + 1, 0, none⟩ = some (.int .i64 q) := U3.out.ca.cell 0; have k1 : w3.cell? ⟨w.heap.size + 1 + 1, 1, none⟩ = some (.int .i64 k) := U3.out.ca.cell 1; have x0 : w3.cell? ⟨w.heap.size + 1, 0, none⟩ = some (.int .i64 0) := U3.out.rs.cell 0; have x1 : w3.cell? ⟨w.heap.size + 1, 1, none⟩ = some (.int .i64 0) := U3.out.rs.cell 1; have x2 : w3.cell? ⟨w.heap.size + 1, 2, none⟩ = some (.slice none 0 0) := U3.out.rs.cell 2; have x3 : w3.cell? ⟨w.heap.size + 1, 3, none⟩ = some (.int .i64 0) := U3.out.rs.cell 3; have f0 := U3.out.rs.fr 0; have f1 := U3.out.rs.fr 1; have f2 := U3.out.rs.fr 2; have f3 := U3.out.rs.fr 3; clear b3)
    | (go_at_call 77; refine (laRight_eq ⟨q, k⟩ _ _ HLA.out).mono ?_; rintro e w4 ⟨rfl, b4⟩; clear x0 x1 x2 x3 f0 f1 f2 f3; have U4 := hid (U3.out.below b4); have R4 := hid (R3.out.below b4); have x0 : w4.cell? ⟨w.heap.size + 1, 0, none⟩ = some (.int .i64 0) := U4.out.rs.cell 0; have x1 : w4.cell? ⟨w.heap.size + 1, 1, none⟩ = some (.int .i64 0) := U4.out.rs.cell 1; have x2 : w4.cell? ⟨w.heap.size + 1, 2, none⟩ = some (.slice none 0 0) := U4.out.rs.cell 2; have x3 : w4.cell? ⟨w.heap.size + 1, 3, none⟩ = some (.int .i64 0) := U4.out.rs.cell 3; have f0 := U4.out.rs.fr 0; have f1 := U4.out.rs.fr 1; have f2 := U4.out.rs.fr 2; have f3 := U4.out.rs.fr 3; clear b4))
  clear x0 x1 x2 x3 f0 f1 f2 f3 k0 k1
  generalize hV : w4 = V at U4 R4 ⊢
  clear hV U3 R3
  have HV := hid U4.out.drew
  have HVR : Hid (LAr V.drew (some a) n c) := hid (R4.out.below (Below.refl _ _).drew)
  refine wp_region_noPanic ?_
  refine wp_region_held_drew (S := fun w' => (w'.cell? ⟨w.heap.size, 0, none⟩ = some (.int .i64 3)) ∧ (w'.cell? ⟨w.heap.size, 1, none⟩ = some (.int .i64 p)) ∧ (w'.cell? ⟨w.heap.size, 2, none⟩ = some (.slice (some a) n cap)) ∧ (w'.cell? ⟨w.heap.size, 3, none⟩ = some (.int .i64 off)) ∧ (w'.cell? ⟨w.heap.size + 1 + 1, 0, none⟩ = some (.int .i64 q)) ∧ (w'.cell? ⟨w.heap.size + 1 + 1, 1, none⟩ = some (.int .i64 k))) (by kernel_rfl) (by exact HV.out.cells) (fun hHeld => ?_)
  refine wpAnyH_take (i := 0) (oi := { dst := some 22, op := Go.Op.load 26 (Go.Operand.tmp 3), type := 26, pos := "l16_cost.go:151", after := #[], guard := none }) (v := ?_) rfl (by kernel_rfl) (by kernel_rfl) (by kernel_rfl) (fun _ _ _ h => h) (Or.inl ⟨by rfl, ?_⟩) (by assumption) ?_
  rotate_left
  · (intro w hSw; (try dsimp only at hSw); go_simp <;> try with_reducible rfl)
  try simp only [Act.put, List.setIfInBounds_toArray, List.set_cons_zero, List.set_cons_succ]
  refine wpAnyH_take (i := 2) (oi := { dst := some 24, op := Go.Op.load 26 (Go.Operand.tmp 3), type := 26, pos := "l16_cost.go:151", after := #[], guard := none }) (v := ?_) rfl (by kernel_rfl) (by kernel_rfl) (by kernel_rfl) (fun _ _ _ h => h) (Or.inl ⟨by rfl, ?_⟩) (by assumption) ?_
  rotate_left
  · (intro w hSw; (try dsimp only at hSw); go_simp <;> try with_reducible rfl)
  try simp only [Act.put, List.setIfInBounds_toArray, List.set_cons_zero, List.set_cons_succ]
  refine wpAnyH_take (i := 3) (oi := { dst := some 25, op := Go.Op.load 40 (Go.Operand.tmp 8), type := 40, pos := "l16_cost.go:151", after := #[], guard := none }) (v := ?_) rfl (by kernel_rfl) (by kernel_rfl) (by kernel_rfl) (fun _ _ _ h => h) (Or.inl ⟨by rfl, ?_⟩) (by assumption) ?_
  rotate_left
  · (intro w hSw; (try dsimp only at hSw); go_simp <;> try with_reducible rfl)
  try simp only [Act.put, List.setIfInBounds_toArray, List.set_cons_zero, List.set_cons_succ]
  refine wpAnyH_ready (rs := [1, 5]) (by kernel_rfl) (by simp) ?_
  refine AllReadyH.cons (o := { dst := some 23, op := Go.Op.call { callee := Go.Callee.value (Go.Operand.func 78), args := #[Go.Operand.tmp 22], argTypes := #[26] }, type := 102, pos := "l16_cost.go:151", after := #[{ on := 0, ground := Go.Ground.data }], guard := none }) rfl (fun K hK => ?_) (AllReadyH.cons (o := { dst := some 9, op := Go.Op.alloc 26, type := 0, pos := "l16_cost.go:151", after := #[], guard := none }) rfl (fun K hK => ?_) (AllReadyH.nil))
  · go_simp
    refine (methodOf_3 p (some a) n cap off _).mono ?_
    rintro e w5 ⟨rfl, b5⟩
    have U5 := hid (HV.out.below b5)
    have R5 := hid (HVR.out.below b5)
    clear b5
    first | refine hK.out _ _ (by exact U5.out.cells) (fun hHeld => ?_) | (go_wp2_with fail; refine hK.out _ _ (by exact U5.out.cells) (fun hHeld => ?_))
    clear hK K
    try simp only [Act.put, List.setIfInBounds_toArray, List.set_cons_zero, List.set_cons_succ]
    refine wpAnyH_ready (rs := [4, 5]) (by kernel_rfl) (by simp) ?_
    refine AllReadyH.cons (o := { dst := some 26, op := Go.Op.call { callee := Go.Callee.invoke (Go.Operand.tmp 23) "loop.example/g00040/impl.takeIn", args := #[Go.Operand.tmp 24, Go.Operand.tmp 25], argTypes := #[26, 40] }, type := 26, pos := "l16_cost.go:151", after := #[{ on := 1, ground := Go.Ground.data }, { on := 2, ground := Go.Ground.data }, { on := 3, ground := Go.Ground.data }, { on := 1, ground := Go.Ground.chain }], guard := none }) rfl (fun K hK => ?_) (AllReadyH.cons (o := { dst := some 9, op := Go.Op.alloc 26, type := 0, pos := "l16_cost.go:151", after := #[], guard := none }) rfl (fun K hK => ?_) (AllReadyH.nil))
    · go_simp
      refine (HME.out _ R5.out).mono ?_
      rintro e w6 ⟨ad6, cp6, rfl, o6, b6⟩
      have U6 := hid (U5.out.below b6)
      have O6 := hid (o6.mono U5.out.size)
      clear b6 o6
      first | refine hK.out _ _ (by exact U6.out.cells) (fun hHeld => ?_) | (go_wp2_with fail; refine hK.out _ _ (by exact U6.out.cells) (fun hHeld => ?_))
      clear hK K
      try simp only [Act.put, List.setIfInBounds_toArray, List.set_cons_zero, List.set_cons_succ]
      have HNP : Hid (∀ g, ad6 = some ⟨g, 0, none⟩ → w.heap.size + 3 ≤ g) := hid (fun g hg => by rcases O6.out with h0 | ⟨g0, _, e0, h1, _⟩; (exact absurd h0 HN0.out); (rw [hg] at e0; cases e0; exact h1))
      refine wpAnyH_ready (rs := [5]) (by kernel_rfl) (by simp) ?_
      refine AllReadyH.cons (o := { dst := some 9, op := Go.Op.alloc 26, type := 0, pos := "l16_cost.go:151", after := #[], guard := none }) rfl (fun K hK => ?_) (AllReadyH.nil)
      go_simp
      have U6a := hid (U6.out.alloc (.cells #[.int .i64 0, .int .i64 0, .slice none 0 0, .int .i64 0] 26 (0, 0)))
      first | refine hK.out _ _ (by exact U6a.out.cells) (fun hHeld => ?_) | (go_wp2_with fail; refine hK.out _ _ (by exact U6a.out.cells) (fun hHeld => ?_))
      clear hK K
      try simp only [Act.put, List.setIfInBounds_toArray, List.set_cons_zero, List.set_cons_succ]
      refine wpAnyH_ready (rs := [6]) (by kernel_rfl) (by simp) ?_
      refine AllReadyH.cons (o := { dst := none, op := Go.Op.store 26 (Go.Operand.tmp 9) (Go.Operand.tmp 26), type := 0, pos := "l16_cost.go:151", after := #[{ on := 5, ground := Go.Ground.data }, { on := 4, ground := Go.Ground.data }, { on := 4, ground := Go.Ground.chain }, { on := 0, ground := Go.Ground.phase }, { on := 1, ground := Go.Ground.phase }, { on := 2, ground := Go.Ground.phase }, { on := 3, ground := Go.Ground.phase }, { on := 4, ground := Go.Ground.phase }, { on := 5, ground := Go.Ground.phase }], guard := none }) rfl (fun K hK => ?_) (AllReadyH.nil)
      go_simp
      have U8 := hid (U6.out.alloc (.cells #[.int .i64 3, .int .i64 p, .slice ad6 N cp6, .int .i64 O] 26 (0, 0)))
      first | refine hK.out _ _ (by exact U8.out.cells) (fun hHeld => ?_) | (go_wp2_with fail; refine hK.out _ _ (by exact U8.out.cells) (fun hHeld => ?_))
      clear hK K
      try simp only [Act.put, List.setIfInBounds_toArray, List.set_cons_zero, List.set_cons_succ]
      refine wpAnyH_done (by kernel_rfl) ?_ _
      refine NoPanic.normal ?_
      clear hHeld
      have UF : Hid (UB w 3 p (.slice (some a) n cap) off q k (w6.alloc (.cells #[.int .i64 3, .int .i64 p, .slice ad6 N cp6, .int .i64 O] 26 (0, 0)))) := hid (U6.out.alloc _)
      have NF : Hid (CB (w6.alloc (.cells #[.int .i64 3, .int .i64 p, .slice ad6 N cp6, .int .i64 O] 26 (0, 0))) w6.heap.size #[.int .i64 3, .int .i64 p, .slice ad6 N cp6, .int .i64 O] 26) := hid (CB.new _ _)
      have OF : Hid (OwnLA2 (w6.alloc (.cells #[.int .i64 3, .int .i64 p, .slice ad6 N cp6, .int .i64 O] 26 (0, 0))) (w.heap.size + 3) ad6 N C) := hid (O6.out.below ((Below.refl _ _).alloc (Nat.le_refl _) _))
      have HNG : Hid (∀ g, ad6 = some ⟨g, 0, none⟩ → w.heap.size + 3 ≤ g) := hid (fun g hg => HNP.out g hg)
      have hnb : w.heap.size + 3 ≤ w6.heap.size := U6.out.size
      obtain ⟨nb, hnb2⟩ : ∃ nb, w6.heap.size = nb := ⟨_, rfl⟩
      rw [hnb2] at NF hnb ⊢
      generalize w6.alloc (.cells #[.int .i64 3, .int .i64 p, .slice ad6 N cp6, .int .i64 O] 26 (0, 0)) = WF at UF NF OF ⊢
      clear U8 U6a U6 O6 hnb2
      have n0 : WF.cell? ⟨nb, 0, none⟩ = some (.int .i64 3) := NF.out.cell 0
      have n1 : WF.cell? ⟨nb, 1, none⟩ = some (.int .i64 p) := NF.out.cell 1
      have n2 : WF.cell? ⟨nb, 2, none⟩ = some (.slice ad6 N cp6) := NF.out.cell 2
      have n3 : WF.cell? ⟨nb, 3, none⟩ = some (.int .i64 O) := NF.out.cell 3
      cases hw : woB 3 p N C O
      · obtain rfl : BV = false := by rw [← HTB.out, hw]
        have HWN := hid hw
        clear hw
        go_wp2_with (go_at_call 18; refine (implWorth_eq _ _ _ _ _ _ C false _ HNI.out OF.out.row HWN.out).mono ?_; rintro e w7 ⟨rfl, b7⟩; have U7 := hid (UF.out.below b7); have N7 := hid (NF.out.below b7 NF.out.lt); have O7 := hid (OF.out.below b7); have x0 : w7.cell? ⟨w.heap.size + 1, 0, none⟩ = some (.int .i64 0) := U7.out.rs.cell 0; have x1 : w7.cell? ⟨w.heap.size + 1, 1, none⟩ = some (.int .i64 0) := U7.out.rs.cell 1; have x2 : w7.cell? ⟨w.heap.size + 1, 2, none⟩ = some (.slice none 0 0) := U7.out.rs.cell 2; have x3 : w7.cell? ⟨w.heap.size + 1, 3, none⟩ = some (.int .i64 0) := U7.out.rs.cell 3; have f0 := U7.out.rs.fr 0; have f1 := U7.out.rs.fr 1; have f2 := U7.out.rs.fr 2; have f3 := U7.out.rs.fr 3; have m0 : w7.cell? ⟨nb, 0, none⟩ = some (.int .i64 3) := N7.out.cell 0; have m1 : w7.cell? ⟨nb, 1, none⟩ = some (.int .i64 p) := N7.out.cell 1; have m2 : w7.cell? ⟨nb, 2, none⟩ = some (.slice ad6 N cp6) := N7.out.cell 2; have m3 : w7.cell? ⟨nb, 3, none⟩ = some (.int .i64 O) := N7.out.cell 3; clear b7)
        have ZC : CB ((((w7.setCell ⟨w.heap.size + 1, 0, none⟩ (.int .i64 0)).setCell ⟨w.heap.size + 1, 1, none⟩ (.int .i64 0)).setCell ⟨w.heap.size + 1, 2, none⟩ (.slice none 0 0)).setCell ⟨w.heap.size + 1, 3, none⟩ (.int .i64 0)) (w.heap.size + 1) #[.int .i64 0, .int .i64 0, .slice none 0 0, .int .i64 0] 26 := set4 U7.out.rs
        have ZB : Below w.heap.size w ((((w7.setCell ⟨w.heap.size + 1, 0, none⟩ (.int .i64 0)).setCell ⟨w.heap.size + 1, 1, none⟩ (.int .i64 0)).setCell ⟨w.heap.size + 1, 2, none⟩ (.slice none 0 0)).setCell ⟨w.heap.size + 1, 3, none⟩ (.int .i64 0)) := ((((U7.out.bl.setCell (by simp <;> omega) _).setCell (by simp <;> omega) _).setCell (by simp <;> omega) _).setCell (by simp <;> omega) _)
        have ZO : OwnLA2 ((((w7.setCell ⟨w.heap.size + 1, 0, none⟩ (.int .i64 0)).setCell ⟨w.heap.size + 1, 1, none⟩ (.int .i64 0)).setCell ⟨w.heap.size + 1, 2, none⟩ (.slice none 0 0)).setCell ⟨w.heap.size + 1, 3, none⟩ (.int .i64 0)) w.heap.size none 0 C := .inl rfl
        generalize ((((w7.setCell ⟨w.heap.size + 1, 0, none⟩ (.int .i64 0)).setCell ⟨w.heap.size + 1, 1, none⟩ (.int .i64 0)).setCell ⟨w.heap.size + 1, 2, none⟩ (.slice none 0 0)).setCell ⟨w.heap.size + 1, 3, none⟩ (.int .i64 0)) = Z at ZC ZB ZO ⊢
        have z0 : Z.cell? ⟨w.heap.size + 1, 0, none⟩ = some (.int .i64 0) := ZC.cell 0
        have z1 : Z.cell? ⟨w.heap.size + 1, 1, none⟩ = some (.int .i64 0) := ZC.cell 1
        have z2 : Z.cell? ⟨w.heap.size + 1, 2, none⟩ = some (.slice none 0 0) := ZC.cell 2
        have z3 : Z.cell? ⟨w.heap.size + 1, 3, none⟩ = some (.int .i64 0) := ZC.cell 3
        refine bodyPost_ret (v := .tuple #[.agg #[.int .i64 0, .int .i64 0, .slice none 0 0, .int .i64 0], .bool false]) (by simp [results, Try.results31, go_sem, z0, z1, z2, z3]; try rfl) rfl ?_
        exact ⟨_, _, rfl, ZO, ZB⟩
      · obtain rfl : BV = true := by rw [← HTB.out, hw]
        have HWN := hid hw
        clear hw
        go_wp2_with (go_at_call 18; refine (implWorth_eq _ _ _ _ _ _ C true _ HNI.out OF.out.row HWN.out).mono ?_; rintro e w7 ⟨rfl, b7⟩; have U7 := hid (UF.out.below b7); have N7 := hid (NF.out.below b7 NF.out.lt); have O7 := hid (OF.out.below b7); have x0 : w7.cell? ⟨w.heap.size + 1, 0, none⟩ = some (.int .i64 0) := U7.out.rs.cell 0; have x1 : w7.cell? ⟨w.heap.size + 1, 1, none⟩ = some (.int .i64 0) := U7.out.rs.cell 1; have x2 : w7.cell? ⟨w.heap.size + 1, 2, none⟩ = some (.slice none 0 0) := U7.out.rs.cell 2; have x3 : w7.cell? ⟨w.heap.size + 1, 3, none⟩ = some (.int .i64 0) := U7.out.rs.cell 3; have f0 := U7.out.rs.fr 0; have f1 := U7.out.rs.fr 1; have f2 := U7.out.rs.fr 2; have f3 := U7.out.rs.fr 3; have m0 : w7.cell? ⟨nb, 0, none⟩ = some (.int .i64 3) := N7.out.cell 0; have m1 : w7.cell? ⟨nb, 1, none⟩ = some (.int .i64 p) := N7.out.cell 1; have m2 : w7.cell? ⟨nb, 2, none⟩ = some (.slice ad6 N cp6) := N7.out.cell 2; have m3 : w7.cell? ⟨nb, 3, none⟩ = some (.int .i64 O) := N7.out.cell 3; clear b7)
        have ZC : CB ((((w7.setCell ⟨w.heap.size + 1, 0, none⟩ (.int .i64 3)).setCell ⟨w.heap.size + 1, 1, none⟩ (.int .i64 p)).setCell ⟨w.heap.size + 1, 2, none⟩ (.slice ad6 N cp6)).setCell ⟨w.heap.size + 1, 3, none⟩ (.int .i64 O)) (w.heap.size + 1) #[.int .i64 3, .int .i64 p, .slice ad6 N cp6, .int .i64 O] 26 := set4 U7.out.rs
        have ZB : Below w.heap.size w ((((w7.setCell ⟨w.heap.size + 1, 0, none⟩ (.int .i64 3)).setCell ⟨w.heap.size + 1, 1, none⟩ (.int .i64 p)).setCell ⟨w.heap.size + 1, 2, none⟩ (.slice ad6 N cp6)).setCell ⟨w.heap.size + 1, 3, none⟩ (.int .i64 O)) := ((((U7.out.bl.setCell (by simp <;> omega) _).setCell (by simp <;> omega) _).setCell (by simp <;> omega) _).setCell (by simp <;> omega) _)
        have ZO : OwnLA2 ((((w7.setCell ⟨w.heap.size + 1, 0, none⟩ (.int .i64 3)).setCell ⟨w.heap.size + 1, 1, none⟩ (.int .i64 p)).setCell ⟨w.heap.size + 1, 2, none⟩ (.slice ad6 N cp6)).setCell ⟨w.heap.size + 1, 3, none⟩ (.int .i64 O)) w.heap.size ad6 N C := (O7.out.keep (fun g hg => keep4 (by have := HNG.out g hg; omega))).mono (by omega)
        generalize ((((w7.setCell ⟨w.heap.size + 1, 0, none⟩ (.int .i64 3)).setCell ⟨w.heap.size + 1, 1, none⟩ (.int .i64 p)).setCell ⟨w.heap.size + 1, 2, none⟩ (.slice ad6 N cp6)).setCell ⟨w.heap.size + 1, 3, none⟩ (.int .i64 O)) = Z at ZC ZB ZO ⊢
        have z0 : Z.cell? ⟨w.heap.size + 1, 0, none⟩ = some (.int .i64 3) := ZC.cell 0
        have z1 : Z.cell? ⟨w.heap.size + 1, 1, none⟩ = some (.int .i64 p) := ZC.cell 1
        have z2 : Z.cell? ⟨w.heap.size + 1, 2, none⟩ = some (.slice ad6 N cp6) := ZC.cell 2
        have z3 : Z.cell? ⟨w.heap.size + 1, 3, none⟩ = some (.int .i64 O) := ZC.cell 3
        refine bodyPost_ret (v := .tuple #[.agg #[.int .i64 3, .int .i64 p, .slice ad6 N cp6, .int .i64 O], .bool true]) (by simp [results, Try.results31, go_sem, z0, z1, z2, z3]; try rfl) rfl ?_
        exact ⟨_, _, rfl, ZO, ZB⟩
    · go_simp
      have UN := hid (U5.out.alloc (.cells #[.int .i64 0, .int .i64 0, .slice none 0 0, .int .i64 0] 26 (0, 0)))
      have NN : Hid (CB (w5.alloc (.cells #[.int .i64 0, .int .i64 0, .slice none 0 0, .int .i64 0] 26 (0, 0))) w5.heap.size #[.int .i64 0, .int .i64 0, .slice none 0 0, .int .i64 0] 26) := hid (CB.new _ _)
      have RN := hid (R5.out.alloc (.cells #[.int .i64 0, .int .i64 0, .slice none 0 0, .int .i64 0] 26 (0, 0)))
      first | refine hK.out _ _ (by exact UN.out.cells) (fun hHeld => ?_) | (go_wp2_with fail; refine hK.out _ _ (by exact UN.out.cells) (fun hHeld => ?_))
      clear hK K
      try simp only [Act.put, List.setIfInBounds_toArray, List.set_cons_zero, List.set_cons_succ]
      refine wpAnyH_ready (rs := [4]) (by kernel_rfl) (by simp) ?_
      refine AllReadyH.cons (o := { dst := some 26, op := Go.Op.call { callee := Go.Callee.invoke (Go.Operand.tmp 23) "loop.example/g00040/impl.takeIn", args := #[Go.Operand.tmp 24, Go.Operand.tmp 25], argTypes := #[26, 40] }, type := 26, pos := "l16_cost.go:151", after := #[{ on := 1, ground := Go.Ground.data }, { on := 2, ground := Go.Ground.data }, { on := 3, ground := Go.Ground.data }, { on := 1, ground := Go.Ground.chain }], guard := none }) rfl (fun K hK => ?_) (AllReadyH.nil)
      have HSZ : Hid ((w5.alloc (.cells #[.int .i64 0, .int .i64 0, .slice none 0 0, .int .i64 0] 26 (0, 0))).heap.size = w5.heap.size + 1) := hid (by simp)
      go_simp
      refine (HME.out _ RN.out).mono ?_
      rintro e w6 ⟨ad6, cp6, rfl, o6, b6⟩
      have U6 := hid (UN.out.below b6)
      have OQ := hid o6
      have O6 := hid (o6.mono UN.out.size)
      have N6 := hid (NN.out.below b6 NN.out.lt)
      clear b6 o6
      first | refine hK.out _ _ (by exact U6.out.cells) (fun hHeld => ?_) | (go_wp2_with fail; refine hK.out _ _ (by exact U6.out.cells) (fun hHeld => ?_))
      clear hK K
      try simp only [Act.put, List.setIfInBounds_toArray, List.set_cons_zero, List.set_cons_succ]
      have HNP : Hid (∀ g, ad6 = some ⟨g, 0, none⟩ → w.heap.size + 3 ≤ g) := hid (fun g hg => by rcases O6.out with h0 | ⟨g0, _, e0, h1, _⟩; (exact absurd h0 HN0.out); (rw [hg] at e0; cases e0; exact h1))
      have HGB : Hid (w.heap.size + 3 ≤ w5.heap.size) := hid U5.out.size
      have HNQ : Hid (∀ g, ad6 = some ⟨g, 0, none⟩ → w5.heap.size < g) := hid (fun g hg => by rcases OQ.out with h0 | ⟨g0, _, e0, h1, _⟩; (exact absurd h0 HN0.out); (rw [hg] at e0; cases e0; rw [HSZ.out] at h1; omega))
      have x0 : w6.cell? ⟨w5.heap.size, 0, none⟩ = some (.int .i64 0) := N6.out.cell 0
      have x1 : w6.cell? ⟨w5.heap.size, 1, none⟩ = some (.int .i64 0) := N6.out.cell 1
      have x2 : w6.cell? ⟨w5.heap.size, 2, none⟩ = some (.slice none 0 0) := N6.out.cell 2
      have x3 : w6.cell? ⟨w5.heap.size, 3, none⟩ = some (.int .i64 0) := N6.out.cell 3
      have f0 : w6.frozen? ⟨w5.heap.size, 0, none⟩ = false := N6.out.fr 0
      have f1 : w6.frozen? ⟨w5.heap.size, 1, none⟩ = false := N6.out.fr 1
      have f2 : w6.frozen? ⟨w5.heap.size, 2, none⟩ = false := N6.out.fr 2
      have f3 : w6.frozen? ⟨w5.heap.size, 3, none⟩ = false := N6.out.fr 3
      refine wpAnyH_ready (rs := [6]) (by kernel_rfl) (by simp) ?_
      refine AllReadyH.cons (o := { dst := none, op := Go.Op.store 26 (Go.Operand.tmp 9) (Go.Operand.tmp 26), type := 0, pos := "l16_cost.go:151", after := #[{ on := 5, ground := Go.Ground.data }, { on := 4, ground := Go.Ground.data }, { on := 4, ground := Go.Ground.chain }, { on := 0, ground := Go.Ground.phase }, { on := 1, ground := Go.Ground.phase }, { on := 2, ground := Go.Ground.phase }, { on := 3, ground := Go.Ground.phase }, { on := 4, ground := Go.Ground.phase }, { on := 5, ground := Go.Ground.phase }], guard := none }) rfl (fun K hK => ?_) (AllReadyH.nil)
      go_simp
      have U8 := hid ((((U6.out.set (b := w5.heap.size) (o := 0) (.int .i64 3) HGB.out).set (b := w5.heap.size) (o := 1) (.int .i64 p) HGB.out).set (b := w5.heap.size) (o := 2) (.slice ad6 N cp6) HGB.out).set (b := w5.heap.size) (o := 3) (.int .i64 O) HGB.out)
      first | refine hK.out _ _ (by exact U8.out.cells) (fun hHeld => ?_) | (go_wp2_with fail; refine hK.out _ _ (by exact U8.out.cells) (fun hHeld => ?_))
      clear hK K
      try simp only [Act.put, List.setIfInBounds_toArray, List.set_cons_zero, List.set_cons_succ]
      refine wpAnyH_done (by kernel_rfl) ?_ _
      refine NoPanic.normal ?_
      clear hHeld
      clear x0 x1 x2 x3 f0 f1 f2 f3
      have UF : Hid (UB w 3 p (.slice (some a) n cap) off q k (((((w6.setCell ⟨w5.heap.size, 0, none⟩ (.int .i64 3)).setCell ⟨w5.heap.size, 1, none⟩ (.int .i64 p)).setCell ⟨w5.heap.size, 2, none⟩ (.slice ad6 N cp6)).setCell ⟨w5.heap.size, 3, none⟩ (.int .i64 O)))) := U8
      have NF : Hid (CB (((((w6.setCell ⟨w5.heap.size, 0, none⟩ (.int .i64 3)).setCell ⟨w5.heap.size, 1, none⟩ (.int .i64 p)).setCell ⟨w5.heap.size, 2, none⟩ (.slice ad6 N cp6)).setCell ⟨w5.heap.size, 3, none⟩ (.int .i64 O))) w5.heap.size #[.int .i64 3, .int .i64 p, .slice ad6 N cp6, .int .i64 O] 26) := hid (set4 N6.out)
      have OF : Hid (OwnLA2 (((((w6.setCell ⟨w5.heap.size, 0, none⟩ (.int .i64 3)).setCell ⟨w5.heap.size, 1, none⟩ (.int .i64 p)).setCell ⟨w5.heap.size, 2, none⟩ (.slice ad6 N cp6)).setCell ⟨w5.heap.size, 3, none⟩ (.int .i64 O))) (w.heap.size + 3) ad6 N C) := hid (O6.out.keep (fun g hg => keep4 (by have := HNQ.out g hg; omega)))
      have HNG : Hid (∀ g, ad6 = some ⟨g, 0, none⟩ → w.heap.size + 3 ≤ g) := hid (fun g hg => HNP.out g hg)
      have hnb := HGB.out
      obtain ⟨nb, hnb2⟩ : ∃ nb, w5.heap.size = nb := ⟨_, rfl⟩
      rw [hnb2] at UF NF OF hnb ⊢
      generalize ((((w6.setCell ⟨nb, 0, none⟩ (.int .i64 3)).setCell ⟨nb, 1, none⟩ (.int .i64 p)).setCell ⟨nb, 2, none⟩ (.slice ad6 N cp6)).setCell ⟨nb, 3, none⟩ (.int .i64 O)) = WF at UF NF OF ⊢
      clear U8 U6 O6 hnb2
      have n0 : WF.cell? ⟨nb, 0, none⟩ = some (.int .i64 3) := NF.out.cell 0
      have n1 : WF.cell? ⟨nb, 1, none⟩ = some (.int .i64 p) := NF.out.cell 1
      have n2 : WF.cell? ⟨nb, 2, none⟩ = some (.slice ad6 N cp6) := NF.out.cell 2
      have n3 : WF.cell? ⟨nb, 3, none⟩ = some (.int .i64 O) := NF.out.cell 3
      cases hw : woB 3 p N C O
      · obtain rfl : BV = false := by rw [← HTB.out, hw]
        have HWN := hid hw
        clear hw
        go_wp2_with (go_at_call 18; refine (implWorth_eq _ _ _ _ _ _ C false _ HNI.out OF.out.row HWN.out).mono ?_; rintro e w7 ⟨rfl, b7⟩; have U7 := hid (UF.out.below b7); have N7 := hid (NF.out.below b7 NF.out.lt); have O7 := hid (OF.out.below b7); have x0 : w7.cell? ⟨w.heap.size + 1, 0, none⟩ = some (.int .i64 0) := U7.out.rs.cell 0; have x1 : w7.cell? ⟨w.heap.size + 1, 1, none⟩ = some (.int .i64 0) := U7.out.rs.cell 1; have x2 : w7.cell? ⟨w.heap.size + 1, 2, none⟩ = some (.slice none 0 0) := U7.out.rs.cell 2; have x3 : w7.cell? ⟨w.heap.size + 1, 3, none⟩ = some (.int .i64 0) := U7.out.rs.cell 3; have f0 := U7.out.rs.fr 0; have f1 := U7.out.rs.fr 1; have f2 := U7.out.rs.fr 2; have f3 := U7.out.rs.fr 3; have m0 : w7.cell? ⟨nb, 0, none⟩ = some (.int .i64 3) := N7.out.cell 0; have m1 : w7.cell? ⟨nb, 1, none⟩ = some (.int .i64 p) := N7.out.cell 1; have m2 : w7.cell? ⟨nb, 2, none⟩ = some (.slice ad6 N cp6) := N7.out.cell 2; have m3 : w7.cell? ⟨nb, 3, none⟩ = some (.int .i64 O) := N7.out.cell 3; clear b7)
        have ZC : CB ((((w7.setCell ⟨w.heap.size + 1, 0, none⟩ (.int .i64 0)).setCell ⟨w.heap.size + 1, 1, none⟩ (.int .i64 0)).setCell ⟨w.heap.size + 1, 2, none⟩ (.slice none 0 0)).setCell ⟨w.heap.size + 1, 3, none⟩ (.int .i64 0)) (w.heap.size + 1) #[.int .i64 0, .int .i64 0, .slice none 0 0, .int .i64 0] 26 := set4 U7.out.rs
        have ZB : Below w.heap.size w ((((w7.setCell ⟨w.heap.size + 1, 0, none⟩ (.int .i64 0)).setCell ⟨w.heap.size + 1, 1, none⟩ (.int .i64 0)).setCell ⟨w.heap.size + 1, 2, none⟩ (.slice none 0 0)).setCell ⟨w.heap.size + 1, 3, none⟩ (.int .i64 0)) := ((((U7.out.bl.setCell (by simp <;> omega) _).setCell (by simp <;> omega) _).setCell (by simp <;> omega) _).setCell (by simp <;> omega) _)
        have ZO : OwnLA2 ((((w7.setCell ⟨w.heap.size + 1, 0, none⟩ (.int .i64 0)).setCell ⟨w.heap.size + 1, 1, none⟩ (.int .i64 0)).setCell ⟨w.heap.size + 1, 2, none⟩ (.slice none 0 0)).setCell ⟨w.heap.size + 1, 3, none⟩ (.int .i64 0)) w.heap.size none 0 C := .inl rfl
        generalize ((((w7.setCell ⟨w.heap.size + 1, 0, none⟩ (.int .i64 0)).setCell ⟨w.heap.size + 1, 1, none⟩ (.int .i64 0)).setCell ⟨w.heap.size + 1, 2, none⟩ (.slice none 0 0)).setCell ⟨w.heap.size + 1, 3, none⟩ (.int .i64 0)) = Z at ZC ZB ZO ⊢
        have z0 : Z.cell? ⟨w.heap.size + 1, 0, none⟩ = some (.int .i64 0) := ZC.cell 0
        have z1 : Z.cell? ⟨w.heap.size + 1, 1, none⟩ = some (.int .i64 0) := ZC.cell 1
        have z2 : Z.cell? ⟨w.heap.size + 1, 2, none⟩ = some (.slice none 0 0) := ZC.cell 2
        have z3 : Z.cell? ⟨w.heap.size + 1, 3, none⟩ = some (.int .i64 0) := ZC.cell 3
        refine bodyPost_ret (v := .tuple #[.agg #[.int .i64 0, .int .i64 0, .slice none 0 0, .int .i64 0], .bool false]) (by simp [results, Try.results31, go_sem, z0, z1, z2, z3]; try rfl) rfl ?_
        exact ⟨_, _, rfl, ZO, ZB⟩
      · obtain rfl : BV = true := by rw [← HTB.out, hw]
        have HWN := hid hw
        clear hw
        go_wp2_with (go_at_call 18; refine (implWorth_eq _ _ _ _ _ _ C true _ HNI.out OF.out.row HWN.out).mono ?_; rintro e w7 ⟨rfl, b7⟩; have U7 := hid (UF.out.below b7); have N7 := hid (NF.out.below b7 NF.out.lt); have O7 := hid (OF.out.below b7); have x0 : w7.cell? ⟨w.heap.size + 1, 0, none⟩ = some (.int .i64 0) := U7.out.rs.cell 0; have x1 : w7.cell? ⟨w.heap.size + 1, 1, none⟩ = some (.int .i64 0) := U7.out.rs.cell 1; have x2 : w7.cell? ⟨w.heap.size + 1, 2, none⟩ = some (.slice none 0 0) := U7.out.rs.cell 2; have x3 : w7.cell? ⟨w.heap.size + 1, 3, none⟩ = some (.int .i64 0) := U7.out.rs.cell 3; have f0 := U7.out.rs.fr 0; have f1 := U7.out.rs.fr 1; have f2 := U7.out.rs.fr 2; have f3 := U7.out.rs.fr 3; have m0 : w7.cell? ⟨nb, 0, none⟩ = some (.int .i64 3) := N7.out.cell 0; have m1 : w7.cell? ⟨nb, 1, none⟩ = some (.int .i64 p) := N7.out.cell 1; have m2 : w7.cell? ⟨nb, 2, none⟩ = some (.slice ad6 N cp6) := N7.out.cell 2; have m3 : w7.cell? ⟨nb, 3, none⟩ = some (.int .i64 O) := N7.out.cell 3; clear b7)
        have ZC : CB ((((w7.setCell ⟨w.heap.size + 1, 0, none⟩ (.int .i64 3)).setCell ⟨w.heap.size + 1, 1, none⟩ (.int .i64 p)).setCell ⟨w.heap.size + 1, 2, none⟩ (.slice ad6 N cp6)).setCell ⟨w.heap.size + 1, 3, none⟩ (.int .i64 O)) (w.heap.size + 1) #[.int .i64 3, .int .i64 p, .slice ad6 N cp6, .int .i64 O] 26 := set4 U7.out.rs
        have ZB : Below w.heap.size w ((((w7.setCell ⟨w.heap.size + 1, 0, none⟩ (.int .i64 3)).setCell ⟨w.heap.size + 1, 1, none⟩ (.int .i64 p)).setCell ⟨w.heap.size + 1, 2, none⟩ (.slice ad6 N cp6)).setCell ⟨w.heap.size + 1, 3, none⟩ (.int .i64 O)) := ((((U7.out.bl.setCell (by simp <;> omega) _).setCell (by simp <;> omega) _).setCell (by simp <;> omega) _).setCell (by simp <;> omega) _)
        have ZO : OwnLA2 ((((w7.setCell ⟨w.heap.size + 1, 0, none⟩ (.int .i64 3)).setCell ⟨w.heap.size + 1, 1, none⟩ (.int .i64 p)).setCell ⟨w.heap.size + 1, 2, none⟩ (.slice ad6 N cp6)).setCell ⟨w.heap.size + 1, 3, none⟩ (.int .i64 O)) w.heap.size ad6 N C := (O7.out.keep (fun g hg => keep4 (by have := HNG.out g hg; omega))).mono (by omega)
        generalize ((((w7.setCell ⟨w.heap.size + 1, 0, none⟩ (.int .i64 3)).setCell ⟨w.heap.size + 1, 1, none⟩ (.int .i64 p)).setCell ⟨w.heap.size + 1, 2, none⟩ (.slice ad6 N cp6)).setCell ⟨w.heap.size + 1, 3, none⟩ (.int .i64 O)) = Z at ZC ZB ZO ⊢
        have z0 : Z.cell? ⟨w.heap.size + 1, 0, none⟩ = some (.int .i64 3) := ZC.cell 0
        have z1 : Z.cell? ⟨w.heap.size + 1, 1, none⟩ = some (.int .i64 p) := ZC.cell 1
        have z2 : Z.cell? ⟨w.heap.size + 1, 2, none⟩ = some (.slice ad6 N cp6) := ZC.cell 2
        have z3 : Z.cell? ⟨w.heap.size + 1, 3, none⟩ = some (.int .i64 O) := ZC.cell 3
        refine bodyPost_ret (v := .tuple #[.agg #[.int .i64 3, .int .i64 p, .slice ad6 N cp6, .int .i64 O], .bool true]) (by simp [results, Try.results31, go_sem, z0, z1, z2, z3]; try rfl) rfl ?_
        exact ⟨_, _, rfl, ZO, ZB⟩
  · go_simp
    have UN := hid (HV.out.alloc (.cells #[.int .i64 0, .int .i64 0, .slice none 0 0, .int .i64 0] 26 (0, 0)))
    have NN : Hid (CB (V.drew.alloc (.cells #[.int .i64 0, .int .i64 0, .slice none 0 0, .int .i64 0] 26 (0, 0))) V.drew.heap.size #[.int .i64 0, .int .i64 0, .slice none 0 0, .int .i64 0] 26) := hid (CB.new _ _)
    first | refine hK.out _ _ (by exact UN.out.cells) (fun hHeld => ?_) | (go_wp2_with fail; refine hK.out _ _ (by exact UN.out.cells) (fun hHeld => ?_))
    clear hK K
    try simp only [Act.put, List.setIfInBounds_toArray, List.set_cons_zero, List.set_cons_succ]
    refine wpAnyH_ready (rs := [1]) (by kernel_rfl) (by simp) ?_
    refine AllReadyH.cons (o := { dst := some 23, op := Go.Op.call { callee := Go.Callee.value (Go.Operand.func 78), args := #[Go.Operand.tmp 22], argTypes := #[26] }, type := 102, pos := "l16_cost.go:151", after := #[{ on := 0, ground := Go.Ground.data }], guard := none }) rfl (fun K hK => ?_) (AllReadyH.nil)
    go_simp
    refine (methodOf_3 p (some a) n cap off _).mono ?_
    rintro e w5 ⟨rfl, b5⟩
    have U5 := hid (UN.out.below b5)
    have R5 := hid ((HVR.out.alloc (.cells #[.int .i64 0, .int .i64 0, .slice none 0 0, .int .i64 0] 26 (0, 0))).below b5)
    have N5 := hid (NN.out.below b5 NN.out.lt)
    clear b5
    first | refine hK.out _ _ (by exact U5.out.cells) (fun hHeld => ?_) | (go_wp2_with fail; refine hK.out _ _ (by exact U5.out.cells) (fun hHeld => ?_))
    clear hK K
    try simp only [Act.put, List.setIfInBounds_toArray, List.set_cons_zero, List.set_cons_succ]
    refine wpAnyH_ready (rs := [4]) (by kernel_rfl) (by simp) ?_
    refine AllReadyH.cons (o := { dst := some 26, op := Go.Op.call { callee := Go.Callee.invoke (Go.Operand.tmp 23) "loop.example/g00040/impl.takeIn", args := #[Go.Operand.tmp 24, Go.Operand.tmp 25], argTypes := #[26, 40] }, type := 26, pos := "l16_cost.go:151", after := #[{ on := 1, ground := Go.Ground.data }, { on := 2, ground := Go.Ground.data }, { on := 3, ground := Go.Ground.data }, { on := 1, ground := Go.Ground.chain }], guard := none }) rfl (fun K hK => ?_) (AllReadyH.nil)
    have HSZ : Hid (V.drew.heap.size + 1 ≤ w5.heap.size) := hid N5.out.lt
    go_simp
    refine (HME.out _ R5.out).mono ?_
    rintro e w6 ⟨ad6, cp6, rfl, o6, b6⟩
    have U6 := hid (U5.out.below b6)
    have OQ := hid o6
    have O6 := hid (o6.mono U5.out.size)
    have N6 := hid (N5.out.below b6 N5.out.lt)
    clear b6 o6
    first | refine hK.out _ _ (by exact U6.out.cells) (fun hHeld => ?_) | (go_wp2_with fail; refine hK.out _ _ (by exact U6.out.cells) (fun hHeld => ?_))
    clear hK K
    try simp only [Act.put, List.setIfInBounds_toArray, List.set_cons_zero, List.set_cons_succ]
    have HNP : Hid (∀ g, ad6 = some ⟨g, 0, none⟩ → w.heap.size + 3 ≤ g) := hid (fun g hg => by rcases O6.out with h0 | ⟨g0, _, e0, h1, _⟩; (exact absurd h0 HN0.out); (rw [hg] at e0; cases e0; exact h1))
    have HGB : Hid (w.heap.size + 3 ≤ V.heap.size) := hid HV.out.size
    have HNQ : Hid (∀ g, ad6 = some ⟨g, 0, none⟩ → V.heap.size < g) := hid (fun g hg => by rcases OQ.out with h0 | ⟨g0, _, e0, h1, _⟩; (exact absurd h0 HN0.out); (rw [hg] at e0; cases e0; have h2 : V.heap.size + 1 ≤ w5.heap.size := HSZ.out; omega))
    have x0 : w6.cell? ⟨V.heap.size, 0, none⟩ = some (.int .i64 0) := N6.out.cell 0
    have x1 : w6.cell? ⟨V.heap.size, 1, none⟩ = some (.int .i64 0) := N6.out.cell 1
    have x2 : w6.cell? ⟨V.heap.size, 2, none⟩ = some (.slice none 0 0) := N6.out.cell 2
    have x3 : w6.cell? ⟨V.heap.size, 3, none⟩ = some (.int .i64 0) := N6.out.cell 3
    have f0 : w6.frozen? ⟨V.heap.size, 0, none⟩ = false := N6.out.fr 0
    have f1 : w6.frozen? ⟨V.heap.size, 1, none⟩ = false := N6.out.fr 1
    have f2 : w6.frozen? ⟨V.heap.size, 2, none⟩ = false := N6.out.fr 2
    have f3 : w6.frozen? ⟨V.heap.size, 3, none⟩ = false := N6.out.fr 3
    refine wpAnyH_ready (rs := [6]) (by kernel_rfl) (by simp) ?_
    refine AllReadyH.cons (o := { dst := none, op := Go.Op.store 26 (Go.Operand.tmp 9) (Go.Operand.tmp 26), type := 0, pos := "l16_cost.go:151", after := #[{ on := 5, ground := Go.Ground.data }, { on := 4, ground := Go.Ground.data }, { on := 4, ground := Go.Ground.chain }, { on := 0, ground := Go.Ground.phase }, { on := 1, ground := Go.Ground.phase }, { on := 2, ground := Go.Ground.phase }, { on := 3, ground := Go.Ground.phase }, { on := 4, ground := Go.Ground.phase }, { on := 5, ground := Go.Ground.phase }], guard := none }) rfl (fun K hK => ?_) (AllReadyH.nil)
    go_simp
    have U8 := hid ((((U6.out.set (b := V.heap.size) (o := 0) (.int .i64 3) HGB.out).set (b := V.heap.size) (o := 1) (.int .i64 p) HGB.out).set (b := V.heap.size) (o := 2) (.slice ad6 N cp6) HGB.out).set (b := V.heap.size) (o := 3) (.int .i64 O) HGB.out)
    first | refine hK.out _ _ (by exact U8.out.cells) (fun hHeld => ?_) | (go_wp2_with fail; refine hK.out _ _ (by exact U8.out.cells) (fun hHeld => ?_))
    clear hK K
    try simp only [Act.put, List.setIfInBounds_toArray, List.set_cons_zero, List.set_cons_succ]
    refine wpAnyH_done (by kernel_rfl) ?_ _
    refine NoPanic.normal ?_
    clear hHeld
    clear x0 x1 x2 x3 f0 f1 f2 f3
    have UF : Hid (UB w 3 p (.slice (some a) n cap) off q k (((((w6.setCell ⟨V.heap.size, 0, none⟩ (.int .i64 3)).setCell ⟨V.heap.size, 1, none⟩ (.int .i64 p)).setCell ⟨V.heap.size, 2, none⟩ (.slice ad6 N cp6)).setCell ⟨V.heap.size, 3, none⟩ (.int .i64 O)))) := U8
    have NF : Hid (CB (((((w6.setCell ⟨V.heap.size, 0, none⟩ (.int .i64 3)).setCell ⟨V.heap.size, 1, none⟩ (.int .i64 p)).setCell ⟨V.heap.size, 2, none⟩ (.slice ad6 N cp6)).setCell ⟨V.heap.size, 3, none⟩ (.int .i64 O))) V.heap.size #[.int .i64 3, .int .i64 p, .slice ad6 N cp6, .int .i64 O] 26) := hid (set4 N6.out)
    have OF : Hid (OwnLA2 (((((w6.setCell ⟨V.heap.size, 0, none⟩ (.int .i64 3)).setCell ⟨V.heap.size, 1, none⟩ (.int .i64 p)).setCell ⟨V.heap.size, 2, none⟩ (.slice ad6 N cp6)).setCell ⟨V.heap.size, 3, none⟩ (.int .i64 O))) (w.heap.size + 3) ad6 N C) := hid (O6.out.keep (fun g hg => keep4 (by have := HNQ.out g hg; omega)))
    have HNG : Hid (∀ g, ad6 = some ⟨g, 0, none⟩ → w.heap.size + 3 ≤ g) := hid (fun g hg => HNP.out g hg)
    have hnb := HGB.out
    obtain ⟨nb, hnb2⟩ : ∃ nb, V.heap.size = nb := ⟨_, rfl⟩
    rw [hnb2] at UF NF OF hnb ⊢
    generalize ((((w6.setCell ⟨nb, 0, none⟩ (.int .i64 3)).setCell ⟨nb, 1, none⟩ (.int .i64 p)).setCell ⟨nb, 2, none⟩ (.slice ad6 N cp6)).setCell ⟨nb, 3, none⟩ (.int .i64 O)) = WF at UF NF OF ⊢
    clear U8 U6 O6 hnb2
    have n0 : WF.cell? ⟨nb, 0, none⟩ = some (.int .i64 3) := NF.out.cell 0
    have n1 : WF.cell? ⟨nb, 1, none⟩ = some (.int .i64 p) := NF.out.cell 1
    have n2 : WF.cell? ⟨nb, 2, none⟩ = some (.slice ad6 N cp6) := NF.out.cell 2
    have n3 : WF.cell? ⟨nb, 3, none⟩ = some (.int .i64 O) := NF.out.cell 3
    cases hw : woB 3 p N C O
    · obtain rfl : BV = false := by rw [← HTB.out, hw]
      have HWN := hid hw
      clear hw
      go_wp2_with (go_at_call 18; refine (implWorth_eq _ _ _ _ _ _ C false _ HNI.out OF.out.row HWN.out).mono ?_; rintro e w7 ⟨rfl, b7⟩; have U7 := hid (UF.out.below b7); have N7 := hid (NF.out.below b7 NF.out.lt); have O7 := hid (OF.out.below b7); have x0 : w7.cell? ⟨w.heap.size + 1, 0, none⟩ = some (.int .i64 0) := U7.out.rs.cell 0; have x1 : w7.cell? ⟨w.heap.size + 1, 1, none⟩ = some (.int .i64 0) := U7.out.rs.cell 1; have x2 : w7.cell? ⟨w.heap.size + 1, 2, none⟩ = some (.slice none 0 0) := U7.out.rs.cell 2; have x3 : w7.cell? ⟨w.heap.size + 1, 3, none⟩ = some (.int .i64 0) := U7.out.rs.cell 3; have f0 := U7.out.rs.fr 0; have f1 := U7.out.rs.fr 1; have f2 := U7.out.rs.fr 2; have f3 := U7.out.rs.fr 3; have m0 : w7.cell? ⟨nb, 0, none⟩ = some (.int .i64 3) := N7.out.cell 0; have m1 : w7.cell? ⟨nb, 1, none⟩ = some (.int .i64 p) := N7.out.cell 1; have m2 : w7.cell? ⟨nb, 2, none⟩ = some (.slice ad6 N cp6) := N7.out.cell 2; have m3 : w7.cell? ⟨nb, 3, none⟩ = some (.int .i64 O) := N7.out.cell 3; clear b7)
      have ZC : CB ((((w7.setCell ⟨w.heap.size + 1, 0, none⟩ (.int .i64 0)).setCell ⟨w.heap.size + 1, 1, none⟩ (.int .i64 0)).setCell ⟨w.heap.size + 1, 2, none⟩ (.slice none 0 0)).setCell ⟨w.heap.size + 1, 3, none⟩ (.int .i64 0)) (w.heap.size + 1) #[.int .i64 0, .int .i64 0, .slice none 0 0, .int .i64 0] 26 := set4 U7.out.rs
      have ZB : Below w.heap.size w ((((w7.setCell ⟨w.heap.size + 1, 0, none⟩ (.int .i64 0)).setCell ⟨w.heap.size + 1, 1, none⟩ (.int .i64 0)).setCell ⟨w.heap.size + 1, 2, none⟩ (.slice none 0 0)).setCell ⟨w.heap.size + 1, 3, none⟩ (.int .i64 0)) := ((((U7.out.bl.setCell (by simp <;> omega) _).setCell (by simp <;> omega) _).setCell (by simp <;> omega) _).setCell (by simp <;> omega) _)
      have ZO : OwnLA2 ((((w7.setCell ⟨w.heap.size + 1, 0, none⟩ (.int .i64 0)).setCell ⟨w.heap.size + 1, 1, none⟩ (.int .i64 0)).setCell ⟨w.heap.size + 1, 2, none⟩ (.slice none 0 0)).setCell ⟨w.heap.size + 1, 3, none⟩ (.int .i64 0)) w.heap.size none 0 C := .inl rfl
      generalize ((((w7.setCell ⟨w.heap.size + 1, 0, none⟩ (.int .i64 0)).setCell ⟨w.heap.size + 1, 1, none⟩ (.int .i64 0)).setCell ⟨w.heap.size + 1, 2, none⟩ (.slice none 0 0)).setCell ⟨w.heap.size + 1, 3, none⟩ (.int .i64 0)) = Z at ZC ZB ZO ⊢
      have z0 : Z.cell? ⟨w.heap.size + 1, 0, none⟩ = some (.int .i64 0) := ZC.cell 0
      have z1 : Z.cell? ⟨w.heap.size + 1, 1, none⟩ = some (.int .i64 0) := ZC.cell 1
      have z2 : Z.cell? ⟨w.heap.size + 1, 2, none⟩ = some (.slice none 0 0) := ZC.cell 2
      have z3 : Z.cell? ⟨w.heap.size + 1, 3, none⟩ = some (.int .i64 0) := ZC.cell 3
      refine bodyPost_ret (v := .tuple #[.agg #[.int .i64 0, .int .i64 0, .slice none 0 0, .int .i64 0], .bool false]) (by simp [results, Try.results31, go_sem, z0, z1, z2, z3]; try rfl) rfl ?_
      exact ⟨_, _, rfl, ZO, ZB⟩
    · obtain rfl : BV = true := by rw [← HTB.out, hw]
      have HWN := hid hw
      clear hw
      go_wp2_with (go_at_call 18; refine (implWorth_eq _ _ _ _ _ _ C true _ HNI.out OF.out.row HWN.out).mono ?_; rintro e w7 ⟨rfl, b7⟩; have U7 := hid (UF.out.below b7); have N7 := hid (NF.out.below b7 NF.out.lt); have O7 := hid (OF.out.below b7); have x0 : w7.cell? ⟨w.heap.size + 1, 0, none⟩ = some (.int .i64 0) := U7.out.rs.cell 0; have x1 : w7.cell? ⟨w.heap.size + 1, 1, none⟩ = some (.int .i64 0) := U7.out.rs.cell 1; have x2 : w7.cell? ⟨w.heap.size + 1, 2, none⟩ = some (.slice none 0 0) := U7.out.rs.cell 2; have x3 : w7.cell? ⟨w.heap.size + 1, 3, none⟩ = some (.int .i64 0) := U7.out.rs.cell 3; have f0 := U7.out.rs.fr 0; have f1 := U7.out.rs.fr 1; have f2 := U7.out.rs.fr 2; have f3 := U7.out.rs.fr 3; have m0 : w7.cell? ⟨nb, 0, none⟩ = some (.int .i64 3) := N7.out.cell 0; have m1 : w7.cell? ⟨nb, 1, none⟩ = some (.int .i64 p) := N7.out.cell 1; have m2 : w7.cell? ⟨nb, 2, none⟩ = some (.slice ad6 N cp6) := N7.out.cell 2; have m3 : w7.cell? ⟨nb, 3, none⟩ = some (.int .i64 O) := N7.out.cell 3; clear b7)
      have ZC : CB ((((w7.setCell ⟨w.heap.size + 1, 0, none⟩ (.int .i64 3)).setCell ⟨w.heap.size + 1, 1, none⟩ (.int .i64 p)).setCell ⟨w.heap.size + 1, 2, none⟩ (.slice ad6 N cp6)).setCell ⟨w.heap.size + 1, 3, none⟩ (.int .i64 O)) (w.heap.size + 1) #[.int .i64 3, .int .i64 p, .slice ad6 N cp6, .int .i64 O] 26 := set4 U7.out.rs
      have ZB : Below w.heap.size w ((((w7.setCell ⟨w.heap.size + 1, 0, none⟩ (.int .i64 3)).setCell ⟨w.heap.size + 1, 1, none⟩ (.int .i64 p)).setCell ⟨w.heap.size + 1, 2, none⟩ (.slice ad6 N cp6)).setCell ⟨w.heap.size + 1, 3, none⟩ (.int .i64 O)) := ((((U7.out.bl.setCell (by simp <;> omega) _).setCell (by simp <;> omega) _).setCell (by simp <;> omega) _).setCell (by simp <;> omega) _)
      have ZO : OwnLA2 ((((w7.setCell ⟨w.heap.size + 1, 0, none⟩ (.int .i64 3)).setCell ⟨w.heap.size + 1, 1, none⟩ (.int .i64 p)).setCell ⟨w.heap.size + 1, 2, none⟩ (.slice ad6 N cp6)).setCell ⟨w.heap.size + 1, 3, none⟩ (.int .i64 O)) w.heap.size ad6 N C := (O7.out.keep (fun g hg => keep4 (by have := HNG.out g hg; omega))).mono (by omega)
      generalize ((((w7.setCell ⟨w.heap.size + 1, 0, none⟩ (.int .i64 3)).setCell ⟨w.heap.size + 1, 1, none⟩ (.int .i64 p)).setCell ⟨w.heap.size + 1, 2, none⟩ (.slice ad6 N cp6)).setCell ⟨w.heap.size + 1, 3, none⟩ (.int .i64 O)) = Z at ZC ZB ZO ⊢
      have z0 : Z.cell? ⟨w.heap.size + 1, 0, none⟩ = some (.int .i64 3) := ZC.cell 0
      have z1 : Z.cell? ⟨w.heap.size + 1, 1, none⟩ = some (.int .i64 p) := ZC.cell 1
      have z2 : Z.cell? ⟨w.heap.size + 1, 2, none⟩ = some (.slice ad6 N cp6) := ZC.cell 2
      have z3 : Z.cell? ⟨w.heap.size + 1, 3, none⟩ = some (.int .i64 O) := ZC.cell 3
      refine bodyPost_ret (v := .tuple #[.agg #[.int .i64 3, .int .i64 p, .slice ad6 N cp6, .int .i64 O], .bool true]) (by simp [results, Try.results31, go_sem, z0, z1, z2, z3]; try rfl) rfl ?_
      exact ⟨_, _, rfl, ZO, ZB⟩

set_option maxRecDepth 20000 in
set_option maxHeartbeats 16000000 in
theorem takeIn_4 (p : Int) (a : Addr) (n cap : Nat) (off q k : Int) (N : Nat) (C : Nat → LA2) (O : Int) (BV : Bool) (c : Nat → LA2) (w : World) (hn : n ≤ 300) (hN : N ≤ 301) (hN0 : N ≠ 0) (hw0 : woB 4 p n c off = true) (hla : laB ⟨q, k⟩ = true) (hr : LAr w (some a) n c)
    (hme : ∀ W, LAr W (some a) n c → Calls Try.prog 150 #[.agg #[], .agg #[.int .i64 4, .int .i64 p, .slice (some a) n cap, .int .i64 off], .agg #[.int .i64 q, .int .i64 k]] W (MeR 4 p N C O W)) (hBV : woB 4 p N C O = BV) :
    Calls Try.prog 31 #[.agg #[.int .i64 4, .int .i64 p, .slice (some a) n cap, .int .i64 off], .int .i64 q, .int .i64 k] w fun e w' => ∃ ad cap, e = .returned (.tuple #[.agg #[.int .i64 (zI BV 4), .int .i64 (zI BV p), .slice ad (zN BV N) cap, .int .i64 (zI BV O)], .bool BV]) ∧ OwnLA2 w' w.heap.size ad (zN BV N) C ∧ Below w.heap.size w w' := by
  have HR : Hid (LAr w (some a) n c) := hr
  have HW0 : Hid (woB 4 p n c off = true) := hw0
  have HLA : Hid (laB ⟨q, k⟩ = true) := hla
  have HME := hid hme
  unfold MeR at HME
  have HTB : Hid (woB 4 p N C O = BV) := hBV
  have HN0 : Hid (N ≠ 0) := hN0
  have HNI : Hid ((N : Int) ≤ 1048576) := hid (by omega)
  have hnI : (n : Int) ≤ 1048576 := by omega
  have hn1 : ∀ w, (nilAhead 275 141 (.agg #[]) "loop.example/g00040/impl.takeIn").run Try.prog w = .ok (some false) w := fun w => by kernel_rfl
  have hm1 : ∀ w, (method 275 141 (.agg #[]) "loop.example/g00040/impl.takeIn").run Try.prog w = .ok (150, .agg #[]) w := fun w => by kernel_rfl
  clear hr hw0 hla hme hBV hN0 hN
  go_enter Try.func31, Try.ntmps31
  go_wp2_with (first
    | (go_at_call 18; refine (implWorth_eq _ _ _ _ _ _ c _ _ hnI (((HR.out.alloc _).alloc _).alloc _) HW0.out).mono ?_; rintro e w3 ⟨rfl, b3⟩; have U3 : Hid (UB w 4 p (.slice (some a) n cap) off q k w3) := hid ((UB.start w 4 p (.slice (some a) n cap) off q k).below b3); have R3 : Hid (LAr w3 (some a) n c) := hid ((((HR.out.alloc _).alloc _).alloc _).below b3); have k0 : w3.cell? ⟨w.heap.size + 1 + 1, 0, none⟩ = some (.int .i64 q) := U3.out.ca.cell 0; have k1 : w3.cell? ⟨w.heap.size + 1 + 1, 1, none⟩ = some (.int .i64 k) := U3.out.ca.cell 1; have x0 : w3.cell? ⟨w.heap.size + 1, 0, none⟩ = some (.int .i64 0) := U3.out.rs.cell 0; have x1 : w3.cell? ⟨w.heap.size + 1, 1, none⟩ = some (.int .i64 0) := U3.out.rs.cell 1; have x2 : w3.cell? ⟨w.heap.size + 1, 2, none⟩ = some (.slice none 0 0) := U3.out.rs.cell 2; have x3 : w3.cell? ⟨w.heap.size + 1, 3, none⟩ = some (.int .i64 0) := U3.out.rs.cell 3; have f0 := U3.out.rs.fr 0; have f1 := U3.out.rs.fr 1; have f2 := U3.out.rs.fr 2; have f3 := U3.out.rs.fr 3; clear b3)
    | (go_at_call 77; refine (laRight_eq ⟨q, k⟩ _ _ HLA.out).mono ?_; rintro e w4 ⟨rfl, b4⟩; clear x0 x1 x2 x3 f0 f1 f2 f3; have U4 := hid (U3.out.below b4); have R4 := hid (R3.out.below b4); have x0 : w4.cell? ⟨w.heap.size + 1, 0, none⟩ = some (.int .i64 0) := U4.out.rs.cell 0; have x1 : w4.cell? ⟨w.heap.size + 1, 1, none⟩ = some (.int .i64 0) := U4.out.rs.cell 1; have x2 : w4.cell? ⟨w.heap.size + 1, 2, none⟩ = some (.slice none 0 0) := U4.out.rs.cell 2; have x3 : w4.cell? ⟨w.heap.size + 1, 3, none⟩ = some (.int .i64 0) := U4.out.rs.cell 3; have f0 := U4.out.rs.fr 0; have f1 := U4.out.rs.fr 1; have f2 := U4.out.rs.fr 2; have f3 := U4.out.rs.fr 3; clear b4))
  clear x0 x1 x2 x3 f0 f1 f2 f3 k0 k1
  generalize hV : w4 = V at U4 R4 ⊢
  clear hV U3 R3
  have HV := hid U4.out.drew
  have HVR : Hid (LAr V.drew (some a) n c) := hid (R4.out.below (Below.refl _ _).drew)
  refine wp_region_noPanic ?_
  refine wp_region_held_drew (S := fun w' => (w'.cell? ⟨w.heap.size, 0, none⟩ = some (.int .i64 4)) ∧ (w'.cell? ⟨w.heap.size, 1, none⟩ = some (.int .i64 p)) ∧ (w'.cell? ⟨w.heap.size, 2, none⟩ = some (.slice (some a) n cap)) ∧ (w'.cell? ⟨w.heap.size, 3, none⟩ = some (.int .i64 off)) ∧ (w'.cell? ⟨w.heap.size + 1 + 1, 0, none⟩ = some (.int .i64 q)) ∧ (w'.cell? ⟨w.heap.size + 1 + 1, 1, none⟩ = some (.int .i64 k))) (by kernel_rfl) (by exact HV.out.cells) (fun hHeld => ?_)
  refine wpAnyH_take (i := 0) (oi := { dst := some 22, op := Go.Op.load 26 (Go.Operand.tmp 3), type := 26, pos := "l16_cost.go:151", after := #[], guard := none }) (v := ?_) rfl (by kernel_rfl) (by kernel_rfl) (by kernel_rfl) (fun _ _ _ h => h) (Or.inl ⟨by rfl, ?_⟩) (by assumption) ?_
  rotate_left
  · (intro w hSw; (try dsimp only at hSw); go_simp <;> try with_reducible rfl)
  try simp only [Act.put, List.setIfInBounds_toArray, List.set_cons_zero, List.set_cons_succ]
  refine wpAnyH_take (i := 2) (oi := { dst := some 24, op := Go.Op.load 26 (Go.Operand.tmp 3), type := 26, pos := "l16_cost.go:151", after := #[], guard := none }) (v := ?_) rfl (by kernel_rfl) (by kernel_rfl) (by kernel_rfl) (fun _ _ _ h => h) (Or.inl ⟨by rfl, ?_⟩) (by assumption) ?_
  rotate_left
  · (intro w hSw; (try dsimp only at hSw); go_simp <;> try with_reducible rfl)
  try simp only [Act.put, List.setIfInBounds_toArray, List.set_cons_zero, List.set_cons_succ]
  refine wpAnyH_take (i := 3) (oi := { dst := some 25, op := Go.Op.load 40 (Go.Operand.tmp 8), type := 40, pos := "l16_cost.go:151", after := #[], guard := none }) (v := ?_) rfl (by kernel_rfl) (by kernel_rfl) (by kernel_rfl) (fun _ _ _ h => h) (Or.inl ⟨by rfl, ?_⟩) (by assumption) ?_
  rotate_left
  · (intro w hSw; (try dsimp only at hSw); go_simp <;> try with_reducible rfl)
  try simp only [Act.put, List.setIfInBounds_toArray, List.set_cons_zero, List.set_cons_succ]
  refine wpAnyH_ready (rs := [1, 5]) (by kernel_rfl) (by simp) ?_
  refine AllReadyH.cons (o := { dst := some 23, op := Go.Op.call { callee := Go.Callee.value (Go.Operand.func 78), args := #[Go.Operand.tmp 22], argTypes := #[26] }, type := 102, pos := "l16_cost.go:151", after := #[{ on := 0, ground := Go.Ground.data }], guard := none }) rfl (fun K hK => ?_) (AllReadyH.cons (o := { dst := some 9, op := Go.Op.alloc 26, type := 0, pos := "l16_cost.go:151", after := #[], guard := none }) rfl (fun K hK => ?_) (AllReadyH.nil))
  · go_simp
    refine (methodOf_4 p (some a) n cap off _).mono ?_
    rintro e w5 ⟨rfl, b5⟩
    have U5 := hid (HV.out.below b5)
    have R5 := hid (HVR.out.below b5)
    clear b5
    first | refine hK.out _ _ (by exact U5.out.cells) (fun hHeld => ?_) | (go_wp2_with fail; refine hK.out _ _ (by exact U5.out.cells) (fun hHeld => ?_))
    clear hK K
    try simp only [Act.put, List.setIfInBounds_toArray, List.set_cons_zero, List.set_cons_succ]
    refine wpAnyH_ready (rs := [4, 5]) (by kernel_rfl) (by simp) ?_
    refine AllReadyH.cons (o := { dst := some 26, op := Go.Op.call { callee := Go.Callee.invoke (Go.Operand.tmp 23) "loop.example/g00040/impl.takeIn", args := #[Go.Operand.tmp 24, Go.Operand.tmp 25], argTypes := #[26, 40] }, type := 26, pos := "l16_cost.go:151", after := #[{ on := 1, ground := Go.Ground.data }, { on := 2, ground := Go.Ground.data }, { on := 3, ground := Go.Ground.data }, { on := 1, ground := Go.Ground.chain }], guard := none }) rfl (fun K hK => ?_) (AllReadyH.cons (o := { dst := some 9, op := Go.Op.alloc 26, type := 0, pos := "l16_cost.go:151", after := #[], guard := none }) rfl (fun K hK => ?_) (AllReadyH.nil))
    · go_simp
      refine (HME.out _ R5.out).mono ?_
      rintro e w6 ⟨ad6, cp6, rfl, o6, b6⟩
      have U6 := hid (U5.out.below b6)
      have O6 := hid (o6.mono U5.out.size)
      clear b6 o6
      first | refine hK.out _ _ (by exact U6.out.cells) (fun hHeld => ?_) | (go_wp2_with fail; refine hK.out _ _ (by exact U6.out.cells) (fun hHeld => ?_))
      clear hK K
      try simp only [Act.put, List.setIfInBounds_toArray, List.set_cons_zero, List.set_cons_succ]
      have HNP : Hid (∀ g, ad6 = some ⟨g, 0, none⟩ → w.heap.size + 3 ≤ g) := hid (fun g hg => by rcases O6.out with h0 | ⟨g0, _, e0, h1, _⟩; (exact absurd h0 HN0.out); (rw [hg] at e0; cases e0; exact h1))
      refine wpAnyH_ready (rs := [5]) (by kernel_rfl) (by simp) ?_
      refine AllReadyH.cons (o := { dst := some 9, op := Go.Op.alloc 26, type := 0, pos := "l16_cost.go:151", after := #[], guard := none }) rfl (fun K hK => ?_) (AllReadyH.nil)
      go_simp
      have U6a := hid (U6.out.alloc (.cells #[.int .i64 0, .int .i64 0, .slice none 0 0, .int .i64 0] 26 (0, 0)))
      first | refine hK.out _ _ (by exact U6a.out.cells) (fun hHeld => ?_) | (go_wp2_with fail; refine hK.out _ _ (by exact U6a.out.cells) (fun hHeld => ?_))
      clear hK K
      try simp only [Act.put, List.setIfInBounds_toArray, List.set_cons_zero, List.set_cons_succ]
      refine wpAnyH_ready (rs := [6]) (by kernel_rfl) (by simp) ?_
      refine AllReadyH.cons (o := { dst := none, op := Go.Op.store 26 (Go.Operand.tmp 9) (Go.Operand.tmp 26), type := 0, pos := "l16_cost.go:151", after := #[{ on := 5, ground := Go.Ground.data }, { on := 4, ground := Go.Ground.data }, { on := 4, ground := Go.Ground.chain }, { on := 0, ground := Go.Ground.phase }, { on := 1, ground := Go.Ground.phase }, { on := 2, ground := Go.Ground.phase }, { on := 3, ground := Go.Ground.phase }, { on := 4, ground := Go.Ground.phase }, { on := 5, ground := Go.Ground.phase }], guard := none }) rfl (fun K hK => ?_) (AllReadyH.nil)
      go_simp
      have U8 := hid (U6.out.alloc (.cells #[.int .i64 4, .int .i64 p, .slice ad6 N cp6, .int .i64 O] 26 (0, 0)))
      first | refine hK.out _ _ (by exact U8.out.cells) (fun hHeld => ?_) | (go_wp2_with fail; refine hK.out _ _ (by exact U8.out.cells) (fun hHeld => ?_))
      clear hK K
      try simp only [Act.put, List.setIfInBounds_toArray, List.set_cons_zero, List.set_cons_succ]
      refine wpAnyH_done (by kernel_rfl) ?_ _
      refine NoPanic.normal ?_
      clear hHeld
      have UF : Hid (UB w 4 p (.slice (some a) n cap) off q k (w6.alloc (.cells #[.int .i64 4, .int .i64 p, .slice ad6 N cp6, .int .i64 O] 26 (0, 0)))) := hid (U6.out.alloc _)
      have NF : Hid (CB (w6.alloc (.cells #[.int .i64 4, .int .i64 p, .slice ad6 N cp6, .int .i64 O] 26 (0, 0))) w6.heap.size #[.int .i64 4, .int .i64 p, .slice ad6 N cp6, .int .i64 O] 26) := hid (CB.new _ _)
      have OF : Hid (OwnLA2 (w6.alloc (.cells #[.int .i64 4, .int .i64 p, .slice ad6 N cp6, .int .i64 O] 26 (0, 0))) (w.heap.size + 3) ad6 N C) := hid (O6.out.below ((Below.refl _ _).alloc (Nat.le_refl _) _))
      have HNG : Hid (∀ g, ad6 = some ⟨g, 0, none⟩ → w.heap.size + 3 ≤ g) := hid (fun g hg => HNP.out g hg)
      have hnb : w.heap.size + 3 ≤ w6.heap.size := U6.out.size
      obtain ⟨nb, hnb2⟩ : ∃ nb, w6.heap.size = nb := ⟨_, rfl⟩
      rw [hnb2] at NF hnb ⊢
      generalize w6.alloc (.cells #[.int .i64 4, .int .i64 p, .slice ad6 N cp6, .int .i64 O] 26 (0, 0)) = WF at UF NF OF ⊢
      clear U8 U6a U6 O6 hnb2
      have n0 : WF.cell? ⟨nb, 0, none⟩ = some (.int .i64 4) := NF.out.cell 0
      have n1 : WF.cell? ⟨nb, 1, none⟩ = some (.int .i64 p) := NF.out.cell 1
      have n2 : WF.cell? ⟨nb, 2, none⟩ = some (.slice ad6 N cp6) := NF.out.cell 2
      have n3 : WF.cell? ⟨nb, 3, none⟩ = some (.int .i64 O) := NF.out.cell 3
      cases hw : woB 4 p N C O
      · obtain rfl : BV = false := by rw [← HTB.out, hw]
        have HWN := hid hw
        clear hw
        go_wp2_with (go_at_call 18; refine (implWorth_eq _ _ _ _ _ _ C false _ HNI.out OF.out.row HWN.out).mono ?_; rintro e w7 ⟨rfl, b7⟩; have U7 := hid (UF.out.below b7); have N7 := hid (NF.out.below b7 NF.out.lt); have O7 := hid (OF.out.below b7); have x0 : w7.cell? ⟨w.heap.size + 1, 0, none⟩ = some (.int .i64 0) := U7.out.rs.cell 0; have x1 : w7.cell? ⟨w.heap.size + 1, 1, none⟩ = some (.int .i64 0) := U7.out.rs.cell 1; have x2 : w7.cell? ⟨w.heap.size + 1, 2, none⟩ = some (.slice none 0 0) := U7.out.rs.cell 2; have x3 : w7.cell? ⟨w.heap.size + 1, 3, none⟩ = some (.int .i64 0) := U7.out.rs.cell 3; have f0 := U7.out.rs.fr 0; have f1 := U7.out.rs.fr 1; have f2 := U7.out.rs.fr 2; have f3 := U7.out.rs.fr 3; have m0 : w7.cell? ⟨nb, 0, none⟩ = some (.int .i64 4) := N7.out.cell 0; have m1 : w7.cell? ⟨nb, 1, none⟩ = some (.int .i64 p) := N7.out.cell 1; have m2 : w7.cell? ⟨nb, 2, none⟩ = some (.slice ad6 N cp6) := N7.out.cell 2; have m3 : w7.cell? ⟨nb, 3, none⟩ = some (.int .i64 O) := N7.out.cell 3; clear b7)
        have ZC : CB ((((w7.setCell ⟨w.heap.size + 1, 0, none⟩ (.int .i64 0)).setCell ⟨w.heap.size + 1, 1, none⟩ (.int .i64 0)).setCell ⟨w.heap.size + 1, 2, none⟩ (.slice none 0 0)).setCell ⟨w.heap.size + 1, 3, none⟩ (.int .i64 0)) (w.heap.size + 1) #[.int .i64 0, .int .i64 0, .slice none 0 0, .int .i64 0] 26 := set4 U7.out.rs
        have ZB : Below w.heap.size w ((((w7.setCell ⟨w.heap.size + 1, 0, none⟩ (.int .i64 0)).setCell ⟨w.heap.size + 1, 1, none⟩ (.int .i64 0)).setCell ⟨w.heap.size + 1, 2, none⟩ (.slice none 0 0)).setCell ⟨w.heap.size + 1, 3, none⟩ (.int .i64 0)) := ((((U7.out.bl.setCell (by simp <;> omega) _).setCell (by simp <;> omega) _).setCell (by simp <;> omega) _).setCell (by simp <;> omega) _)
        have ZO : OwnLA2 ((((w7.setCell ⟨w.heap.size + 1, 0, none⟩ (.int .i64 0)).setCell ⟨w.heap.size + 1, 1, none⟩ (.int .i64 0)).setCell ⟨w.heap.size + 1, 2, none⟩ (.slice none 0 0)).setCell ⟨w.heap.size + 1, 3, none⟩ (.int .i64 0)) w.heap.size none 0 C := .inl rfl
        generalize ((((w7.setCell ⟨w.heap.size + 1, 0, none⟩ (.int .i64 0)).setCell ⟨w.heap.size + 1, 1, none⟩ (.int .i64 0)).setCell ⟨w.heap.size + 1, 2, none⟩ (.slice none 0 0)).setCell ⟨w.heap.size + 1, 3, none⟩ (.int .i64 0)) = Z at ZC ZB ZO ⊢
        have z0 : Z.cell? ⟨w.heap.size + 1, 0, none⟩ = some (.int .i64 0) := ZC.cell 0
        have z1 : Z.cell? ⟨w.heap.size + 1, 1, none⟩ = some (.int .i64 0) := ZC.cell 1
        have z2 : Z.cell? ⟨w.heap.size + 1, 2, none⟩ = some (.slice none 0 0) := ZC.cell 2
        have z3 : Z.cell? ⟨w.heap.size + 1, 3, none⟩ = some (.int .i64 0) := ZC.cell 3
        refine bodyPost_ret (v := .tuple #[.agg #[.int .i64 0, .int .i64 0, .slice none 0 0, .int .i64 0], .bool false]) (by simp [results, Try.results31, go_sem, z0, z1, z2, z3]; try rfl) rfl ?_
        exact ⟨_, _, rfl, ZO, ZB⟩
      · obtain rfl : BV = true := by rw [← HTB.out, hw]
        have HWN := hid hw
        clear hw
        go_wp2_with (go_at_call 18; refine (implWorth_eq _ _ _ _ _ _ C true _ HNI.out OF.out.row HWN.out).mono ?_; rintro e w7 ⟨rfl, b7⟩; have U7 := hid (UF.out.below b7); have N7 := hid (NF.out.below b7 NF.out.lt); have O7 := hid (OF.out.below b7); have x0 : w7.cell? ⟨w.heap.size + 1, 0, none⟩ = some (.int .i64 0) := U7.out.rs.cell 0; have x1 : w7.cell? ⟨w.heap.size + 1, 1, none⟩ = some (.int .i64 0) := U7.out.rs.cell 1; have x2 : w7.cell? ⟨w.heap.size + 1, 2, none⟩ = some (.slice none 0 0) := U7.out.rs.cell 2; have x3 : w7.cell? ⟨w.heap.size + 1, 3, none⟩ = some (.int .i64 0) := U7.out.rs.cell 3; have f0 := U7.out.rs.fr 0; have f1 := U7.out.rs.fr 1; have f2 := U7.out.rs.fr 2; have f3 := U7.out.rs.fr 3; have m0 : w7.cell? ⟨nb, 0, none⟩ = some (.int .i64 4) := N7.out.cell 0; have m1 : w7.cell? ⟨nb, 1, none⟩ = some (.int .i64 p) := N7.out.cell 1; have m2 : w7.cell? ⟨nb, 2, none⟩ = some (.slice ad6 N cp6) := N7.out.cell 2; have m3 : w7.cell? ⟨nb, 3, none⟩ = some (.int .i64 O) := N7.out.cell 3; clear b7)
        have ZC : CB ((((w7.setCell ⟨w.heap.size + 1, 0, none⟩ (.int .i64 4)).setCell ⟨w.heap.size + 1, 1, none⟩ (.int .i64 p)).setCell ⟨w.heap.size + 1, 2, none⟩ (.slice ad6 N cp6)).setCell ⟨w.heap.size + 1, 3, none⟩ (.int .i64 O)) (w.heap.size + 1) #[.int .i64 4, .int .i64 p, .slice ad6 N cp6, .int .i64 O] 26 := set4 U7.out.rs
        have ZB : Below w.heap.size w ((((w7.setCell ⟨w.heap.size + 1, 0, none⟩ (.int .i64 4)).setCell ⟨w.heap.size + 1, 1, none⟩ (.int .i64 p)).setCell ⟨w.heap.size + 1, 2, none⟩ (.slice ad6 N cp6)).setCell ⟨w.heap.size + 1, 3, none⟩ (.int .i64 O)) := ((((U7.out.bl.setCell (by simp <;> omega) _).setCell (by simp <;> omega) _).setCell (by simp <;> omega) _).setCell (by simp <;> omega) _)
        have ZO : OwnLA2 ((((w7.setCell ⟨w.heap.size + 1, 0, none⟩ (.int .i64 4)).setCell ⟨w.heap.size + 1, 1, none⟩ (.int .i64 p)).setCell ⟨w.heap.size + 1, 2, none⟩ (.slice ad6 N cp6)).setCell ⟨w.heap.size + 1, 3, none⟩ (.int .i64 O)) w.heap.size ad6 N C := (O7.out.keep (fun g hg => keep4 (by have := HNG.out g hg; omega))).mono (by omega)
        generalize ((((w7.setCell ⟨w.heap.size + 1, 0, none⟩ (.int .i64 4)).setCell ⟨w.heap.size + 1, 1, none⟩ (.int .i64 p)).setCell ⟨w.heap.size + 1, 2, none⟩ (.slice ad6 N cp6)).setCell ⟨w.heap.size + 1, 3, none⟩ (.int .i64 O)) = Z at ZC ZB ZO ⊢
        have z0 : Z.cell? ⟨w.heap.size + 1, 0, none⟩ = some (.int .i64 4) := ZC.cell 0
        have z1 : Z.cell? ⟨w.heap.size + 1, 1, none⟩ = some (.int .i64 p) := ZC.cell 1
        have z2 : Z.cell? ⟨w.heap.size + 1, 2, none⟩ = some (.slice ad6 N cp6) := ZC.cell 2
        have z3 : Z.cell? ⟨w.heap.size + 1, 3, none⟩ = some (.int .i64 O) := ZC.cell 3
        refine bodyPost_ret (v := .tuple #[.agg #[.int .i64 4, .int .i64 p, .slice ad6 N cp6, .int .i64 O], .bool true]) (by simp [results, Try.results31, go_sem, z0, z1, z2, z3]; try rfl) rfl ?_
        exact ⟨_, _, rfl, ZO, ZB⟩
    · go_simp
      have UN := hid (U5.out.alloc (.cells #[.int .i64 0, .int .i64 0, .slice none 0 0, .int .i64 0] 26 (0, 0)))
      have NN : Hid (CB (w5.alloc (.cells #[.int .i64 0, .int .i64 0, .slice none 0 0, .int .i64 0] 26 (0, 0))) w5.heap.size #[.int .i64 0, .int .i64 0, .slice none 0 0, .int .i64 0] 26) := hid (CB.new _ _)
      have RN := hid (R5.out.alloc (.cells #[.int .i64 0, .int .i64 0, .slice none 0 0, .int .i64 0] 26 (0, 0)))
      first | refine hK.out _ _ (by exact UN.out.cells) (fun hHeld => ?_) | (go_wp2_with fail; refine hK.out _ _ (by exact UN.out.cells) (fun hHeld => ?_))
      clear hK K
      try simp only [Act.put, List.setIfInBounds_toArray, List.set_cons_zero, List.set_cons_succ]
      refine wpAnyH_ready (rs := [4]) (by kernel_rfl) (by simp) ?_
      refine AllReadyH.cons (o := { dst := some 26, op := Go.Op.call { callee := Go.Callee.invoke (Go.Operand.tmp 23) "loop.example/g00040/impl.takeIn", args := #[Go.Operand.tmp 24, Go.Operand.tmp 25], argTypes := #[26, 40] }, type := 26, pos := "l16_cost.go:151", after := #[{ on := 1, ground := Go.Ground.data }, { on := 2, ground := Go.Ground.data }, { on := 3, ground := Go.Ground.data }, { on := 1, ground := Go.Ground.chain }], guard := none }) rfl (fun K hK => ?_) (AllReadyH.nil)
      have HSZ : Hid ((w5.alloc (.cells #[.int .i64 0, .int .i64 0, .slice none 0 0, .int .i64 0] 26 (0, 0))).heap.size = w5.heap.size + 1) := hid (by simp)
      go_simp
      refine (HME.out _ RN.out).mono ?_
      rintro e w6 ⟨ad6, cp6, rfl, o6, b6⟩
      have U6 := hid (UN.out.below b6)
      have OQ := hid o6
      have O6 := hid (o6.mono UN.out.size)
      have N6 := hid (NN.out.below b6 NN.out.lt)
      clear b6 o6
      first | refine hK.out _ _ (by exact U6.out.cells) (fun hHeld => ?_) | (go_wp2_with fail; refine hK.out _ _ (by exact U6.out.cells) (fun hHeld => ?_))
      clear hK K
      try simp only [Act.put, List.setIfInBounds_toArray, List.set_cons_zero, List.set_cons_succ]
      have HNP : Hid (∀ g, ad6 = some ⟨g, 0, none⟩ → w.heap.size + 3 ≤ g) := hid (fun g hg => by rcases O6.out with h0 | ⟨g0, _, e0, h1, _⟩; (exact absurd h0 HN0.out); (rw [hg] at e0; cases e0; exact h1))
      have HGB : Hid (w.heap.size + 3 ≤ w5.heap.size) := hid U5.out.size
      have HNQ : Hid (∀ g, ad6 = some ⟨g, 0, none⟩ → w5.heap.size < g) := hid (fun g hg => by rcases OQ.out with h0 | ⟨g0, _, e0, h1, _⟩; (exact absurd h0 HN0.out); (rw [hg] at e0; cases e0; rw [HSZ.out] at h1; omega))
      have x0 : w6.cell? ⟨w5.heap.size, 0, none⟩ = some (.int .i64 0) := N6.out.cell 0
      have x1 : w6.cell? ⟨w5.heap.size, 1, none⟩ = some (.int .i64 0) := N6.out.cell 1
      have x2 : w6.cell? ⟨w5.heap.size, 2, none⟩ = some (.slice none 0 0) := N6.out.cell 2
      have x3 : w6.cell? ⟨w5.heap.size, 3, none⟩ = some (.int .i64 0) := N6.out.cell 3
      have f0 : w6.frozen? ⟨w5.heap.size, 0, none⟩ = false := N6.out.fr 0
      have f1 : w6.frozen? ⟨w5.heap.size, 1, none⟩ = false := N6.out.fr 1
      have f2 : w6.frozen? ⟨w5.heap.size, 2, none⟩ = false := N6.out.fr 2
      have f3 : w6.frozen? ⟨w5.heap.size, 3, none⟩ = false := N6.out.fr 3
      refine wpAnyH_ready (rs := [6]) (by kernel_rfl) (by simp) ?_
      refine AllReadyH.cons (o := { dst := none, op := Go.Op.store 26 (Go.Operand.tmp 9) (Go.Operand.tmp 26), type := 0, pos := "l16_cost.go:151", after := #[{ on := 5, ground := Go.Ground.data }, { on := 4, ground := Go.Ground.data }, { on := 4, ground := Go.Ground.chain }, { on := 0, ground := Go.Ground.phase }, { on := 1, ground := Go.Ground.phase }, { on := 2, ground := Go.Ground.phase }, { on := 3, ground := Go.Ground.phase }, { on := 4, ground := Go.Ground.phase }, { on := 5, ground := Go.Ground.phase }], guard := none }) rfl (fun K hK => ?_) (AllReadyH.nil)
      go_simp
      have U8 := hid ((((U6.out.set (b := w5.heap.size) (o := 0) (.int .i64 4) HGB.out).set (b := w5.heap.size) (o := 1) (.int .i64 p) HGB.out).set (b := w5.heap.size) (o := 2) (.slice ad6 N cp6) HGB.out).set (b := w5.heap.size) (o := 3) (.int .i64 O) HGB.out)
      first | refine hK.out _ _ (by exact U8.out.cells) (fun hHeld => ?_) | (go_wp2_with fail; refine hK.out _ _ (by exact U8.out.cells) (fun hHeld => ?_))
      clear hK K
      try simp only [Act.put, List.setIfInBounds_toArray, List.set_cons_zero, List.set_cons_succ]
      refine wpAnyH_done (by kernel_rfl) ?_ _
      refine NoPanic.normal ?_
      clear hHeld
      clear x0 x1 x2 x3 f0 f1 f2 f3
      have UF : Hid (UB w 4 p (.slice (some a) n cap) off q k (((((w6.setCell ⟨w5.heap.size, 0, none⟩ (.int .i64 4)).setCell ⟨w5.heap.size, 1, none⟩ (.int .i64 p)).setCell ⟨w5.heap.size, 2, none⟩ (.slice ad6 N cp6)).setCell ⟨w5.heap.size, 3, none⟩ (.int .i64 O)))) := U8
      have NF : Hid (CB (((((w6.setCell ⟨w5.heap.size, 0, none⟩ (.int .i64 4)).setCell ⟨w5.heap.size, 1, none⟩ (.int .i64 p)).setCell ⟨w5.heap.size, 2, none⟩ (.slice ad6 N cp6)).setCell ⟨w5.heap.size, 3, none⟩ (.int .i64 O))) w5.heap.size #[.int .i64 4, .int .i64 p, .slice ad6 N cp6, .int .i64 O] 26) := hid (set4 N6.out)
      have OF : Hid (OwnLA2 (((((w6.setCell ⟨w5.heap.size, 0, none⟩ (.int .i64 4)).setCell ⟨w5.heap.size, 1, none⟩ (.int .i64 p)).setCell ⟨w5.heap.size, 2, none⟩ (.slice ad6 N cp6)).setCell ⟨w5.heap.size, 3, none⟩ (.int .i64 O))) (w.heap.size + 3) ad6 N C) := hid (O6.out.keep (fun g hg => keep4 (by have := HNQ.out g hg; omega)))
      have HNG : Hid (∀ g, ad6 = some ⟨g, 0, none⟩ → w.heap.size + 3 ≤ g) := hid (fun g hg => HNP.out g hg)
      have hnb := HGB.out
      obtain ⟨nb, hnb2⟩ : ∃ nb, w5.heap.size = nb := ⟨_, rfl⟩
      rw [hnb2] at UF NF OF hnb ⊢
      generalize ((((w6.setCell ⟨nb, 0, none⟩ (.int .i64 4)).setCell ⟨nb, 1, none⟩ (.int .i64 p)).setCell ⟨nb, 2, none⟩ (.slice ad6 N cp6)).setCell ⟨nb, 3, none⟩ (.int .i64 O)) = WF at UF NF OF ⊢
      clear U8 U6 O6 hnb2
      have n0 : WF.cell? ⟨nb, 0, none⟩ = some (.int .i64 4) := NF.out.cell 0
      have n1 : WF.cell? ⟨nb, 1, none⟩ = some (.int .i64 p) := NF.out.cell 1
      have n2 : WF.cell? ⟨nb, 2, none⟩ = some (.slice ad6 N cp6) := NF.out.cell 2
      have n3 : WF.cell? ⟨nb, 3, none⟩ = some (.int .i64 O) := NF.out.cell 3
      cases hw : woB 4 p N C O
      · obtain rfl : BV = false := by rw [← HTB.out, hw]
        have HWN := hid hw
        clear hw
        go_wp2_with (go_at_call 18; refine (implWorth_eq _ _ _ _ _ _ C false _ HNI.out OF.out.row HWN.out).mono ?_; rintro e w7 ⟨rfl, b7⟩; have U7 := hid (UF.out.below b7); have N7 := hid (NF.out.below b7 NF.out.lt); have O7 := hid (OF.out.below b7); have x0 : w7.cell? ⟨w.heap.size + 1, 0, none⟩ = some (.int .i64 0) := U7.out.rs.cell 0; have x1 : w7.cell? ⟨w.heap.size + 1, 1, none⟩ = some (.int .i64 0) := U7.out.rs.cell 1; have x2 : w7.cell? ⟨w.heap.size + 1, 2, none⟩ = some (.slice none 0 0) := U7.out.rs.cell 2; have x3 : w7.cell? ⟨w.heap.size + 1, 3, none⟩ = some (.int .i64 0) := U7.out.rs.cell 3; have f0 := U7.out.rs.fr 0; have f1 := U7.out.rs.fr 1; have f2 := U7.out.rs.fr 2; have f3 := U7.out.rs.fr 3; have m0 : w7.cell? ⟨nb, 0, none⟩ = some (.int .i64 4) := N7.out.cell 0; have m1 : w7.cell? ⟨nb, 1, none⟩ = some (.int .i64 p) := N7.out.cell 1; have m2 : w7.cell? ⟨nb, 2, none⟩ = some (.slice ad6 N cp6) := N7.out.cell 2; have m3 : w7.cell? ⟨nb, 3, none⟩ = some (.int .i64 O) := N7.out.cell 3; clear b7)
        have ZC : CB ((((w7.setCell ⟨w.heap.size + 1, 0, none⟩ (.int .i64 0)).setCell ⟨w.heap.size + 1, 1, none⟩ (.int .i64 0)).setCell ⟨w.heap.size + 1, 2, none⟩ (.slice none 0 0)).setCell ⟨w.heap.size + 1, 3, none⟩ (.int .i64 0)) (w.heap.size + 1) #[.int .i64 0, .int .i64 0, .slice none 0 0, .int .i64 0] 26 := set4 U7.out.rs
        have ZB : Below w.heap.size w ((((w7.setCell ⟨w.heap.size + 1, 0, none⟩ (.int .i64 0)).setCell ⟨w.heap.size + 1, 1, none⟩ (.int .i64 0)).setCell ⟨w.heap.size + 1, 2, none⟩ (.slice none 0 0)).setCell ⟨w.heap.size + 1, 3, none⟩ (.int .i64 0)) := ((((U7.out.bl.setCell (by simp <;> omega) _).setCell (by simp <;> omega) _).setCell (by simp <;> omega) _).setCell (by simp <;> omega) _)
        have ZO : OwnLA2 ((((w7.setCell ⟨w.heap.size + 1, 0, none⟩ (.int .i64 0)).setCell ⟨w.heap.size + 1, 1, none⟩ (.int .i64 0)).setCell ⟨w.heap.size + 1, 2, none⟩ (.slice none 0 0)).setCell ⟨w.heap.size + 1, 3, none⟩ (.int .i64 0)) w.heap.size none 0 C := .inl rfl
        generalize ((((w7.setCell ⟨w.heap.size + 1, 0, none⟩ (.int .i64 0)).setCell ⟨w.heap.size + 1, 1, none⟩ (.int .i64 0)).setCell ⟨w.heap.size + 1, 2, none⟩ (.slice none 0 0)).setCell ⟨w.heap.size + 1, 3, none⟩ (.int .i64 0)) = Z at ZC ZB ZO ⊢
        have z0 : Z.cell? ⟨w.heap.size + 1, 0, none⟩ = some (.int .i64 0) := ZC.cell 0
        have z1 : Z.cell? ⟨w.heap.size + 1, 1, none⟩ = some (.int .i64 0) := ZC.cell 1
        have z2 : Z.cell? ⟨w.heap.size + 1, 2, none⟩ = some (.slice none 0 0) := ZC.cell 2
        have z3 : Z.cell? ⟨w.heap.size + 1, 3, none⟩ = some (.int .i64 0) := ZC.cell 3
        refine bodyPost_ret (v := .tuple #[.agg #[.int .i64 0, .int .i64 0, .slice none 0 0, .int .i64 0], .bool false]) (by simp [results, Try.results31, go_sem, z0, z1, z2, z3]; try rfl) rfl ?_
        exact ⟨_, _, rfl, ZO, ZB⟩
      · obtain rfl : BV = true := by rw [← HTB.out, hw]
        have HWN := hid hw
        clear hw
        go_wp2_with (go_at_call 18; refine (implWorth_eq _ _ _ _ _ _ C true _ HNI.out OF.out.row HWN.out).mono ?_; rintro e w7 ⟨rfl, b7⟩; have U7 := hid (UF.out.below b7); have N7 := hid (NF.out.below b7 NF.out.lt); have O7 := hid (OF.out.below b7); have x0 : w7.cell? ⟨w.heap.size + 1, 0, none⟩ = some (.int .i64 0) := U7.out.rs.cell 0; have x1 : w7.cell? ⟨w.heap.size + 1, 1, none⟩ = some (.int .i64 0) := U7.out.rs.cell 1; have x2 : w7.cell? ⟨w.heap.size + 1, 2, none⟩ = some (.slice none 0 0) := U7.out.rs.cell 2; have x3 : w7.cell? ⟨w.heap.size + 1, 3, none⟩ = some (.int .i64 0) := U7.out.rs.cell 3; have f0 := U7.out.rs.fr 0; have f1 := U7.out.rs.fr 1; have f2 := U7.out.rs.fr 2; have f3 := U7.out.rs.fr 3; have m0 : w7.cell? ⟨nb, 0, none⟩ = some (.int .i64 4) := N7.out.cell 0; have m1 : w7.cell? ⟨nb, 1, none⟩ = some (.int .i64 p) := N7.out.cell 1; have m2 : w7.cell? ⟨nb, 2, none⟩ = some (.slice ad6 N cp6) := N7.out.cell 2; have m3 : w7.cell? ⟨nb, 3, none⟩ = some (.int .i64 O) := N7.out.cell 3; clear b7)
        have ZC : CB ((((w7.setCell ⟨w.heap.size + 1, 0, none⟩ (.int .i64 4)).setCell ⟨w.heap.size + 1, 1, none⟩ (.int .i64 p)).setCell ⟨w.heap.size + 1, 2, none⟩ (.slice ad6 N cp6)).setCell ⟨w.heap.size + 1, 3, none⟩ (.int .i64 O)) (w.heap.size + 1) #[.int .i64 4, .int .i64 p, .slice ad6 N cp6, .int .i64 O] 26 := set4 U7.out.rs
        have ZB : Below w.heap.size w ((((w7.setCell ⟨w.heap.size + 1, 0, none⟩ (.int .i64 4)).setCell ⟨w.heap.size + 1, 1, none⟩ (.int .i64 p)).setCell ⟨w.heap.size + 1, 2, none⟩ (.slice ad6 N cp6)).setCell ⟨w.heap.size + 1, 3, none⟩ (.int .i64 O)) := ((((U7.out.bl.setCell (by simp <;> omega) _).setCell (by simp <;> omega) _).setCell (by simp <;> omega) _).setCell (by simp <;> omega) _)
        have ZO : OwnLA2 ((((w7.setCell ⟨w.heap.size + 1, 0, none⟩ (.int .i64 4)).setCell ⟨w.heap.size + 1, 1, none⟩ (.int .i64 p)).setCell ⟨w.heap.size + 1, 2, none⟩ (.slice ad6 N cp6)).setCell ⟨w.heap.size + 1, 3, none⟩ (.int .i64 O)) w.heap.size ad6 N C := (O7.out.keep (fun g hg => keep4 (by have := HNG.out g hg; omega))).mono (by omega)
        generalize ((((w7.setCell ⟨w.heap.size + 1, 0, none⟩ (.int .i64 4)).setCell ⟨w.heap.size + 1, 1, none⟩ (.int .i64 p)).setCell ⟨w.heap.size + 1, 2, none⟩ (.slice ad6 N cp6)).setCell ⟨w.heap.size + 1, 3, none⟩ (.int .i64 O)) = Z at ZC ZB ZO ⊢
        have z0 : Z.cell? ⟨w.heap.size + 1, 0, none⟩ = some (.int .i64 4) := ZC.cell 0
        have z1 : Z.cell? ⟨w.heap.size + 1, 1, none⟩ = some (.int .i64 p) := ZC.cell 1
        have z2 : Z.cell? ⟨w.heap.size + 1, 2, none⟩ = some (.slice ad6 N cp6) := ZC.cell 2
        have z3 : Z.cell? ⟨w.heap.size + 1, 3, none⟩ = some (.int .i64 O) := ZC.cell 3
        refine bodyPost_ret (v := .tuple #[.agg #[.int .i64 4, .int .i64 p, .slice ad6 N cp6, .int .i64 O], .bool true]) (by simp [results, Try.results31, go_sem, z0, z1, z2, z3]; try rfl) rfl ?_
        exact ⟨_, _, rfl, ZO, ZB⟩
  · go_simp
    have UN := hid (HV.out.alloc (.cells #[.int .i64 0, .int .i64 0, .slice none 0 0, .int .i64 0] 26 (0, 0)))
    have NN : Hid (CB (V.drew.alloc (.cells #[.int .i64 0, .int .i64 0, .slice none 0 0, .int .i64 0] 26 (0, 0))) V.drew.heap.size #[.int .i64 0, .int .i64 0, .slice none 0 0, .int .i64 0] 26) := hid (CB.new _ _)
    first | refine hK.out _ _ (by exact UN.out.cells) (fun hHeld => ?_) | (go_wp2_with fail; refine hK.out _ _ (by exact UN.out.cells) (fun hHeld => ?_))
    clear hK K
    try simp only [Act.put, List.setIfInBounds_toArray, List.set_cons_zero, List.set_cons_succ]
    refine wpAnyH_ready (rs := [1]) (by kernel_rfl) (by simp) ?_
    refine AllReadyH.cons (o := { dst := some 23, op := Go.Op.call { callee := Go.Callee.value (Go.Operand.func 78), args := #[Go.Operand.tmp 22], argTypes := #[26] }, type := 102, pos := "l16_cost.go:151", after := #[{ on := 0, ground := Go.Ground.data }], guard := none }) rfl (fun K hK => ?_) (AllReadyH.nil)
    go_simp
    refine (methodOf_4 p (some a) n cap off _).mono ?_
    rintro e w5 ⟨rfl, b5⟩
    have U5 := hid (UN.out.below b5)
    have R5 := hid ((HVR.out.alloc (.cells #[.int .i64 0, .int .i64 0, .slice none 0 0, .int .i64 0] 26 (0, 0))).below b5)
    have N5 := hid (NN.out.below b5 NN.out.lt)
    clear b5
    first | refine hK.out _ _ (by exact U5.out.cells) (fun hHeld => ?_) | (go_wp2_with fail; refine hK.out _ _ (by exact U5.out.cells) (fun hHeld => ?_))
    clear hK K
    try simp only [Act.put, List.setIfInBounds_toArray, List.set_cons_zero, List.set_cons_succ]
    refine wpAnyH_ready (rs := [4]) (by kernel_rfl) (by simp) ?_
    refine AllReadyH.cons (o := { dst := some 26, op := Go.Op.call { callee := Go.Callee.invoke (Go.Operand.tmp 23) "loop.example/g00040/impl.takeIn", args := #[Go.Operand.tmp 24, Go.Operand.tmp 25], argTypes := #[26, 40] }, type := 26, pos := "l16_cost.go:151", after := #[{ on := 1, ground := Go.Ground.data }, { on := 2, ground := Go.Ground.data }, { on := 3, ground := Go.Ground.data }, { on := 1, ground := Go.Ground.chain }], guard := none }) rfl (fun K hK => ?_) (AllReadyH.nil)
    have HSZ : Hid (V.drew.heap.size + 1 ≤ w5.heap.size) := hid N5.out.lt
    go_simp
    refine (HME.out _ R5.out).mono ?_
    rintro e w6 ⟨ad6, cp6, rfl, o6, b6⟩
    have U6 := hid (U5.out.below b6)
    have OQ := hid o6
    have O6 := hid (o6.mono U5.out.size)
    have N6 := hid (N5.out.below b6 N5.out.lt)
    clear b6 o6
    first | refine hK.out _ _ (by exact U6.out.cells) (fun hHeld => ?_) | (go_wp2_with fail; refine hK.out _ _ (by exact U6.out.cells) (fun hHeld => ?_))
    clear hK K
    try simp only [Act.put, List.setIfInBounds_toArray, List.set_cons_zero, List.set_cons_succ]
    have HNP : Hid (∀ g, ad6 = some ⟨g, 0, none⟩ → w.heap.size + 3 ≤ g) := hid (fun g hg => by rcases O6.out with h0 | ⟨g0, _, e0, h1, _⟩; (exact absurd h0 HN0.out); (rw [hg] at e0; cases e0; exact h1))
    have HGB : Hid (w.heap.size + 3 ≤ V.heap.size) := hid HV.out.size
    have HNQ : Hid (∀ g, ad6 = some ⟨g, 0, none⟩ → V.heap.size < g) := hid (fun g hg => by rcases OQ.out with h0 | ⟨g0, _, e0, h1, _⟩; (exact absurd h0 HN0.out); (rw [hg] at e0; cases e0; have h2 : V.heap.size + 1 ≤ w5.heap.size := HSZ.out; omega))
    have x0 : w6.cell? ⟨V.heap.size, 0, none⟩ = some (.int .i64 0) := N6.out.cell 0
    have x1 : w6.cell? ⟨V.heap.size, 1, none⟩ = some (.int .i64 0) := N6.out.cell 1
    have x2 : w6.cell? ⟨V.heap.size, 2, none⟩ = some (.slice none 0 0) := N6.out.cell 2
    have x3 : w6.cell? ⟨V.heap.size, 3, none⟩ = some (.int .i64 0) := N6.out.cell 3
    have f0 : w6.frozen? ⟨V.heap.size, 0, none⟩ = false := N6.out.fr 0
    have f1 : w6.frozen? ⟨V.heap.size, 1, none⟩ = false := N6.out.fr 1
    have f2 : w6.frozen? ⟨V.heap.size, 2, none⟩ = false := N6.out.fr 2
    have f3 : w6.frozen? ⟨V.heap.size, 3, none⟩ = false := N6.out.fr 3
    refine wpAnyH_ready (rs := [6]) (by kernel_rfl) (by simp) ?_
    refine AllReadyH.cons (o := { dst := none, op := Go.Op.store 26 (Go.Operand.tmp 9) (Go.Operand.tmp 26), type := 0, pos := "l16_cost.go:151", after := #[{ on := 5, ground := Go.Ground.data }, { on := 4, ground := Go.Ground.data }, { on := 4, ground := Go.Ground.chain }, { on := 0, ground := Go.Ground.phase }, { on := 1, ground := Go.Ground.phase }, { on := 2, ground := Go.Ground.phase }, { on := 3, ground := Go.Ground.phase }, { on := 4, ground := Go.Ground.phase }, { on := 5, ground := Go.Ground.phase }], guard := none }) rfl (fun K hK => ?_) (AllReadyH.nil)
    go_simp
    have U8 := hid ((((U6.out.set (b := V.heap.size) (o := 0) (.int .i64 4) HGB.out).set (b := V.heap.size) (o := 1) (.int .i64 p) HGB.out).set (b := V.heap.size) (o := 2) (.slice ad6 N cp6) HGB.out).set (b := V.heap.size) (o := 3) (.int .i64 O) HGB.out)
    first | refine hK.out _ _ (by exact U8.out.cells) (fun hHeld => ?_) | (go_wp2_with fail; refine hK.out _ _ (by exact U8.out.cells) (fun hHeld => ?_))
    clear hK K
    try simp only [Act.put, List.setIfInBounds_toArray, List.set_cons_zero, List.set_cons_succ]
    refine wpAnyH_done (by kernel_rfl) ?_ _
    refine NoPanic.normal ?_
    clear hHeld
    clear x0 x1 x2 x3 f0 f1 f2 f3
    have UF : Hid (UB w 4 p (.slice (some a) n cap) off q k (((((w6.setCell ⟨V.heap.size, 0, none⟩ (.int .i64 4)).setCell ⟨V.heap.size, 1, none⟩ (.int .i64 p)).setCell ⟨V.heap.size, 2, none⟩ (.slice ad6 N cp6)).setCell ⟨V.heap.size, 3, none⟩ (.int .i64 O)))) := U8
    have NF : Hid (CB (((((w6.setCell ⟨V.heap.size, 0, none⟩ (.int .i64 4)).setCell ⟨V.heap.size, 1, none⟩ (.int .i64 p)).setCell ⟨V.heap.size, 2, none⟩ (.slice ad6 N cp6)).setCell ⟨V.heap.size, 3, none⟩ (.int .i64 O))) V.heap.size #[.int .i64 4, .int .i64 p, .slice ad6 N cp6, .int .i64 O] 26) := hid (set4 N6.out)
    have OF : Hid (OwnLA2 (((((w6.setCell ⟨V.heap.size, 0, none⟩ (.int .i64 4)).setCell ⟨V.heap.size, 1, none⟩ (.int .i64 p)).setCell ⟨V.heap.size, 2, none⟩ (.slice ad6 N cp6)).setCell ⟨V.heap.size, 3, none⟩ (.int .i64 O))) (w.heap.size + 3) ad6 N C) := hid (O6.out.keep (fun g hg => keep4 (by have := HNQ.out g hg; omega)))
    have HNG : Hid (∀ g, ad6 = some ⟨g, 0, none⟩ → w.heap.size + 3 ≤ g) := hid (fun g hg => HNP.out g hg)
    have hnb := HGB.out
    obtain ⟨nb, hnb2⟩ : ∃ nb, V.heap.size = nb := ⟨_, rfl⟩
    rw [hnb2] at UF NF OF hnb ⊢
    generalize ((((w6.setCell ⟨nb, 0, none⟩ (.int .i64 4)).setCell ⟨nb, 1, none⟩ (.int .i64 p)).setCell ⟨nb, 2, none⟩ (.slice ad6 N cp6)).setCell ⟨nb, 3, none⟩ (.int .i64 O)) = WF at UF NF OF ⊢
    clear U8 U6 O6 hnb2
    have n0 : WF.cell? ⟨nb, 0, none⟩ = some (.int .i64 4) := NF.out.cell 0
    have n1 : WF.cell? ⟨nb, 1, none⟩ = some (.int .i64 p) := NF.out.cell 1
    have n2 : WF.cell? ⟨nb, 2, none⟩ = some (.slice ad6 N cp6) := NF.out.cell 2
    have n3 : WF.cell? ⟨nb, 3, none⟩ = some (.int .i64 O) := NF.out.cell 3
    cases hw : woB 4 p N C O
    · obtain rfl : BV = false := by rw [← HTB.out, hw]
      have HWN := hid hw
      clear hw
      go_wp2_with (go_at_call 18; refine (implWorth_eq _ _ _ _ _ _ C false _ HNI.out OF.out.row HWN.out).mono ?_; rintro e w7 ⟨rfl, b7⟩; have U7 := hid (UF.out.below b7); have N7 := hid (NF.out.below b7 NF.out.lt); have O7 := hid (OF.out.below b7); have x0 : w7.cell? ⟨w.heap.size + 1, 0, none⟩ = some (.int .i64 0) := U7.out.rs.cell 0; have x1 : w7.cell? ⟨w.heap.size + 1, 1, none⟩ = some (.int .i64 0) := U7.out.rs.cell 1; have x2 : w7.cell? ⟨w.heap.size + 1, 2, none⟩ = some (.slice none 0 0) := U7.out.rs.cell 2; have x3 : w7.cell? ⟨w.heap.size + 1, 3, none⟩ = some (.int .i64 0) := U7.out.rs.cell 3; have f0 := U7.out.rs.fr 0; have f1 := U7.out.rs.fr 1; have f2 := U7.out.rs.fr 2; have f3 := U7.out.rs.fr 3; have m0 : w7.cell? ⟨nb, 0, none⟩ = some (.int .i64 4) := N7.out.cell 0; have m1 : w7.cell? ⟨nb, 1, none⟩ = some (.int .i64 p) := N7.out.cell 1; have m2 : w7.cell? ⟨nb, 2, none⟩ = some (.slice ad6 N cp6) := N7.out.cell 2; have m3 : w7.cell? ⟨nb, 3, none⟩ = some (.int .i64 O) := N7.out.cell 3; clear b7)
      have ZC : CB ((((w7.setCell ⟨w.heap.size + 1, 0, none⟩ (.int .i64 0)).setCell ⟨w.heap.size + 1, 1, none⟩ (.int .i64 0)).setCell ⟨w.heap.size + 1, 2, none⟩ (.slice none 0 0)).setCell ⟨w.heap.size + 1, 3, none⟩ (.int .i64 0)) (w.heap.size + 1) #[.int .i64 0, .int .i64 0, .slice none 0 0, .int .i64 0] 26 := set4 U7.out.rs
      have ZB : Below w.heap.size w ((((w7.setCell ⟨w.heap.size + 1, 0, none⟩ (.int .i64 0)).setCell ⟨w.heap.size + 1, 1, none⟩ (.int .i64 0)).setCell ⟨w.heap.size + 1, 2, none⟩ (.slice none 0 0)).setCell ⟨w.heap.size + 1, 3, none⟩ (.int .i64 0)) := ((((U7.out.bl.setCell (by simp <;> omega) _).setCell (by simp <;> omega) _).setCell (by simp <;> omega) _).setCell (by simp <;> omega) _)
      have ZO : OwnLA2 ((((w7.setCell ⟨w.heap.size + 1, 0, none⟩ (.int .i64 0)).setCell ⟨w.heap.size + 1, 1, none⟩ (.int .i64 0)).setCell ⟨w.heap.size + 1, 2, none⟩ (.slice none 0 0)).setCell ⟨w.heap.size + 1, 3, none⟩ (.int .i64 0)) w.heap.size none 0 C := .inl rfl
      generalize ((((w7.setCell ⟨w.heap.size + 1, 0, none⟩ (.int .i64 0)).setCell ⟨w.heap.size + 1, 1, none⟩ (.int .i64 0)).setCell ⟨w.heap.size + 1, 2, none⟩ (.slice none 0 0)).setCell ⟨w.heap.size + 1, 3, none⟩ (.int .i64 0)) = Z at ZC ZB ZO ⊢
      have z0 : Z.cell? ⟨w.heap.size + 1, 0, none⟩ = some (.int .i64 0) := ZC.cell 0
      have z1 : Z.cell? ⟨w.heap.size + 1, 1, none⟩ = some (.int .i64 0) := ZC.cell 1
      have z2 : Z.cell? ⟨w.heap.size + 1, 2, none⟩ = some (.slice none 0 0) := ZC.cell 2
      have z3 : Z.cell? ⟨w.heap.size + 1, 3, none⟩ = some (.int .i64 0) := ZC.cell 3
      refine bodyPost_ret (v := .tuple #[.agg #[.int .i64 0, .int .i64 0, .slice none 0 0, .int .i64 0], .bool false]) (by simp [results, Try.results31, go_sem, z0, z1, z2, z3]; try rfl) rfl ?_
      exact ⟨_, _, rfl, ZO, ZB⟩
    · obtain rfl : BV = true := by rw [← HTB.out, hw]
      have HWN := hid hw
      clear hw
      go_wp2_with (go_at_call 18; refine (implWorth_eq _ _ _ _ _ _ C true _ HNI.out OF.out.row HWN.out).mono ?_; rintro e w7 ⟨rfl, b7⟩; have U7 := hid (UF.out.below b7); have N7 := hid (NF.out.below b7 NF.out.lt); have O7 := hid (OF.out.below b7); have x0 : w7.cell? ⟨w.heap.size + 1, 0, none⟩ = some (.int .i64 0) := U7.out.rs.cell 0; have x1 : w7.cell? ⟨w.heap.size + 1, 1, none⟩ = some (.int .i64 0) := U7.out.rs.cell 1; have x2 : w7.cell? ⟨w.heap.size + 1, 2, none⟩ = some (.slice none 0 0) := U7.out.rs.cell 2; have x3 : w7.cell? ⟨w.heap.size + 1, 3, none⟩ = some (.int .i64 0) := U7.out.rs.cell 3; have f0 := U7.out.rs.fr 0; have f1 := U7.out.rs.fr 1; have f2 := U7.out.rs.fr 2; have f3 := U7.out.rs.fr 3; have m0 : w7.cell? ⟨nb, 0, none⟩ = some (.int .i64 4) := N7.out.cell 0; have m1 : w7.cell? ⟨nb, 1, none⟩ = some (.int .i64 p) := N7.out.cell 1; have m2 : w7.cell? ⟨nb, 2, none⟩ = some (.slice ad6 N cp6) := N7.out.cell 2; have m3 : w7.cell? ⟨nb, 3, none⟩ = some (.int .i64 O) := N7.out.cell 3; clear b7)
      have ZC : CB ((((w7.setCell ⟨w.heap.size + 1, 0, none⟩ (.int .i64 4)).setCell ⟨w.heap.size + 1, 1, none⟩ (.int .i64 p)).setCell ⟨w.heap.size + 1, 2, none⟩ (.slice ad6 N cp6)).setCell ⟨w.heap.size + 1, 3, none⟩ (.int .i64 O)) (w.heap.size + 1) #[.int .i64 4, .int .i64 p, .slice ad6 N cp6, .int .i64 O] 26 := set4 U7.out.rs
      have ZB : Below w.heap.size w ((((w7.setCell ⟨w.heap.size + 1, 0, none⟩ (.int .i64 4)).setCell ⟨w.heap.size + 1, 1, none⟩ (.int .i64 p)).setCell ⟨w.heap.size + 1, 2, none⟩ (.slice ad6 N cp6)).setCell ⟨w.heap.size + 1, 3, none⟩ (.int .i64 O)) := ((((U7.out.bl.setCell (by simp <;> omega) _).setCell (by simp <;> omega) _).setCell (by simp <;> omega) _).setCell (by simp <;> omega) _)
      have ZO : OwnLA2 ((((w7.setCell ⟨w.heap.size + 1, 0, none⟩ (.int .i64 4)).setCell ⟨w.heap.size + 1, 1, none⟩ (.int .i64 p)).setCell ⟨w.heap.size + 1, 2, none⟩ (.slice ad6 N cp6)).setCell ⟨w.heap.size + 1, 3, none⟩ (.int .i64 O)) w.heap.size ad6 N C := (O7.out.keep (fun g hg => keep4 (by have := HNG.out g hg; omega))).mono (by omega)
      generalize ((((w7.setCell ⟨w.heap.size + 1, 0, none⟩ (.int .i64 4)).setCell ⟨w.heap.size + 1, 1, none⟩ (.int .i64 p)).setCell ⟨w.heap.size + 1, 2, none⟩ (.slice ad6 N cp6)).setCell ⟨w.heap.size + 1, 3, none⟩ (.int .i64 O)) = Z at ZC ZB ZO ⊢
      have z0 : Z.cell? ⟨w.heap.size + 1, 0, none⟩ = some (.int .i64 4) := ZC.cell 0
      have z1 : Z.cell? ⟨w.heap.size + 1, 1, none⟩ = some (.int .i64 p) := ZC.cell 1
      have z2 : Z.cell? ⟨w.heap.size + 1, 2, none⟩ = some (.slice ad6 N cp6) := ZC.cell 2
      have z3 : Z.cell? ⟨w.heap.size + 1, 3, none⟩ = some (.int .i64 O) := ZC.cell 3
      refine bodyPost_ret (v := .tuple #[.agg #[.int .i64 4, .int .i64 p, .slice ad6 N cp6, .int .i64 O], .bool true]) (by simp [results, Try.results31, go_sem, z0, z1, z2, z3]; try rfl) rfl ?_
      exact ⟨_, _, rfl, ZO, ZB⟩

end Go.Proofs.Ytdgccdlaokbnhaa
