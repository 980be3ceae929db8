/- Reverse, the program's. Reverse, the model's. What stands by while the law of Reverse is walked. -/
import Derived.Test.YtgnhpjlfdkpaiaaDoorRV1
import Derived.Test.YtgnhpjlfdkpaiaaDoorRV1
import Derived.Test.YtgnhpjlfdkpaiaaDoorGe
import Derived.Test.YtgnhpjlfdkpaiaaDoorLg
import Derived.Test.YtgnhpjlfdkpaiaaDoorSg
import Derived.Test.YtgnhpjlfdkpaiaaDoorSk
import Derived.Test.YtgnhpjlfdkpaiaaDoorHs
import Derived.Test.YtgnhpjlfdkpaiaaDoorLl
import Derived.Test.YtgnhpjlfdkpaiaaDoorGg
namespace Go.Proofs.YtgnhpjlfdkpaiaaDoor
open Go Go.ChangeShapes Go.WideShapes Go.ChangeAt Go.RowKit Go.Lib
set_option linter.unusedVariables false
set_option linter.unusedSimpArgs false

def RvOk (len : Nat) (c : Nat → C3) (d u : Int) (n : Nat) (es : Nat → E4) (hd at_ day : Int) : Prop := leB len c d u n es hd = true ∧ (0 ≤ at_ ∧ at_ < (n : Int)) ∧ (0 ≤ day ∧ day ≤ 40000)
open Classical in
noncomputable def rvB (len : Nat) (c : Nat → C3) (d u : Int) (n : Nat) (es : Nat → E4) (hd at_ day : Int) : Bool := decide (RvOk len c d u n es hd at_ day)
def rvT (x : Nat) : ByteArray := (⟨#[114, 101, 118, 101, 114, 115, 101, 32]⟩ : ByteArray) ++ strB (decDigits x)
open Classical in
noncomputable def rvE (len : Nat) (c : Nat → C3) (d u : Int) (n : Nat) (es : Nat → E4) (hd at_ day : Int) : E4 :=
  if RvOk len c d u n es hd at_ day then ⟨day, at_ + 1, rvT (at_.toNat + 1), (es at_.toNat).n, fun j => rvL ((es at_.toNat).ls j)⟩ else ⟨0, 0, ⟨#[]⟩, 0, fun _ => L5.zero⟩
section
variable {len : Nat} {c : Nat → C3} {d u : Int} {n : Nat} {es : Nat → E4} {hd at_ day : Int}
open Classical in
theorem rvB_t (h : RvOk len c d u n es hd at_ day) : rvB len c d u n es hd at_ day = true := decide_eq_true h
open Classical in
theorem rvB_f (h : ¬ RvOk len c d u n es hd at_ day) : rvB len c d u n es hd at_ day = false := decide_eq_false h
theorem rvE_t (h : RvOk len c d u n es hd at_ day) : rvE len c d u n es hd at_ day = ⟨day, at_ + 1, rvT (at_.toNat + 1), (es at_.toNat).n, fun j => rvL ((es at_.toNat).ls j)⟩ := if_pos h
theorem rvE_f (h : ¬ RvOk len c d u n es hd at_ day) : rvE len c d u n es hd at_ day = ⟨0, 0, ⟨#[]⟩, 0, fun _ => L5.zero⟩ := if_neg h
end
theorem tab_lt {w : World} {n : String} {k : IntKind} {zs : List Int} {g : Nat} (hg : Tryd.prog.globalNamed n = some g) (h : Lib.TabIs Tryd.prog w n k zs) : g < w.heap.size := by
  unfold Lib.TabIs World.var? at h
  rw [hg] at h
  rcases Nat.lt_or_ge g w.heap.size with q | q
  · exact q
  · have e : w.heap[g]? = none := Array.getElem?_eq_none q
    simp [e] at h
set_option maxRecDepth 100000 in
theorem gPow : Tryd.prog.globalNamed "internal/strconv.uint64pow10" = some 7 := by kernel_rfl
def TP (w : World) : Prop := Lib.TabIs Tryd.prog w "internal/strconv.uint64pow10" .u64 Lib.pow10Tab
theorem TP.below {w w' : World} (h : TP w) (b : Below w.heap.size w w') : TP w' := tab_below gPow h b (tab_lt gPow h)
/-- What Reverse tells. -/
def RvI (R : E4) (B : Bool) (w : World) (e : Ending) (w' : World) : Prop :=
  ∃ ad cap, e = .returned (.tuple #[.agg #[.int .i64 R.day, .int .i64 R.ref, .string R.text, .slice ad R.n cap], .bool B]) ∧ NewL w.heap.size w'.heap.size w' ad R.n R.ls 56 ∧ Below w.heap.size w w'

set_option maxRecDepth 20000 in
set_option maxHeartbeats 4000000 in
theorem implReverse_no (fa : Option Addr) (len cap : Nat) (c : Nat → C3) (d u : Int) (ad : Option Addr) (n lcap : Nat) (es : Nat → E4) (hd at_ day : Int) (w : World) (hl : (len : Int) ≤ 1048576) (hc : ∀ j, (c j).code.size ≤ maxLen) (hr : CR w fa len c) (hE : EL w) (hL : ER w ad n es) (hn : (n : Int) ≤ 1048576) (hno : ¬ RvOk len c d u n es hd at_ day) :
    Calls Tryd.prog 23 #[.agg #[.slice fa len cap, .int .i64 d, .int .i64 u], .agg #[.slice ad n lcap, .int .i64 hd], .int .i64 at_, .int .i64 day] w (RvI (rvE len c d u n es hd at_ day) (rvB len c d u n es hd at_ day) w) := by
  rw [rvE_f hno, rvB_f hno]
  have B0 : Hid (Below w.heap.size w (((w.alloc (.cells #[.slice fa len cap, .int .i64 d, .int .i64 u] 26 (0, 0))).alloc (.cells #[.slice ad n lcap, .int .i64 hd] 29 (0, 0))).alloc (.cells #[.int .i64 0, .int .i64 0, .string ⟨#[]⟩, .slice none 0 0] 32 (0, 0)))) := (((Below.refl _ _).alloc (Nat.le_refl _) _).alloc (by simp) _).alloc (by simp <;> omega) _
  have HC : Hid (Calls Tryd.prog 17 #[.agg #[.slice fa len cap, .int .i64 d, .int .i64 u], .agg #[.slice ad n lcap, .int .i64 hd]] (((w.alloc (.cells #[.slice fa len cap, .int .i64 d, .int .i64 u] 26 (0, 0))).alloc (.cells #[.slice ad n lcap, .int .i64 hd] 29 (0, 0))).alloc (.cells #[.int .i64 0, .int .i64 0, .string ⟨#[]⟩, .slice none 0 0] 32 (0, 0))) _) := implLedger_any fa len cap c d u ad n lcap es hd _ hl hc (((hr.alloc _).alloc _).alloc _) (((hE.alloc' _).alloc' _).alloc' _) (((hL.alloc _).alloc _).alloc _)
  have HNO : Hid (¬ RvOk len c d u n es hd at_ day) := hno
  cases hX : leB len c d u n es hd with
  | false =>
    rw [hX] at HC
    clear hX hr hE hL hc hno HNO
    go_enter Tryd.func23, Tryd.ntmps23
    go_wp2_with (first
    | (go_at_call 17; go_loud (refine HC.out.mono ?_; rintro e w1 ⟨rfl, b1⟩; have c8 : CB w1 (w.heap.size + 1 + 1) #[.int .i64 0, .int .i64 0, .string ⟨#[]⟩, .slice none 0 0] 32 := (CB.newAt (by simp) _ _).below b1 (by simp); have c5 : CB w1 (w.heap.size + 1) #[.slice ad n lcap, .int .i64 hd] 29 := ((CB.newAt (by simp) _ _).alloc _).below b1 (by simp <;> omega); have HB1 : Hid (Below w.heap.size w w1) := bel_on B0.out b1; have HC8 : Hid (CB w1 (w.heap.size + 1 + 1) #[.int .i64 0, .int .i64 0, .string ⟨#[]⟩, .slice none 0 0] 32) := c8; have k0 := c8.fr 0; have k1 := c8.fr 1; have k2 := c8.fr 2; have k3 := c8.fr 3; have q0 : w1.cell? ⟨w.heap.size + 1 + 1, 0, none⟩ = some (.int .i64 0) := (c8.cell 0).trans rfl; have q1 : w1.cell? ⟨w.heap.size + 1 + 1, 1, none⟩ = some (.int .i64 0) := (c8.cell 1).trans rfl; have q2 : w1.cell? ⟨w.heap.size + 1 + 1, 2, none⟩ = some (.string ⟨#[]⟩) := (c8.cell 2).trans rfl; have q3 : w1.cell? ⟨w.heap.size + 1 + 1, 3, none⟩ = some (.slice none 0 0) := (c8.cell 3).trans rfl; have l0 : w1.cell? ⟨w.heap.size + 1, 0, none⟩ = some (.slice ad n lcap) := (c5.cell 0).trans rfl; clear b1 c8 c5 HC B0)))
    have hX := (((HC8.out.set 0 (.int .i64 0)).set 1 (.int .i64 0)).set 2 (.string ⟨#[]⟩)).set 3 (.slice none 0 0)
    have hZ := (((HB1.out.setCell (p := ⟨w.heap.size + 1 + 1, 0, none⟩) (by simp <;> omega) (.int .i64 0)).setCell (p := ⟨w.heap.size + 1 + 1, 1, none⟩) (by simp <;> omega) (.int .i64 0)).setCell (p := ⟨w.heap.size + 1 + 1, 2, none⟩) (by simp <;> omega) (.string ⟨#[]⟩)).setCell (p := ⟨w.heap.size + 1 + 1, 3, none⟩) (by simp <;> omega) (.slice none 0 0)
    have e0 := hX.cell 0
    have e1 := hX.cell 1
    have e2 := hX.cell 2
    have e3 := hX.cell 3
    simp at e0 e1 e2 e3
    clear hX k0 k1 k2 k3 q0 q1 q2 q3 l0 HC8 HB1
    generalize (World.setCell _ _ _) = W5 at e0 e1 e2 e3 hZ ⊢
    refine bodyPost_ret (by simp [results, Tryd.results23, go_sem, e0, e1, e2, e3]; try rfl) rfl ?_
    exact ⟨_, _, rfl, .inl rfl, hZ⟩
  | true =>
    rw [hX] at HC
    clear hr hE hL hc
    by_cases ha : at_ < 0
    · clear hX hno HNO
      go_enter Tryd.func23, Tryd.ntmps23
      go_wp2_with (first
    | (go_at_call 17; go_loud (refine HC.out.mono ?_; rintro e w1 ⟨rfl, b1⟩; have c8 : CB w1 (w.heap.size + 1 + 1) #[.int .i64 0, .int .i64 0, .string ⟨#[]⟩, .slice none 0 0] 32 := (CB.newAt (by simp) _ _).below b1 (by simp); have c5 : CB w1 (w.heap.size + 1) #[.slice ad n lcap, .int .i64 hd] 29 := ((CB.newAt (by simp) _ _).alloc _).below b1 (by simp <;> omega); have HB1 : Hid (Below w.heap.size w w1) := bel_on B0.out b1; have HC8 : Hid (CB w1 (w.heap.size + 1 + 1) #[.int .i64 0, .int .i64 0, .string ⟨#[]⟩, .slice none 0 0] 32) := c8; have k0 := c8.fr 0; have k1 := c8.fr 1; have k2 := c8.fr 2; have k3 := c8.fr 3; have q0 : w1.cell? ⟨w.heap.size + 1 + 1, 0, none⟩ = some (.int .i64 0) := (c8.cell 0).trans rfl; have q1 : w1.cell? ⟨w.heap.size + 1 + 1, 1, none⟩ = some (.int .i64 0) := (c8.cell 1).trans rfl; have q2 : w1.cell? ⟨w.heap.size + 1 + 1, 2, none⟩ = some (.string ⟨#[]⟩) := (c8.cell 2).trans rfl; have q3 : w1.cell? ⟨w.heap.size + 1 + 1, 3, none⟩ = some (.slice none 0 0) := (c8.cell 3).trans rfl; have l0 : w1.cell? ⟨w.heap.size + 1, 0, none⟩ = some (.slice ad n lcap) := (c5.cell 0).trans rfl; clear b1 c8 c5 HC B0)))
      have hX := (((HC8.out.set 0 (.int .i64 0)).set 1 (.int .i64 0)).set 2 (.string ⟨#[]⟩)).set 3 (.slice none 0 0)
      have hZ := (((HB1.out.setCell (p := ⟨w.heap.size + 1 + 1, 0, none⟩) (by simp <;> omega) (.int .i64 0)).setCell (p := ⟨w.heap.size + 1 + 1, 1, none⟩) (by simp <;> omega) (.int .i64 0)).setCell (p := ⟨w.heap.size + 1 + 1, 2, none⟩) (by simp <;> omega) (.string ⟨#[]⟩)).setCell (p := ⟨w.heap.size + 1 + 1, 3, none⟩) (by simp <;> omega) (.slice none 0 0)
      have e0 := hX.cell 0
      have e1 := hX.cell 1
      have e2 := hX.cell 2
      have e3 := hX.cell 3
      simp at e0 e1 e2 e3
      clear hX k0 k1 k2 k3 q0 q1 q2 q3 l0 HC8 HB1
      generalize (World.setCell _ _ _) = W5 at e0 e1 e2 e3 hZ ⊢
      refine bodyPost_ret (by simp [results, Tryd.results23, go_sem, e0, e1, e2, e3]; try rfl) rfl ?_
      exact ⟨_, _, rfl, .inl rfl, hZ⟩
    · by_cases hb : (n : Int) ≤ at_
      · clear hX hno HNO
        go_enter Tryd.func23, Tryd.ntmps23
        go_wp2_with (first
    | (go_at_call 17; go_loud (refine HC.out.mono ?_; rintro e w1 ⟨rfl, b1⟩; have c8 : CB w1 (w.heap.size + 1 + 1) #[.int .i64 0, .int .i64 0, .string ⟨#[]⟩, .slice none 0 0] 32 := (CB.newAt (by simp) _ _).below b1 (by simp); have c5 : CB w1 (w.heap.size + 1) #[.slice ad n lcap, .int .i64 hd] 29 := ((CB.newAt (by simp) _ _).alloc _).below b1 (by simp <;> omega); have HB1 : Hid (Below w.heap.size w w1) := bel_on B0.out b1; have HC8 : Hid (CB w1 (w.heap.size + 1 + 1) #[.int .i64 0, .int .i64 0, .string ⟨#[]⟩, .slice none 0 0] 32) := c8; have k0 := c8.fr 0; have k1 := c8.fr 1; have k2 := c8.fr 2; have k3 := c8.fr 3; have q0 : w1.cell? ⟨w.heap.size + 1 + 1, 0, none⟩ = some (.int .i64 0) := (c8.cell 0).trans rfl; have q1 : w1.cell? ⟨w.heap.size + 1 + 1, 1, none⟩ = some (.int .i64 0) := (c8.cell 1).trans rfl; have q2 : w1.cell? ⟨w.heap.size + 1 + 1, 2, none⟩ = some (.string ⟨#[]⟩) := (c8.cell 2).trans rfl; have q3 : w1.cell? ⟨w.heap.size + 1 + 1, 3, none⟩ = some (.slice none 0 0) := (c8.cell 3).trans rfl; have l0 : w1.cell? ⟨w.heap.size + 1, 0, none⟩ = some (.slice ad n lcap) := (c5.cell 0).trans rfl; clear b1 c8 c5 HC B0)))
        have hX := (((HC8.out.set 0 (.int .i64 0)).set 1 (.int .i64 0)).set 2 (.string ⟨#[]⟩)).set 3 (.slice none 0 0)
        have hZ := (((HB1.out.setCell (p := ⟨w.heap.size + 1 + 1, 0, none⟩) (by simp <;> omega) (.int .i64 0)).setCell (p := ⟨w.heap.size + 1 + 1, 1, none⟩) (by simp <;> omega) (.int .i64 0)).setCell (p := ⟨w.heap.size + 1 + 1, 2, none⟩) (by simp <;> omega) (.string ⟨#[]⟩)).setCell (p := ⟨w.heap.size + 1 + 1, 3, none⟩) (by simp <;> omega) (.slice none 0 0)
        have e0 := hX.cell 0
        have e1 := hX.cell 1
        have e2 := hX.cell 2
        have e3 := hX.cell 3
        simp at e0 e1 e2 e3
        clear hX k0 k1 k2 k3 q0 q1 q2 q3 l0 HC8 HB1
        generalize (World.setCell _ _ _) = W5 at e0 e1 e2 e3 hZ ⊢
        refine bodyPost_ret (by simp [results, Tryd.results23, go_sem, e0, e1, e2, e3]; try rfl) rfl ?_
        exact ⟨_, _, rfl, .inl rfl, hZ⟩
      · have hday : inB day 0 40000 = false := by
          cases q : inB day 0 40000 with
          | false => rfl
          | true => exact absurd ⟨hX, ⟨by omega, by omega⟩, inB_iff.1 q⟩ hno
        clear hX hno HNO
        go_enter Tryd.func23, Tryd.ntmps23
        go_wp2_with (first
    | (go_at_call 17; go_loud (refine HC.out.mono ?_; rintro e w1 ⟨rfl, b1⟩; have c8 : CB w1 (w.heap.size + 1 + 1) #[.int .i64 0, .int .i64 0, .string ⟨#[]⟩, .slice none 0 0] 32 := (CB.newAt (by simp) _ _).below b1 (by simp); have c5 : CB w1 (w.heap.size + 1) #[.slice ad n lcap, .int .i64 hd] 29 := ((CB.newAt (by simp) _ _).alloc _).below b1 (by simp <;> omega); have HB1 : Hid (Below w.heap.size w w1) := bel_on B0.out b1; have HC8 : Hid (CB w1 (w.heap.size + 1 + 1) #[.int .i64 0, .int .i64 0, .string ⟨#[]⟩, .slice none 0 0] 32) := c8; have k0 := c8.fr 0; have k1 := c8.fr 1; have k2 := c8.fr 2; have k3 := c8.fr 3; have q0 : w1.cell? ⟨w.heap.size + 1 + 1, 0, none⟩ = some (.int .i64 0) := (c8.cell 0).trans rfl; have q1 : w1.cell? ⟨w.heap.size + 1 + 1, 1, none⟩ = some (.int .i64 0) := (c8.cell 1).trans rfl; have q2 : w1.cell? ⟨w.heap.size + 1 + 1, 2, none⟩ = some (.string ⟨#[]⟩) := (c8.cell 2).trans rfl; have q3 : w1.cell? ⟨w.heap.size + 1 + 1, 3, none⟩ = some (.slice none 0 0) := (c8.cell 3).trans rfl; have l0 : w1.cell? ⟨w.heap.size + 1, 0, none⟩ = some (.slice ad n lcap) := (c5.cell 0).trans rfl; clear b1 c8 c5 HC B0))
    | (go_at_call 79; refine (isDay_any _ _).mono ?_; rintro e w2 ⟨rfl, ew⟩; replace ew := ew.symm; subst ew; rw [hday]))
        have hX := (((HC8.out.set 0 (.int .i64 0)).set 1 (.int .i64 0)).set 2 (.string ⟨#[]⟩)).set 3 (.slice none 0 0)
        have hZ := (((HB1.out.setCell (p := ⟨w.heap.size + 1 + 1, 0, none⟩) (by simp <;> omega) (.int .i64 0)).setCell (p := ⟨w.heap.size + 1 + 1, 1, none⟩) (by simp <;> omega) (.int .i64 0)).setCell (p := ⟨w.heap.size + 1 + 1, 2, none⟩) (by simp <;> omega) (.string ⟨#[]⟩)).setCell (p := ⟨w.heap.size + 1 + 1, 3, none⟩) (by simp <;> omega) (.slice none 0 0)
        have e0 := hX.cell 0
        have e1 := hX.cell 1
        have e2 := hX.cell 2
        have e3 := hX.cell 3
        simp at e0 e1 e2 e3
        clear hX k0 k1 k2 k3 q0 q1 q2 q3 l0 HC8 HB1
        generalize (World.setCell _ _ _) = W5 at e0 e1 e2 e3 hZ ⊢
        refine bodyPost_ret (by simp [results, Tryd.results23, go_sem, e0, e1, e2, e3]; try rfl) rfl ?_
        exact ⟨_, _, rfl, .inl rfl, hZ⟩

set_option maxRecDepth 20000 in
set_option maxHeartbeats 4000000 in
theorem implReverse_ok (fa : Option Addr) (len cap : Nat) (c : Nat → C3) (d u : Int) (ad : Option Addr) (n lcap : Nat) (es : Nat → E4) (hd day : Int) (k : Nat) (w : World) (hl : (len : Int) ≤ 1048576) (hc : ∀ j, (c j).code.size ≤ maxLen) (hr : CR w fa len c) (hE : EL w) (hL : ER w ad n es) (hT : TP w) (hn : (n : Int) ≤ 1048576) (hok : RvOk len c d u n es hd (k : Int) day) :
    Calls Tryd.prog 23 #[.agg #[.slice fa len cap, .int .i64 d, .int .i64 u], .agg #[.slice ad n lcap, .int .i64 hd], .int .i64 (k : Int), .int .i64 day] w (RvI (rvE len c d u n es hd (k : Int) day) (rvB len c d u n es hd (k : Int) day) w) := by
  rw [rvE_t hok, rvB_t hok]
  have B0 : Hid (Below w.heap.size w (((w.alloc (.cells #[.slice fa len cap, .int .i64 d, .int .i64 u] 26 (0, 0))).alloc (.cells #[.slice ad n lcap, .int .i64 hd] 29 (0, 0))).alloc (.cells #[.int .i64 0, .int .i64 0, .string ⟨#[]⟩, .slice none 0 0] 32 (0, 0)))) := (((Below.refl _ _).alloc (Nat.le_refl _) _).alloc (by simp) _).alloc (by simp <;> omega) _
  have HC : Hid (Calls Tryd.prog 17 #[.agg #[.slice fa len cap, .int .i64 d, .int .i64 u], .agg #[.slice ad n lcap, .int .i64 hd]] (((w.alloc (.cells #[.slice fa len cap, .int .i64 d, .int .i64 u] 26 (0, 0))).alloc (.cells #[.slice ad n lcap, .int .i64 hd] 29 (0, 0))).alloc (.cells #[.int .i64 0, .int .i64 0, .string ⟨#[]⟩, .slice none 0 0] 32 (0, 0))) _) := implLedger_any fa len cap c d u ad n lcap es hd _ hl hc (((hr.alloc _).alloc _).alloc _) (((hE.alloc' _).alloc' _).alloc' _) (((hL.alloc _).alloc _).alloc _)
  rw [hok.1] at HC
  have hkn : k < n := by have := hok.2.1.2; omega
  have hkni : (k : Int) < (n : Int) := by omega
  have hday : inB day 0 40000 = true := inB_iff.2 hok.2.2
  obtain ⟨l1, l2, l3, l4⟩ := leB_out hok.1
  obtain ⟨_, _, _, _, s1⟩ := enB_out (l3 k hkn)
  obtain ⟨s2, s3, s4, _⟩ := lsB_out s1
  have HAM : Hid (∀ j, j < (es k).n → (-100000000000 ≤ ((es k).ls j).amt ∧ ((es k).ls j).amt ≤ 100000000000) ∧ (-100000000000 ≤ ((es k).ls j).base ∧ ((es k).ls j).base ≤ 100000000000)) := fun j hj => by
    have := s4 j hj
    unfold lnB at this
    simp only [Bool.and_eq_true] at this
    exact ⟨inB_iff.1 this.2.2.2.1, inB_iff.1 this.2.2.2.2.1⟩
  have hk3 : (k : Int) < 1000 := by omega
  obtain ⟨kb, off, rfl, hkb⟩ := hL.addr (by omega)
  have HL : Hid (ER w (some ⟨kb, off, none⟩) n es) := hL
  have HT : Hid (TP w) := hT
  have htx : rvT ((k : Int).toNat + 1) = (⟨#[114, 101, 118, 101, 114, 115, 101, 32]⟩ : ByteArray) ++ strB (decDigits (k + 1)) := by unfold rvT; simp
  have HTX : Hid (rvT ((k : Int).toNat + 1) = (⟨#[114, 101, 118, 101, 114, 115, 101, 32]⟩ : ByteArray) ++ strB (decDigits (k + 1))) := htx
  obtain ⟨A, hA⟩ : ∃ A, strB (decDigits (k + 1)) = A := ⟨_, rfl⟩
  rw [hA] at HTX
  have HA : Hid (strB (decDigits (k + 1)) = A) := hA
  have sA : A.size ≤ 100 := by rw [← hA, strB_size]; have := dec_len_le (k + 1) (by omega); omega
  have hk1 : (k : Int) + 1 = ((k + 1 : Nat) : Int) := by omega
  have HK1 : Hid ((k : Int) + 1 = ((k + 1 : Nat) : Int)) := hk1
  have HN60 : Hid ((es k).n ≤ 60) := s3
  have hkt : (k : Int).toNat = k := by omega
  clear hok hr hE hL hc hT l1 l2 l3 l4 s1 s2 s3 s4 hA hk1 htx
  go_enter Tryd.func23, Tryd.ntmps23
  go_wp2_with (first
    | (go_at_call 17; go_loud (refine HC.out.mono ?_; rintro e w1 ⟨rfl, b1⟩; have c8 : CB w1 (w.heap.size + 1 + 1) #[.int .i64 0, .int .i64 0, .string ⟨#[]⟩, .slice none 0 0] 32 := (CB.newAt (by simp) _ _).below b1 (by simp); have c5 : CB w1 (w.heap.size + 1) #[.slice (some ⟨kb, off, none⟩) n lcap, .int .i64 hd] 29 := ((CB.newAt (by simp) _ _).alloc _).below b1 (by simp <;> omega); have HB1 : Hid (Below w.heap.size w w1) := bel_on B0.out b1; have HC8 : Hid (CB w1 (w.heap.size + 1 + 1) #[.int .i64 0, .int .i64 0, .string ⟨#[]⟩, .slice none 0 0] 32) := c8; have k0 := c8.fr 0; have k1 := c8.fr 1; have k2 := c8.fr 2; have k3 := c8.fr 3; have q0 : w1.cell? ⟨w.heap.size + 1 + 1, 0, none⟩ = some (.int .i64 0) := (c8.cell 0).trans rfl; have q1 : w1.cell? ⟨w.heap.size + 1 + 1, 1, none⟩ = some (.int .i64 0) := (c8.cell 1).trans rfl; have q2 : w1.cell? ⟨w.heap.size + 1 + 1, 2, none⟩ = some (.string ⟨#[]⟩) := (c8.cell 2).trans rfl; have q3 : w1.cell? ⟨w.heap.size + 1 + 1, 3, none⟩ = some (.slice none 0 0) := (c8.cell 3).trans rfl; have l0 : w1.cell? ⟨w.heap.size + 1, 0, none⟩ = some (.slice (some ⟨kb, off, none⟩) n lcap) := (c5.cell 0).trans rfl; obtain ⟨x1, x2, x3, la, lc2, x4, x5⟩ : AtE w1 kb (off + k * 4) (es k) := (by rcases HL.out.below HB1.out with h | ⟨k', o', e, _, hcc⟩; (· omega); (· simp only [Option.some.injEq, Addr.mk.injEq] at e; obtain ⟨rfl, rfl, _⟩ := e; exact hcc k hkn)); have HLR : Hid (LR w1 la (es k).n (es k).ls) := x5; have HTP : Hid (TP w1) := HT.out.below HB1.out; clear b1 c8 c5 x5 HC B0))
    | (go_at_call 79; refine (isDay_any _ _).mono ?_; rintro e w2 ⟨rfl, ew⟩; replace ew := ew.symm; subst ew; rw [hday])
    | (go_at_call 80; go_loud (refine (reversed_any _ _ _ _ _ _ (es k).ls _ HN60.out HAM.out HLR.out).mono ?_; rintro e w3 ⟨b, rfl, hb3, o3, b3⟩; have HO3 : Hid (OwnL w3 b (es k).n (fun j => rvL ((es k).ls j)) 56) := o3; have HB3 : Hid (Below w.heap.size w w3) := bel_on HB1.out b3; have HC8' : Hid (CB w3 (w.heap.size + 1 + 1) #[.int .i64 0, .int .i64 0, .string ⟨#[]⟩, .slice none 0 0] 32) := HC8.out.below b3 HC8.out.lt; have HTP3 : Hid (TP w3) := HTP.out.below b3; clear o3 b3))
    | (go_at_call 81; go_loud (refine (itoa_at HK1.out (by omega) (HTP3.out.below ((Below.refl _ _).alloc (Nat.le_refl _) _))).mono ?_; rintro e w4 ⟨rfl, b4⟩; rw [HA.out]; have c10 : CB w4 w3.heap.size #[.int .i64 day, .int .i64 ((k : Int) + 1), .string (es k).text, .slice (some ⟨b, 0, none⟩) (es k).n (es k).n] 32 := (CB.new _ _).below b4 (by simp); have c8 : CB w4 (w.heap.size + 1 + 1) #[.int .i64 0, .int .i64 0, .string ⟨#[]⟩, .slice none 0 0] 32 := (HC8'.out.alloc _).below b4 (by have := HC8'.out.lt; simp <;> omega); have HO4 : Hid (OwnL w4 b (es k).n (fun j => rvL ((es k).ls j)) 56) := OwnL.below (HO3.out.below ((Below.refl _ _).alloc (Nat.le_refl _) _) HO3.out.lt) b4 (by have := HO3.out.lt; simp <;> omega); have HB4 : Hid (Below w.heap.size w w4) := bel_on (HB3.out.alloc HB3.out.size _) b4; have HC10 : Hid (CB w4 w3.heap.size #[.int .i64 day, .int .i64 ((k : Int) + 1), .string (es k).text, .slice (some ⟨b, 0, none⟩) (es k).n (es k).n] 32) := c10; have HC84 : Hid (CB w4 (w.heap.size + 1 + 1) #[.int .i64 0, .int .i64 0, .string ⟨#[]⟩, .slice none 0 0] 32) := c8; have hlt83 := HC8'.out.lt; have hne83 : w.heap.size + 1 + 1 ≠ w3.heap.size := (by omega); have hne38 : w3.heap.size ≠ w.heap.size + 1 + 1 := (by omega); clear k0 k1 k2 k3 q0 q1 q2 q3; have k0 := c8.fr 0; have k1 := c8.fr 1; have k2 := c8.fr 2; have k3 := c8.fr 3; have q0 : w4.cell? ⟨w.heap.size + 1 + 1, 0, none⟩ = some (.int .i64 0) := (c8.cell 0).trans rfl; have q1 : w4.cell? ⟨w.heap.size + 1 + 1, 1, none⟩ = some (.int .i64 0) := (c8.cell 1).trans rfl; have q2 : w4.cell? ⟨w.heap.size + 1 + 1, 2, none⟩ = some (.string ⟨#[]⟩) := (c8.cell 2).trans rfl; have q3 : w4.cell? ⟨w.heap.size + 1 + 1, 3, none⟩ = some (.slice none 0 0) := (c8.cell 3).trans rfl; have m0 := c10.fr 0; have m1 := c10.fr 1; have m2 := c10.fr 2; have m3 := c10.fr 3; have n0 : w4.cell? ⟨w3.heap.size, 0, none⟩ = some (.int .i64 day) := (c10.cell 0).trans rfl; have n1 : w4.cell? ⟨w3.heap.size, 1, none⟩ = some (.int .i64 ((k : Int) + 1)) := (c10.cell 1).trans rfl; have n2 : w4.cell? ⟨w3.heap.size, 2, none⟩ = some (.string (es k).text) := (c10.cell 2).trans rfl; have n3 : w4.cell? ⟨w3.heap.size, 3, none⟩ = some (.slice (some ⟨b, 0, none⟩) (es k).n (es k).n) := (c10.cell 3).trans rfl; clear b4 c8 c10)))
  obtain ⟨S, hS⟩ : ∃ S, (⟨#[114, 101, 118, 101, 114, 115, 101, 32]⟩ : ByteArray) ++ A = S := ⟨_, rfl⟩
  rw [hS]
  rw [hS] at HTX
  have hb1 := HB1.out.size
  have hlb := HO3.out.lt
  have hl8 : w.heap.size + 1 + 1 < w1.heap.size := HC8.out.lt
  have hX := ((((HC84.out.other (c := w3.heap.size) (o := 2) (.string S) (by omega)).set 0 (.int .i64 day)).set 1 (.int .i64 ((k : Int) + 1))).set 2 (.string S)).set 3 (.slice (some ⟨b, 0, none⟩) (es k).n (es k).n)
  have hY := ((((HO4.out.other (c := w3.heap.size) (o := 2) (v := .string S) (by omega)).other (c := w.heap.size + 1 + 1) (o := 0) (v := .int .i64 day) (by omega)).other (c := w.heap.size + 1 + 1) (o := 1) (v := .int .i64 ((k : Int) + 1)) (by omega)).other (c := w.heap.size + 1 + 1) (o := 2) (v := .string S) (by omega)).other (c := w.heap.size + 1 + 1) (o := 3) (v := .slice (some ⟨b, 0, none⟩) (es k).n (es k).n) (by omega)
  have hZ := ((((HB4.out.setCell (p := ⟨w3.heap.size, 2, none⟩) (by show w.heap.size ≤ w3.heap.size; omega) (.string S)).setCell (p := ⟨w.heap.size + 1 + 1, 0, none⟩) (by simp <;> omega) (.int .i64 day)).setCell (p := ⟨w.heap.size + 1 + 1, 1, none⟩) (by simp <;> omega) (.int .i64 ((k : Int) + 1))).setCell (p := ⟨w.heap.size + 1 + 1, 2, none⟩) (by simp <;> omega) (.string S)).setCell (p := ⟨w.heap.size + 1 + 1, 3, none⟩) (by simp <;> omega) (.slice (some ⟨b, 0, none⟩) (es k).n (es k).n)
  have e0 := hX.cell 0
  have e1 := hX.cell 1
  have e2 := hX.cell 2
  have e3 := hX.cell 3
  simp at e0 e1 e2 e3
  clear hX k0 k1 k2 k3 q0 q1 q2 q3 m0 m1 m2 m3 n0 n1 n2 n3 x1 x2 x3 x4 l0
  generalize (World.setCell _ _ _) = W5 at e0 e1 e2 e3 hY hZ ⊢
  refine bodyPost_ret (by simp [results, Tryd.results23, go_sem, e0, e1, e2, e3]; try rfl) rfl ?_
  rw [HTX.out, hkt]
  exact ⟨_, _, rfl, .inr ⟨b, rfl, ⟨by omega, hY.lt⟩, hY⟩, hZ⟩
theorem implReverse_any (fa : Option Addr) (len cap : Nat) (c : Nat → C3) (d u : Int) (ad : Option Addr) (n lcap : Nat) (es : Nat → E4) (hd at_ day : Int) (w : World) (hl : (len : Int) ≤ 1048576) (hc : ∀ j, (c j).code.size ≤ maxLen) (hr : CR w fa len c) (hE : EL w) (hL : ER w ad n es) (hT : TP w) (hn : (n : Int) ≤ 1048576) :
    Calls Tryd.prog 23 #[.agg #[.slice fa len cap, .int .i64 d, .int .i64 u], .agg #[.slice ad n lcap, .int .i64 hd], .int .i64 at_, .int .i64 day] w (RvI (rvE len c d u n es hd at_ day) (rvB len c d u n es hd at_ day) w) := by
  by_cases h : RvOk len c d u n es hd at_ day
  · obtain ⟨k, rfl⟩ : ∃ k : Nat, at_ = (k : Int) := ⟨at_.toNat, by have := h.2.1; omega⟩
    exact implReverse_ok fa len cap c d u ad n lcap es hd day k w hl hc hr hE hL hT hn h
  · exact implReverse_no fa len cap c d u ad n lcap es hd at_ day w hl hc hr hE hL hn h
end Go.Proofs.YtgnhpjlfdkpaiaaDoor

namespace Go.Proofs.YtgnhpjlfdkpaiaaDoor
open Go Go.ChangeShapes Go.WideShapes Go.ChangeAt Go.RowKit Go.Lib
set_option linter.unusedVariables false
set_option linter.unusedSimpArgs false

/-- A slice of lines that was made behind lo. -/
def NewR (lo : Nat) (w : World) (ad : Option Addr) (n : Nat) (ls : Nat → L5) : Prop := n = 0 ∨ ∃ b, ad = some ⟨b, 0, none⟩ ∧ lo ≤ b ∧ LR w (some ⟨b, 0, none⟩) n ls
def RvS (R : E4) (B : Bool) (w : World) (e : Ending) (w' : World) : Prop :=
  ∃ ad cap, e = .returned (.tuple #[.agg #[.int .i64 R.day, .int .i64 R.ref, .string R.text, .slice ad R.n cap], .bool B]) ∧ NewR w.heap.size w' ad R.n R.ls ∧ Below w.heap.size w w'

set_option maxRecDepth 20000 in
set_option maxHeartbeats 4000000 in
theorem specReverse_no (fa : Option Addr) (len cap : Nat) (c : Nat → C3) (d u : Int) (ad : Option Addr) (n lcap : Nat) (es : Nat → E4) (hd at_ day : Int) (w : World) (hl : (len : Int) ≤ 1048576) (hc : ∀ j, (c j).code.size ≤ maxLen) (hr : CR w fa len c) (hL : ER w ad n es) (ht : ∀ j, ((es j).text.size : Int) ≤ 9223372036854775807) (hnn : ∀ j, j < n → ((es j).n : Int) ≤ 1048576) (hn : (n : Int) ≤ 1048576) (hno : ¬ RvOk len c d u n es hd at_ day) :
    Calls Tryd.prog 24 #[.agg #[.slice fa len cap, .int .i64 d, .int .i64 u], .agg #[.slice ad n lcap, .int .i64 hd], .int .i64 at_, .int .i64 day] w (RvS (rvE len c d u n es hd at_ day) (rvB len c d u n es hd at_ day) w) := by
  rw [rvE_f hno, rvB_f hno]
  have B0 : Hid (Below w.heap.size w (((w.alloc (.cells #[.slice fa len cap, .int .i64 d, .int .i64 u] 26 (0, 0))).alloc (.cells #[.slice ad n lcap, .int .i64 hd] 29 (0, 0))).alloc (.cells #[.int .i64 0, .int .i64 0, .string ⟨#[]⟩, .slice none 0 0] 32 (0, 0)))) := (((Below.refl _ _).alloc (Nat.le_refl _) _).alloc (by simp) _).alloc (by simp <;> omega) _
  have HC : Hid (Calls Tryd.prog 39 #[.agg #[.slice fa len cap, .int .i64 d, .int .i64 u], .agg #[.slice ad n lcap, .int .i64 hd]] (((w.alloc (.cells #[.slice fa len cap, .int .i64 d, .int .i64 u] 26 (0, 0))).alloc (.cells #[.slice ad n lcap, .int .i64 hd] 29 (0, 0))).alloc (.cells #[.int .i64 0, .int .i64 0, .string ⟨#[]⟩, .slice none 0 0] 32 (0, 0))) _) := specLedger_any fa len cap c d u ad n lcap es hd _ hl hc (((hr.alloc _).alloc _).alloc _) (((hL.alloc _).alloc _).alloc _) ht hnn
  cases hX : leB len c d u n es hd with
  | false =>
    rw [hX] at HC
    clear hX hr hL hc hno ht hnn
    go_enter Tryd.func24, Tryd.ntmps24
    go_wp2_with (first
    | (go_at_call 39; go_loud (refine HC.out.mono ?_; rintro e w1 ⟨rfl, b1⟩; have c8 : CB w1 (w.heap.size + 1 + 1) #[.int .i64 0, .int .i64 0, .string ⟨#[]⟩, .slice none 0 0] 32 := (CB.newAt (by simp) _ _).below b1 (by simp); have c5 : CB w1 (w.heap.size + 1) #[.slice ad n lcap, .int .i64 hd] 29 := ((CB.newAt (by simp) _ _).alloc _).below b1 (by simp <;> omega); have HB1 : Hid (Below w.heap.size w w1) := bel_on B0.out b1; have HC8 : Hid (CB w1 (w.heap.size + 1 + 1) #[.int .i64 0, .int .i64 0, .string ⟨#[]⟩, .slice none 0 0] 32) := c8; have k0 := c8.fr 0; have k1 := c8.fr 1; have k2 := c8.fr 2; have k3 := c8.fr 3; have q0 : w1.cell? ⟨w.heap.size + 1 + 1, 0, none⟩ = some (.int .i64 0) := (c8.cell 0).trans rfl; have q1 : w1.cell? ⟨w.heap.size + 1 + 1, 1, none⟩ = some (.int .i64 0) := (c8.cell 1).trans rfl; have q2 : w1.cell? ⟨w.heap.size + 1 + 1, 2, none⟩ = some (.string ⟨#[]⟩) := (c8.cell 2).trans rfl; have q3 : w1.cell? ⟨w.heap.size + 1 + 1, 3, none⟩ = some (.slice none 0 0) := (c8.cell 3).trans rfl; have l0 : w1.cell? ⟨w.heap.size + 1, 0, none⟩ = some (.slice ad n lcap) := (c5.cell 0).trans rfl; clear b1 c8 c5 HC B0)))
    have hX := (((HC8.out.set 0 (.int .i64 0)).set 1 (.int .i64 0)).set 2 (.string ⟨#[]⟩)).set 3 (.slice none 0 0)
    have hZ := (((HB1.out.setCell (p := ⟨w.heap.size + 1 + 1, 0, none⟩) (by simp <;> omega) (.int .i64 0)).setCell (p := ⟨w.heap.size + 1 + 1, 1, none⟩) (by simp <;> omega) (.int .i64 0)).setCell (p := ⟨w.heap.size + 1 + 1, 2, none⟩) (by simp <;> omega) (.string ⟨#[]⟩)).setCell (p := ⟨w.heap.size + 1 + 1, 3, none⟩) (by simp <;> omega) (.slice none 0 0)
    have e0 := hX.cell 0
    have e1 := hX.cell 1
    have e2 := hX.cell 2
    have e3 := hX.cell 3
    simp at e0 e1 e2 e3
    clear hX k0 k1 k2 k3 q0 q1 q2 q3 l0 HC8 HB1
    generalize (World.setCell _ _ _) = W5 at e0 e1 e2 e3 hZ ⊢
    refine bodyPost_ret (by simp [results, Tryd.results24, go_sem, e0, e1, e2, e3]; try rfl) rfl ?_
    exact ⟨_, _, rfl, .inl rfl, hZ⟩
  | true =>
    rw [hX] at HC
    clear hr hL hc ht hnn
    by_cases ha : 0 ≤ at_ ∧ at_ < (n : Int)
    case neg =>
      clear hX hno
      go_enter Tryd.func24, Tryd.ntmps24
      go_wp2_with (first
    | (go_at_call 39; go_loud (refine HC.out.mono ?_; rintro e w1 ⟨rfl, b1⟩; have c8 : CB w1 (w.heap.size + 1 + 1) #[.int .i64 0, .int .i64 0, .string ⟨#[]⟩, .slice none 0 0] 32 := (CB.newAt (by simp) _ _).below b1 (by simp); have c5 : CB w1 (w.heap.size + 1) #[.slice ad n lcap, .int .i64 hd] 29 := ((CB.newAt (by simp) _ _).alloc _).below b1 (by simp <;> omega); have HB1 : Hid (Below w.heap.size w w1) := bel_on B0.out b1; have HC8 : Hid (CB w1 (w.heap.size + 1 + 1) #[.int .i64 0, .int .i64 0, .string ⟨#[]⟩, .slice none 0 0] 32) := c8; have k0 := c8.fr 0; have k1 := c8.fr 1; have k2 := c8.fr 2; have k3 := c8.fr 3; have q0 : w1.cell? ⟨w.heap.size + 1 + 1, 0, none⟩ = some (.int .i64 0) := (c8.cell 0).trans rfl; have q1 : w1.cell? ⟨w.heap.size + 1 + 1, 1, none⟩ = some (.int .i64 0) := (c8.cell 1).trans rfl; have q2 : w1.cell? ⟨w.heap.size + 1 + 1, 2, none⟩ = some (.string ⟨#[]⟩) := (c8.cell 2).trans rfl; have q3 : w1.cell? ⟨w.heap.size + 1 + 1, 3, none⟩ = some (.slice none 0 0) := (c8.cell 3).trans rfl; have l0 : w1.cell? ⟨w.heap.size + 1, 0, none⟩ = some (.slice ad n lcap) := (c5.cell 0).trans rfl; clear b1 c8 c5 HC B0))
    | (go_at_call 82; refine (in_no _ _ _ _ (by omega)).mono ?_; rintro e w2 ⟨rfl, ew⟩; replace ew := ew.symm; subst ew))
      have hX := (((HC8.out.set 0 (.int .i64 0)).set 1 (.int .i64 0)).set 2 (.string ⟨#[]⟩)).set 3 (.slice none 0 0)
      have hZ := (((HB1.out.setCell (p := ⟨w.heap.size + 1 + 1, 0, none⟩) (by simp <;> omega) (.int .i64 0)).setCell (p := ⟨w.heap.size + 1 + 1, 1, none⟩) (by simp <;> omega) (.int .i64 0)).setCell (p := ⟨w.heap.size + 1 + 1, 2, none⟩) (by simp <;> omega) (.string ⟨#[]⟩)).setCell (p := ⟨w.heap.size + 1 + 1, 3, none⟩) (by simp <;> omega) (.slice none 0 0)
      have e0 := hX.cell 0
      have e1 := hX.cell 1
      have e2 := hX.cell 2
      have e3 := hX.cell 3
      simp at e0 e1 e2 e3
      clear hX k0 k1 k2 k3 q0 q1 q2 q3 l0 HC8 HB1
      generalize (World.setCell _ _ _) = W5 at e0 e1 e2 e3 hZ ⊢
      refine bodyPost_ret (by simp [results, Tryd.results24, go_sem, e0, e1, e2, e3]; try rfl) rfl ?_
      exact ⟨_, _, rfl, .inl rfl, hZ⟩
    · obtain ⟨ha0, ha1⟩ := ha
      have hday : inB day 0 40000 = false := by
        cases q : inB day 0 40000 with
        | false => rfl
        | true => exact absurd ⟨hX, ⟨by omega, by omega⟩, inB_iff.1 q⟩ hno
      clear hX hno
      go_enter Tryd.func24, Tryd.ntmps24
      go_wp2_with (first
    | (go_at_call 39; go_loud (refine HC.out.mono ?_; rintro e w1 ⟨rfl, b1⟩; have c8 : CB w1 (w.heap.size + 1 + 1) #[.int .i64 0, .int .i64 0, .string ⟨#[]⟩, .slice none 0 0] 32 := (CB.newAt (by simp) _ _).below b1 (by simp); have c5 : CB w1 (w.heap.size + 1) #[.slice ad n lcap, .int .i64 hd] 29 := ((CB.newAt (by simp) _ _).alloc _).below b1 (by simp <;> omega); have HB1 : Hid (Below w.heap.size w w1) := bel_on B0.out b1; have HC8 : Hid (CB w1 (w.heap.size + 1 + 1) #[.int .i64 0, .int .i64 0, .string ⟨#[]⟩, .slice none 0 0] 32) := c8; have k0 := c8.fr 0; have k1 := c8.fr 1; have k2 := c8.fr 2; have k3 := c8.fr 3; have q0 : w1.cell? ⟨w.heap.size + 1 + 1, 0, none⟩ = some (.int .i64 0) := (c8.cell 0).trans rfl; have q1 : w1.cell? ⟨w.heap.size + 1 + 1, 1, none⟩ = some (.int .i64 0) := (c8.cell 1).trans rfl; have q2 : w1.cell? ⟨w.heap.size + 1 + 1, 2, none⟩ = some (.string ⟨#[]⟩) := (c8.cell 2).trans rfl; have q3 : w1.cell? ⟨w.heap.size + 1 + 1, 3, none⟩ = some (.slice none 0 0) := (c8.cell 3).trans rfl; have l0 : w1.cell? ⟨w.heap.size + 1, 0, none⟩ = some (.slice ad n lcap) := (c5.cell 0).trans rfl; clear b1 c8 c5 HC B0))
    | (go_at_call 82; refine (in_yes _ _ _ _ (by omega) (by omega)).mono ?_; rintro e w2 ⟨rfl, ew⟩; replace ew := ew.symm; subst ew)
    | (go_at_call 83; refine (l2Day_any _ _).mono ?_; rintro e w2 ⟨rfl, ew⟩; replace ew := ew.symm; subst ew; rw [hday]))
      have hX := (((HC8.out.set 0 (.int .i64 0)).set 1 (.int .i64 0)).set 2 (.string ⟨#[]⟩)).set 3 (.slice none 0 0)
      have hZ := (((HB1.out.setCell (p := ⟨w.heap.size + 1 + 1, 0, none⟩) (by simp <;> omega) (.int .i64 0)).setCell (p := ⟨w.heap.size + 1 + 1, 1, none⟩) (by simp <;> omega) (.int .i64 0)).setCell (p := ⟨w.heap.size + 1 + 1, 2, none⟩) (by simp <;> omega) (.string ⟨#[]⟩)).setCell (p := ⟨w.heap.size + 1 + 1, 3, none⟩) (by simp <;> omega) (.slice none 0 0)
      have e0 := hX.cell 0
      have e1 := hX.cell 1
      have e2 := hX.cell 2
      have e3 := hX.cell 3
      simp at e0 e1 e2 e3
      clear hX k0 k1 k2 k3 q0 q1 q2 q3 l0 HC8 HB1
      generalize (World.setCell _ _ _) = W5 at e0 e1 e2 e3 hZ ⊢
      refine bodyPost_ret (by simp [results, Tryd.results24, go_sem, e0, e1, e2, e3]; try rfl) rfl ?_
      exact ⟨_, _, rfl, .inl rfl, hZ⟩

/-- What stands by while the model turns an entry's lines. -/
structure RS (w : World) (X : Nat) (dy rf : Int) (s : ByteArray) (b cp m n k : Nat) (ls : Nat → L5) (W : World) : Prop where
  box : CB W X #[.int .i64 dy, .int .i64 rf, .string s, .slice (some ⟨b, 0, none⟩) n cp] 32
  res : CB W (w.heap.size + 1 + 1) #[.int .i64 0, .int .i64 0, .string ⟨#[]⟩, .slice none 0 0] 32
  own : OwnZ W b m n (mxL k ls) 56
  bel : Below w.heap.size w W
structure RSh (w : World) (X : Nat) (dy rf : Int) (s : ByteArray) (b cp m n k : Nat) (ls : Nat → L5) (W : World) : Prop where
  box : CB W X #[.int .i64 dy, .int .i64 rf, .string s, .slice (some ⟨b, 0, none⟩) n cp] 32
  res : CB W (w.heap.size + 1 + 1) #[.int .i64 0, .int .i64 0, .string ⟨#[]⟩, .slice none 0 0] 32
  own : OwnZ W b m n (hfL k ls) 56
  bel : Below w.heap.size w W
section
variable {w W : World} {X : Nat} {dy rf : Int} {s : ByteArray} {b cp m n k : Nat} {ls : Nat → L5}
theorem RS.half (h : RS w X dy rf s b cp m n k ls W) (hk : k < n) (h1 : b ≠ X) (h2 : w.heap.size + 1 + 1 < b) : RSh w X dy rf s b cp m n k ls ((W.setCell ⟨b, k * 5 + 3, none⟩ (.int .i64 (-(ls k).amt))).drew) :=
  ⟨(h.box.other _ (by omega)).below (Below.refl _ _).drew (h.box.other (c := b) (o := k * 5 + 3) (.int .i64 (-(ls k).amt)) (by omega)).lt, (h.res.other _ (by omega)).below (Below.refl _ _).drew (h.res.other (c := b) (o := k * 5 + 3) (.int .i64 (-(ls k).amt)) (by omega)).lt, (h.own.amt hk).below (Below.refl _ _).drew, (h.bel.setCell (p := ⟨b, k * 5 + 3, none⟩) (by show w.heap.size ≤ b; omega) _).drew⟩
theorem RSh.whole (h : RSh w X dy rf s b cp m n k ls W) (hk : k < n) (h1 : b ≠ X) (h2 : w.heap.size + 1 + 1 < b) : RS w X dy rf s b cp m n (k + 1) ls ((W.setCell ⟨b, k * 5 + 4, none⟩ (.int .i64 (-(ls k).base))).drew) :=
  ⟨(h.box.other _ (by omega)).below (Below.refl _ _).drew (h.box.other (c := b) (o := k * 5 + 4) (.int .i64 (-(ls k).base)) (by omega)).lt, (h.res.other _ (by omega)).below (Below.refl _ _).drew (h.res.other (c := b) (o := k * 5 + 4) (.int .i64 (-(ls k).base)) (by omega)).lt, (h.own.base hk).below (Below.refl _ _).drew, (h.bel.setCell (p := ⟨b, k * 5 + 4, none⟩) (by show w.heap.size ≤ b; omega) _).drew⟩
end

set_option maxRecDepth 20000 in
set_option maxHeartbeats 4000000 in
theorem specReverse_ok (fa : Option Addr) (len cap : Nat) (c : Nat → C3) (d u : Int) (ad : Option Addr) (n lcap : Nat) (es : Nat → E4) (hd  day : Int) (k : Nat) (w : World) (hl : (len : Int) ≤ 1048576) (hc : ∀ j, (c j).code.size ≤ maxLen) (hr : CR w fa len c) (hL : ER w ad n es) (ht : ∀ j, ((es j).text.size : Int) ≤ 9223372036854775807) (hnn : ∀ j, j < n → ((es j).n : Int) ≤ 1048576) (hn : (n : Int) ≤ 1048576) (hok : RvOk len c d u n es hd (k : Int) day) :
    Calls Tryd.prog 24 #[.agg #[.slice fa len cap, .int .i64 d, .int .i64 u], .agg #[.slice ad n lcap, .int .i64 hd], .int .i64 (k : Int), .int .i64 day] w (RvS (rvE len c d u n es hd (k : Int) day) (rvB len c d u n es hd (k : Int) day) w) := by
  rw [rvE_t hok, rvB_t hok]
  have B0 : Hid (Below w.heap.size w (((w.alloc (.cells #[.slice fa len cap, .int .i64 d, .int .i64 u] 26 (0, 0))).alloc (.cells #[.slice ad n lcap, .int .i64 hd] 29 (0, 0))).alloc (.cells #[.int .i64 0, .int .i64 0, .string ⟨#[]⟩, .slice none 0 0] 32 (0, 0)))) := (((Below.refl _ _).alloc (Nat.le_refl _) _).alloc (by simp) _).alloc (by simp <;> omega) _
  have HC : Hid (Calls Tryd.prog 39 #[.agg #[.slice fa len cap, .int .i64 d, .int .i64 u], .agg #[.slice ad n lcap, .int .i64 hd]] (((w.alloc (.cells #[.slice fa len cap, .int .i64 d, .int .i64 u] 26 (0, 0))).alloc (.cells #[.slice ad n lcap, .int .i64 hd] 29 (0, 0))).alloc (.cells #[.int .i64 0, .int .i64 0, .string ⟨#[]⟩, .slice none 0 0] 32 (0, 0))) _) := specLedger_any fa len cap c d u ad n lcap es hd _ hl hc (((hr.alloc _).alloc _).alloc _) (((hL.alloc _).alloc _).alloc _) ht hnn
  rw [hok.1] at HC
  have hkn : k < n := by have := hok.2.1.2; omega
  have hkni : (k : Int) < (n : Int) := by omega
  have hday : inB day 0 40000 = true := inB_iff.2 hok.2.2
  obtain ⟨l1, l2, l3, l4⟩ := leB_out hok.1
  obtain ⟨_, _, _, _, s1⟩ := enB_out (l3 k hkn)
  obtain ⟨s2, s3, s4, _⟩ := lsB_out s1
  have HAM : Hid (∀ j, j < (es k).n → (-100000000000 ≤ ((es k).ls j).amt ∧ ((es k).ls j).amt ≤ 100000000000) ∧ (-100000000000 ≤ ((es k).ls j).base ∧ ((es k).ls j).base ≤ 100000000000)) := fun j hj => by
    have := s4 j hj
    unfold lnB at this
    simp only [Bool.and_eq_true] at this
    exact ⟨inB_iff.1 this.2.2.2.1, inB_iff.1 this.2.2.2.2.1⟩
  have hk3 : (k : Int) < 1000 := by omega
  obtain ⟨kb, off, rfl, hkb⟩ := hL.addr (by omega)
  have HL : Hid (ER w (some ⟨kb, off, none⟩) n es) := hL
  have htx : rvT ((k : Int).toNat + 1) = (⟨#[114, 101, 118, 101, 114, 115, 101, 32]⟩ : ByteArray) ++ strB (decDigits (k + 1)) := by unfold rvT; simp
  have HTX : Hid (rvT ((k : Int).toNat + 1) = (⟨#[114, 101, 118, 101, 114, 115, 101, 32]⟩ : ByteArray) ++ strB (decDigits (k + 1))) := htx
  obtain ⟨A, hA⟩ : ∃ A, strB (decDigits (k + 1)) = A := ⟨_, rfl⟩
  rw [hA] at HTX
  have HA : Hid (strB (decDigits (k + 1)) = A) := hA
  have sA : A.size ≤ 100 := by rw [← hA, strB_size]; have := dec_len_le (k + 1) (by omega); omega
  have hk1 : (k : Int) + 1 = ((k + 1 : Nat) : Int) := by omega
  have HK1 : Hid ((k : Int) + 1 = ((k + 1 : Nat) : Int)) := hk1
  have HN60 : Hid (2 ≤ (es k).n ∧ (es k).n ≤ 60) := ⟨s2, s3⟩
  have hkt : (k : Int).toNat = k := by omega
  clear hok hr hL hc l1 l2 l3 l4 s1 s2 s3 s4 hA hk1 htx ht hnn
  go_enter Tryd.func24, Tryd.ntmps24
  go_wp2_with (first
    | (go_at_call 39; go_loud (refine HC.out.mono ?_; rintro e w1 ⟨rfl, b1⟩; have c8 : CB w1 (w.heap.size + 1 + 1) #[.int .i64 0, .int .i64 0, .string ⟨#[]⟩, .slice none 0 0] 32 := (CB.newAt (by simp) _ _).below b1 (by simp); have c5 : CB w1 (w.heap.size + 1) #[.slice (some ⟨kb, off, none⟩) n lcap, .int .i64 hd] 29 := ((CB.newAt (by simp) _ _).alloc _).below b1 (by simp <;> omega); have HB1 : Hid (Below w.heap.size w w1) := bel_on B0.out b1; have HC8 : Hid (CB w1 (w.heap.size + 1 + 1) #[.int .i64 0, .int .i64 0, .string ⟨#[]⟩, .slice none 0 0] 32) := c8; have k0 := c8.fr 0; have k1 := c8.fr 1; have k2 := c8.fr 2; have k3 := c8.fr 3; have q0 : w1.cell? ⟨w.heap.size + 1 + 1, 0, none⟩ = some (.int .i64 0) := (c8.cell 0).trans rfl; have q1 : w1.cell? ⟨w.heap.size + 1 + 1, 1, none⟩ = some (.int .i64 0) := (c8.cell 1).trans rfl; have q2 : w1.cell? ⟨w.heap.size + 1 + 1, 2, none⟩ = some (.string ⟨#[]⟩) := (c8.cell 2).trans rfl; have q3 : w1.cell? ⟨w.heap.size + 1 + 1, 3, none⟩ = some (.slice none 0 0) := (c8.cell 3).trans rfl; have l0 : w1.cell? ⟨w.heap.size + 1, 0, none⟩ = some (.slice (some ⟨kb, off, none⟩) n lcap) := (c5.cell 0).trans rfl; obtain ⟨x1, x2, x3, la, lc2, x4, x5⟩ : AtE w1 kb (off + k * 4) (es k) := (by rcases HL.out.below HB1.out with h | ⟨k', o', e, _, hcc⟩; (· omega); (· simp only [Option.some.injEq, Addr.mk.injEq] at e; obtain ⟨rfl, rfl, _⟩ := e; exact hcc k hkn)); obtain ⟨ka, ko, rfl, _⟩ := x5.addr (by have := HN60.out; omega); have HLR : Hid (LR w1 (some ⟨ka, ko, none⟩) (es k).n (es k).ls) := x5; clear x5; clear b1 c8 c5 HC B0))
    | (go_at_call 82; refine (in_yes _ _ _ _ (by omega) (by omega)).mono ?_; rintro e w2 ⟨rfl, ew⟩; replace ew := ew.symm; subst ew)
    | (go_at_call 83; refine (l2Day_any _ _).mono ?_; rintro e w2 ⟨rfl, ew⟩; replace ew := ew.symm; subst ew; rw [hday])
    | (go_at_call 66; go_loud (refine (l5Entry_own _ _ _ _ _ _ (es k).ls _ (by have := HN60.out; omega) HLR.out).mono ?_; rintro e w3 ⟨b, cp, m, rfl, hb3, o3, b3⟩; have HO3 : Hid (OwnZ w3 b m (es k).n (es k).ls 56) := o3; have HB3 : Hid (Below w.heap.size w w3) := bel_on HB1.out b3; have HC83 : Hid (CB w3 (w.heap.size + 1 + 1) #[.int .i64 0, .int .i64 0, .string ⟨#[]⟩, .slice none 0 0] 32) := HC8.out.below b3 HC8.out.lt; clear o3 b3 k0 k1 k2 k3 q0 q1 q2 q3))
    | (go_at_call 84; go_loud (refine (text_at HK1.out (by omega)).mono ?_; rintro e w4 ⟨rfl, q, rfl⟩; rw [HA.out])))
  obtain ⟨S, hS⟩ : ∃ S, (⟨#[114, 101, 118, 101, 114, 115, 101, 32]⟩ : ByteArray) ++ A = S := ⟨_, rfl⟩
  rw [hS]
  rw [hS] at HTX
  obtain ⟨N, hN⟩ : ∃ N, (es k).n = N := ⟨_, rfl⟩
  have hlb := HO3.out.lt
  have hl8 : w.heap.size + 1 + 1 < w1.heap.size := HC8.out.lt
  have hl83 := HC83.out.lt
  have hbX : b ≠ w3.heap.size := by omega
  have hXb : w3.heap.size ≠ b := by omega
  have hb8 : w.heap.size + 1 + 1 < b := by omega
  have H0 : Hid (RS w w3.heap.size day ((k : Int) + 1) S b cp m (es k).n 0 (es k).ls ((((w3.alloc (.cells #[.int .i64 day, .int .i64 ((k : Int) + 1), .string (es k).text, .slice (some ⟨b, 0, none⟩) (es k).n cp] 32 (0, 0))).drewN q).setCell ⟨w3.heap.size, 2, none⟩ (.string S)))) := by
    have bb : Below w3.heap.size w3 ((w3.alloc (.cells #[.int .i64 day, .int .i64 ((k : Int) + 1), .string (es k).text, .slice (some ⟨b, 0, none⟩) (es k).n cp] 32 (0, 0))).drewN q) := bel_on ((Below.refl _ _).alloc (Nat.le_refl _) _) (drew_below _ q)
    have cX : CB ((w3.alloc (.cells #[.int .i64 day, .int .i64 ((k : Int) + 1), .string (es k).text, .slice (some ⟨b, 0, none⟩) (es k).n cp] 32 (0, 0))).drewN q) w3.heap.size #[.int .i64 day, .int .i64 ((k : Int) + 1), .string (es k).text, .slice (some ⟨b, 0, none⟩) (es k).n cp] 32 := (CB.new _ _).below (drew_below _ q) (by simp)
    refine ⟨by have := cX.set 2 (.string S); simpa using this, (HC83.out.below bb hl83).other _ (by omega), ?_, (bel_on HB3.out bb).setCell (p := ⟨w3.heap.size, 2, none⟩) (by show w.heap.size ≤ w3.heap.size; omega) _⟩
    rw [mxL_zero]
    exact (HO3.out.below bb).other (by omega) _
  generalize ((((w3.alloc (.cells #[.int .i64 day, .int .i64 ((k : Int) + 1), .string (es k).text, .slice (some ⟨b, 0, none⟩) (es k).n cp] 32 (0, 0))).drewN q).setCell ⟨w3.heap.size, 2, none⟩ (.string S))) = W4 at H0 ⊢
  obtain ⟨X, hX⟩ : ∃ X, w3.heap.size = X := ⟨_, rfl⟩
  rw [hX] at H0 hbX hXb ⊢
  have HN2 : Hid ((es k).n ≤ 60) := HN60.out.2
  rw [hN] at H0 HAM HN2 ⊢
  obtain ⟨LS, hLS⟩ : ∃ LS, (es k).ls = LS := ⟨_, rfl⟩
  rw [hLS] at H0 HAM
  have hN9 : (N : Int) ≤ 60 := by have := HN2.out; omega
  have HEN : Hid ((es k).n = N ∧ (es k).ls = LS) := ⟨hN, hLS⟩
  have hX8 : w.heap.size + 1 + 1 ≠ X := by omega
  clear hN hLS HO3 HB3 HC83 HC8 HB1 HLR HL x1 x2 x3 x4 l0 hX hlb hl8 hl83 hS
  go_loopw [11] (fun v wr => ∃ i : Nat, v = .int .i64 (i : Int) ∧ i ≤ N ∧ Hid (RS w X day ((k : Int) + 1) S b cp m N i LS wr)) (fun v _ => N - (RowKit.intOf v).toNat)
  case atStart => exact ⟨0, rfl, Nat.zero_le _, H0⟩
  case round =>
    clear H0
    obtain ⟨i, rfl, hi, HV⟩ := hrel
    have p0 : wr.cell? ⟨X, 0, none⟩ = some (.int .i64 day) := (HV.out.box.cell 0).trans rfl
    have p1 : wr.cell? ⟨X, 1, none⟩ = some (.int .i64 ((k : Int) + 1)) := (HV.out.box.cell 1).trans rfl
    have p2 : wr.cell? ⟨X, 2, none⟩ = some (.string S) := (HV.out.box.cell 2).trans rfl
    have p3 : wr.cell? ⟨X, 3, none⟩ = some (.slice (some ⟨b, 0, none⟩) N cp) := (HV.out.box.cell 3).trans rfl
    by_cases hin : i < N
    · have hini : (i : Int) < (N : Int) := by omega
      have ha := HV.out.own.at hin
      rw [mxL_at] at ha
      obtain ⟨a1, a2, a3, a4, a5⟩ := at5_cells ha
      have f3 := HV.out.own.fr (i * 5 + 3)
      obtain ⟨⟨u1, u2⟩, u3, u4⟩ := HAM.out i hin
      have HH : Hid (RSh w X day ((k : Int) + 1) S b cp m N i LS ((wr.setCell ⟨b, i * 5 + 3, none⟩ (.int .i64 (-(LS i).amt))).drew)) := HV.out.half hin hbX hb8
      obtain ⟨x4, hx4⟩ : ∃ x, (LS i).amt = x := ⟨_, rfl⟩
      obtain ⟨x5, hx5⟩ : ∃ x, (LS i).base = x := ⟨_, rfl⟩
      have w4 : wrap64 (-(LS i).amt) = -(LS i).amt := IntWalk.wrap64_in _ ⟨by omega, by omega⟩
      have w5 : wrap64 (-(LS i).base) = -(LS i).base := IntWalk.wrap64_in _ ⟨by omega, by omega⟩
      rw [hx4] at a4 HH w4
      rw [hx5] at w5
      clear ha a1 a2 a3 a5 u1 u2 u3 u4
      go_wp2
      go_region
      try rw [w4]
      generalize ((wr.setCell ⟨b, i * 5 + 3, none⟩ (.int .i64 (-x4))).drew) = W5 at HH ⊢
      clear p0 p1 p2 p3 a4 f3 w4 hx4
      have p3 : W5.cell? ⟨X, 3, none⟩ = some (.slice (some ⟨b, 0, none⟩) N cp) := (HH.out.box.cell 3).trans rfl
      have ha := HH.out.own.at hin
      rw [hfL_at] at ha
      obtain ⟨a1, a2, a3, a4, a5⟩ := at5_cells ha
      simp only [] at a5
      rw [hx5] at a5
      have f4 := HH.out.own.fr (i * 5 + 4)
      have HW : Hid (RS w X day ((k : Int) + 1) S b cp m N (i + 1) LS ((W5.setCell ⟨b, i * 5 + 4, none⟩ (.int .i64 (-x5))).drew)) := by have := HH.out.whole hin hbX hb8; rw [hx5] at this; exact this
      clear ha a1 a2 a3 a4 hx5
      go_wp2
      go_region
      try rw [w5]
      generalize ((W5.setCell ⟨b, i * 5 + 4, none⟩ (.int .i64 (-x5))).drew) = W6 at HW ⊢
      clear p3 a5 f4 w5
      go_wp2
      go_roundw
      case rel => exact ⟨i + 1, by go_num, by omega, HW⟩
      case measure => simp [RowKit.intOf]; omega
    · obtain rfl : i = N := by omega
      have lkk : ¬ (i : Int) < (i : Int) := by omega
      have g0 := HV.out.res.fr 0
      have g1 := HV.out.res.fr 1
      have g2 := HV.out.res.fr 2
      have g3 := HV.out.res.fr 3
      have r0 : wr.cell? ⟨w.heap.size + 1 + 1, 0, none⟩ = some (.int .i64 0) := (HV.out.res.cell 0).trans rfl
      have r1 : wr.cell? ⟨w.heap.size + 1 + 1, 1, none⟩ = some (.int .i64 0) := (HV.out.res.cell 1).trans rfl
      have r2 : wr.cell? ⟨w.heap.size + 1 + 1, 2, none⟩ = some (.string ⟨#[]⟩) := (HV.out.res.cell 2).trans rfl
      have r3 : wr.cell? ⟨w.heap.size + 1 + 1, 3, none⟩ = some (.slice none 0 0) := (HV.out.res.cell 3).trans rfl
      go_wp2
      have hX := (((HV.out.res.set 0 (.int .i64 day)).set 1 (.int .i64 ((k : Int) + 1))).set 2 (.string S)).set 3 (.slice (some ⟨b, 0, none⟩) i cp)
      have hY := (((HV.out.own.other (c := w.heap.size + 1 + 1) (o := 0) (by omega) (.int .i64 day)).other (c := w.heap.size + 1 + 1) (o := 1) (by omega) (.int .i64 ((k : Int) + 1))).other (c := w.heap.size + 1 + 1) (o := 2) (by omega) (.string S)).other (c := w.heap.size + 1 + 1) (o := 3) (by omega) (.slice (some ⟨b, 0, none⟩) i cp)
      have hZ := (((HV.out.bel.setCell (p := ⟨w.heap.size + 1 + 1, 0, none⟩) (by simp <;> omega) (.int .i64 day)).setCell (p := ⟨w.heap.size + 1 + 1, 1, none⟩) (by simp <;> omega) (.int .i64 ((k : Int) + 1))).setCell (p := ⟨w.heap.size + 1 + 1, 2, none⟩) (by simp <;> omega) (.string S)).setCell (p := ⟨w.heap.size + 1 + 1, 3, none⟩) (by simp <;> omega) (.slice (some ⟨b, 0, none⟩) i cp)
      have e0 := hX.cell 0
      have e1 := hX.cell 1
      have e2 := hX.cell 2
      have e3 := hX.cell 3
      simp at e0 e1 e2 e3
      clear hX p0 p1 p2 p3 r0 r1 r2 r3 g0 g1 g2 g3 HV
      generalize (World.setCell _ _ _) = W5 at e0 e1 e2 e3 hY hZ ⊢
      refine bodyPost_ret (by simp [results, Tryd.results24, go_sem, e0, e1, e2, e3]; try rfl) rfl ?_
      have htx2 := HTX.out
      rw [hkt] at htx2
      rw [htx2, HEN.out.1, HEN.out.2]
      exact ⟨_, _, rfl, .inr ⟨b, rfl, by omega, (hY.congr (fun j hj => mxL_all hj)).row⟩, hZ⟩
theorem specReverse_any (fa : Option Addr) (len cap : Nat) (c : Nat → C3) (d u : Int) (ad : Option Addr) (n lcap : Nat) (es : Nat → E4) (hd at_ day : Int) (w : World) (hl : (len : Int) ≤ 1048576) (hc : ∀ j, (c j).code.size ≤ maxLen) (hr : CR w fa len c) (hL : ER w ad n es) (ht : ∀ j, ((es j).text.size : Int) ≤ 9223372036854775807) (hnn : ∀ j, j < n → ((es j).n : Int) ≤ 1048576) (hn : (n : Int) ≤ 1048576) :
    Calls Tryd.prog 24 #[.agg #[.slice fa len cap, .int .i64 d, .int .i64 u], .agg #[.slice ad n lcap, .int .i64 hd], .int .i64 at_, .int .i64 day] w (RvS (rvE len c d u n es hd at_ day) (rvB len c d u n es hd at_ day) w) := by
  by_cases h : RvOk len c d u n es hd at_ day
  · obtain ⟨k, rfl⟩ : ∃ k : Nat, at_ = (k : Int) := ⟨at_.toNat, by have := h.2.1; omega⟩
    exact specReverse_ok fa len cap c d u ad n lcap es hd day k w hl hc hr hL ht hnn hn h
  · exact specReverse_no fa len cap c d u ad n lcap es hd at_ day w hl hc hr hL ht hnn hn h
end Go.Proofs.YtgnhpjlfdkpaiaaDoor

namespace Go.Proofs.YtgnhpjlfdkpaiaaDoor
open Go Go.ChangeShapes Go.WideShapes Go.ChangeAt Go.RowKit
set_option linter.unusedVariables false
set_option linter.unusedSimpArgs false

/-- The law's two boxes, and what came in. -/
structure TC (w : World) (fa : Option Addr) (flen fcap : Nat) (fc : Nat → C3) (fd fu : Int) (ad : Option Addr) (len cap : Nat) (es : Nat → E4) (hd : Int) (W : World) : Prop where
  xf : CB W w.heap.size #[.slice fa flen fcap, .int .i64 fd, .int .i64 fu] 59
  xl : CB W (w.heap.size + 1) #[.slice ad len cap, .int .i64 hd] 74
  cr : CR W fa flen fc
  er : ER W ad len es
  bl : Below w.heap.size w W
section
variable {w W W' : World} {fa : Option Addr} {flen fcap : Nat} {fc : Nat → C3} {fd fu : Int} {ad : Option Addr} {len cap : Nat} {es : Nat → E4} {hd : Int}
theorem TC.below (h : TC w fa flen fcap fc fd fu ad len cap es hd W) (b : Below W.heap.size W W') : TC w fa flen fcap fc fd fu ad len cap es hd W' := ⟨h.xf.below b h.xf.lt, h.xl.below b h.xl.lt, h.cr.below b, h.er.below b, bel_on h.bl b⟩
theorem TC.alloc (h : TC w fa flen fcap fc fd fu ad len cap es hd W) (o : Obj) : TC w fa flen fcap fc fd fu ad len cap es hd (W.alloc o) := h.below ((Below.refl _ _).alloc (Nat.le_refl _) o)
theorem TC.drew (h : TC w fa flen fcap fc fd fu ad len cap es hd W) : TC w fa flen fcap fc fd fu ad len cap es hd W.drew := h.below (Below.refl _ _).drew
theorem TC.cells (h : TC w fa flen fcap fc fd fu ad len cap es hd W) : W.cell? ⟨w.heap.size, 0, none⟩ = some (.slice fa flen fcap) ∧ W.cell? ⟨w.heap.size, 1, none⟩ = some (.int .i64 fd) ∧ W.cell? ⟨w.heap.size, 2, none⟩ = some (.int .i64 fu) ∧ W.cell? ⟨w.heap.size + 1, 0, none⟩ = some (.slice ad len cap) ∧ W.cell? ⟨w.heap.size + 1, 1, none⟩ = some (.int .i64 hd) := ⟨(h.xf.cell 0).trans rfl, (h.xf.cell 1).trans rfl, (h.xf.cell 2).trans rfl, (h.xl.cell 0).trans rfl, (h.xl.cell 1).trans rfl⟩
theorem TC.lt (h : TC w fa flen fcap fc fd fu ad len cap es hd W) : w.heap.size + 2 ≤ W.heap.size := by have := h.xl.lt; omega
theorem TC.set {b o : Nat} (h : TC w fa flen fcap fc fd fu ad len cap es hd W) (v : Value) (hb : w.heap.size + 2 ≤ b) (hc : CR w fa flen fc) (he : ER w ad len es) : TC w fa flen fcap fc fd fu ad len cap es hd (W.setCell ⟨b, o, none⟩ v) := by
  have bl : Below w.heap.size w (W.setCell ⟨b, o, none⟩ v) := h.bl.setCell (p := ⟨b, o, none⟩) (by show w.heap.size ≤ b; omega) v
  exact ⟨h.xf.other _ (by omega), h.xl.other _ (by omega), hc.below bl, he.below bl, bl⟩
theorem CB.kr2 {lo hi b : Nat} {cs : Array Value} {t : TypeId} (h : CB W b cs t) (k : KR lo hi W W') (hb : b < lo ∨ hi ≤ b) : CB W' b cs t := by
  have := h.lt
  unfold CB at h ⊢; rw [k.block b this hb]; exact h
theorem KR.bel {lo hi B : Nat} (k : KR lo hi W W') (h : B ≤ lo) (hB : B ≤ W.heap.size) : Below B W W' := ⟨k.os, k.tape, k.output, k.size, fun j hj => k.block j (by omega) (by omega)⟩
theorem TC.kr {lo hi : Nat} (h : TC w fa flen fcap fc fd fu ad len cap es hd W) (k : KR lo hi W W') (hlo : w.heap.size + 2 ≤ lo) (hc : CR w fa flen fc) (he : ER w ad len es) : TC w fa flen fcap fc fd fu ad len cap es hd W' := by
  have b : Below w.heap.size w W' := h.bl.trans (k.bel (by omega) h.bl.size)
  exact ⟨h.xf.kr2 k (by omega), h.xl.kr2 k (by omega), hc.below b, he.below b, b⟩
/-- Lines that lie in a block below q. -/
def OldR (q : Nat) (W : World) (ad : Option Addr) (n : Nat) (ls : Nat → L5) : Prop := n = 0 ∨ ∃ b, ad = some ⟨b, 0, none⟩ ∧ b < q ∧ LR W (some ⟨b, 0, none⟩) n ls
theorem NewR.old {lo n : Nat} {ls : Nat → L5} (h : NewR lo W ad n ls) : OldR W.heap.size W ad n ls := by
  rcases h with h | ⟨b, e, _, hr⟩
  · exact .inl h
  · by_cases h0 : n = 0
    · exact .inl h0
    · obtain ⟨k, off, e2, hk⟩ := hr.addr (by omega)
      cases e2
      exact .inr ⟨b, e, hk, hr⟩
theorem OldR.row {q n : Nat} {ls : Nat → L5} (h : OldR q W ad n ls) : LR W ad n ls := by
  rcases h with h | ⟨b, rfl, _, hr⟩
  · exact .inl h
  · exact hr
theorem OldR.below {q n : Nat} {ls : Nat → L5} (h : OldR q W ad n ls) (k : Below W.heap.size W W') : OldR q W' ad n ls := by
  rcases h with h | ⟨b, e, hb, hr⟩
  · exact .inl h
  · exact .inr ⟨b, e, hb, hr.below k⟩
theorem OldR.kr {q n lo hi : Nat} {ls : Nat → L5} (h : OldR q W ad n ls) (k : KR lo hi W W') (hq : q ≤ lo) : OldR q W' ad n ls := by
  rcases h with h | ⟨b, e, hb, hr⟩
  · exact .inl h
  · refine .inr ⟨b, e, hb, ?_⟩
    rcases hr with h0 | ⟨k', off, e2, hk, hc⟩
    · exact .inl h0
    · cases e2
      exact .inr ⟨b, 0, rfl, Nat.lt_of_lt_of_le hk k.size, fun j hj => (hc j hj).block (k.block b hk (.inl (by omega)))⟩
theorem OldR.mono {q q' n : Nat} {ls : Nat → L5} (h : OldR q W ad n ls) (hq : q ≤ q') : OldR q' W ad n ls := by
  rcases h with h | ⟨b, e, hb, hr⟩
  · exact .inl h
  · exact .inr ⟨b, e, by omega, hr⟩
theorem NewR.below {lo n : Nat} {ls : Nat → L5} (h : NewR lo W ad n ls) (k : Below W.heap.size W W') : NewR lo W' ad n ls := by
  rcases h with h | ⟨b, e, hb, hr⟩
  · exact .inl h
  · exact .inr ⟨b, e, hb, hr.below k⟩
theorem NewR.set {lo n c o : Nat} {ls : Nat → L5} (h : NewR lo W ad n ls) (v : Value) (hc : c < lo) : NewR lo (W.setCell ⟨c, o, none⟩ v) ad n ls := by
  rcases h with h | ⟨b, e, hb, hr⟩
  · exact .inl h
  · exact .inr ⟨b, e, hb, hr.other _ (by omega)⟩
theorem NewL.r {lo hi n : Nat} {ls : Nat → L5} {t : TypeId} (h : NewL lo hi W ad n ls t) : NewR lo W ad n ls := by
  rcases h with h | ⟨b, rfl, hb, hr⟩
  · exact .inl h
  · exact .inr ⟨b, rfl, hb.1, hr.row⟩
end
/-- The program's boxes and rows, and both answers. -/
structure UC (fc : Nat → C3) (flen : Nat) (fd fu : Int) (es : Nat → E4) (len : Nat) (hd : Int) (p9 b9 p10 b10 lo hi : Nat) (cs9 : Array Value) (R : E4) (P q : Nat) (oa : Option Addr) (oc p14 glo ghi : Nat) (ga : Option Addr) (gc : Nat) (W : World) : Prop where
  x9 : CB W p9 #[.slice (some ⟨b9, 0, none⟩) flen flen, .int .i64 fd, .int .i64 fu] 26
  x10 : CB W p10 #[.slice (some ⟨b10, 0, none⟩) len len, .int .i64 hd] 29
  c9 : CR W (some ⟨b9, 0, none⟩) flen fc
  k9 : CB W b9 cs9 182
  n10 : NewE lo hi W (some ⟨b10, 0, none⟩) len es 32 56
  x0 : CB W P #[.int .i64 R.day, .int .i64 R.ref, .string R.text, .slice oa R.n oc] 32
  o : OldR q W oa R.n R.ls
  xg : CB W p14 #[.int .i64 R.day, .int .i64 R.ref, .string R.text, .slice ga R.n gc] 32
  g : NewL glo ghi W ga R.n R.ls 56
section
variable {fc : Nat → C3} {flen : Nat} {fd fu : Int} {es : Nat → E4} {len : Nat} {hd : Int} {p9 b9 p10 b10 lo hi : Nat} {cs9 : Array Value} {R : E4} {P q : Nat} {oa : Option Addr} {oc p14 glo ghi : Nat} {ga : Option Addr} {gc : Nat} {W W' : World}
theorem UC.below (h : UC fc flen fd fu es len hd p9 b9 p10 b10 lo hi cs9 R P q oa oc p14 glo ghi ga gc W) (b : Below W.heap.size W W') : UC fc flen fd fu es len hd p9 b9 p10 b10 lo hi cs9 R P q oa oc p14 glo ghi ga gc W' :=
  ⟨h.x9.below b h.x9.lt, h.x10.below b h.x10.lt, h.c9.below b, h.k9.below b h.k9.lt, h.n10.below b, h.x0.below b h.x0.lt, h.o.below b, h.xg.below b h.xg.lt, h.g.below b⟩
theorem UC.drew (h : UC fc flen fd fu es len hd p9 b9 p10 b10 lo hi cs9 R P q oa oc p14 glo ghi ga gc W) : UC fc flen fd fu es len hd p9 b9 p10 b10 lo hi cs9 R P q oa oc p14 glo ghi ga gc W.drew := h.below (Below.refl _ _).drew
end
/-- Both answers behind the marks. -/
structure VC (R : E4) (P q : Nat) (oa : Option Addr) (oc p14 glo ghi : Nat) (ga : Option Addr) (gc B : Nat) (W : World) : Prop where
  x0 : CB W P #[.int .i64 R.day, .int .i64 R.ref, .string R.text, .slice oa R.n oc] 32
  o : OldR q W oa R.n R.ls
  xg : CB W p14 #[.int .i64 R.day, .int .i64 R.ref, .string R.text, .slice ga R.n gc] 32
  g : NewL glo ghi W ga R.n (mkL 1) 56
  bd : P < B ∧ q ≤ B ∧ p14 < B ∧ ghi ≤ B
section
variable {R : E4} {P q : Nat} {oa : Option Addr} {oc p14 glo ghi : Nat} {ga : Option Addr} {gc B : Nat} {W W' : World}
theorem VC.below (h : VC R P q oa oc p14 glo ghi ga gc B W) (b : Below W.heap.size W W') : VC R P q oa oc p14 glo ghi ga gc B W' := ⟨h.x0.below b h.x0.lt, h.o.below b, h.xg.below b h.xg.lt, h.g.below b, h.bd⟩
theorem kr_set {b o : Nat} (v : Value) : KR b (b + 1) W (W.setCell ⟨b, o, none⟩ v) := (KR.refl _ _ _).set (Nat.le_refl _) (by omega) v
theorem VC.set {b o : Nat} (h : VC R P q oa oc p14 glo ghi ga gc B W) (v : Value) (hb : B ≤ b) : VC R P q oa oc p14 glo ghi ga gc B (W.setCell ⟨b, o, none⟩ v) := by
  obtain ⟨h1, h2, h3, h4⟩ := h.bd
  exact ⟨h.x0.other _ (by omega), h.o.kr (kr_set v) (by omega), h.xg.other _ (by omega), h.g.kr (kr_set v) (by omega), h.bd⟩
theorem NewR.row {lo n : Nat} {ls : Nat → L5} {ad : Option Addr} (h : NewR lo W ad n ls) : LR W ad n ls := by
  rcases h with h | ⟨b, rfl, _, hr⟩
  · exact .inl h
  · exact hr
end
end Go.Proofs.YtgnhpjlfdkpaiaaDoor
