/- Landed of the program. -/
import Derived.Test.YtdgccdlaokbnhaaNa
import Derived.Test.YtdgccdlaokbnhaaWa
import Derived.Deep.RegionHeld3
namespace Go.Proofs.Ytdgccdlaokbnhaa
open Go Go.ChangeShapes Go.WideShapes Go.ChangeAt Go.RowKit
set_option linter.unusedVariables false
set_option linter.unusedSimpArgs false


theorem cell_oth {w : World} {a b p q : Nat} {u v : Value} (h : b ≠ a) (hc : w.cell? ⟨b, q, none⟩ = some v) : (w.setCell ⟨a, p, none⟩ u).cell? ⟨b, q, none⟩ = some v := by
  rw [World.cell?_of_block (w := w) (Below.heap_setCell _ _ _ _ (by simpa using h))]; exact hc
/-- What Landed answers. -/
def LdR (n : Nat) (c : Nat → LA2) (T b : Int) (w : World) (e : Ending) (w' : World) : Prop :=
  ∃ ad cap, e = .returned (.tuple #[.slice ad (ldM n c T b) cap, .bool (ldB n c T b)]) ∧ OwnLA2 w' w.heap.size ad (ldM n c T b) (laF T n b c) ∧ Below w.heap.size w w'
theorem ldM_no {n : Nat} {c : Nat → LA2} {T b : Int} (h : ¬ LdP n c T b) : ldM n c T b = 0 := by unfold ldM; rw [ldB_f h]; rfl
theorem ldM_ok {n : Nat} {c : Nat → LA2} {T b : Int} (h : LdP n c T b) : ldM n c T b = n := by unfold ldM; rw [ldB_t h]; rfl
theorem sh0 {T : Int} {z : Nat → Int} : Sh.shM T 0 z = 0 := Sh.shM_no (fun h => by have := h.2.2.2; simp [Sh.sm] at this)
set_option maxRecDepth 20000 in
set_option maxHeartbeats 8000000 in
theorem implLanded_any (ad : Option Addr) (n cap : Nat) (T b : Int) (c : Nat → LA2) (w : World) (h : (n : Int) ≤ 1048576) (hr : LAr w ad n c) :
    Calls Try.prog 24 #[.slice ad n cap, .int .i64 T, .int .i64 b] w (LdR n c T b w) := by
  have HR : Hid (LAr w ad n c) := hr
  clear hr
  unfold LdR
  cases ha : arB 200 n c
  · have hno : ¬ LdP n c T b := fun H => by rw [arB_t H.ar] at ha; cases ha
    rw [ldM_no hno, ldB_f hno]
    have HA : Hid (arB 200 n c = false) := ha
    have HT : Hid (inB T 0 100000000000 = inB T 0 100000000000) := rfl
    clear ha hno
    go_enter Try.func24, Try.ntmps24
    go_wp2_with (first
    | (go_at_call 61; refine (areLay_eq 200 ad n cap c _ _ h HR.out HA.out).mono ?_; rintro e w1 ⟨rfl, b1⟩; have HB1 : Hid (Below w.heap.size w w1) := hid b1; clear b1)
    | (go_at_call 65; refine (isAmt0_eq _ _ _ HT.out).mono ?_; rintro e w2 ⟨rfl, ew⟩; replace ew := ew.symm; subst ew))
    go_returns
    exact ⟨_, _, rfl, .inl rfl, HB1.out.alloc HB1.out.size _⟩
  obtain ⟨hn0, hlay⟩ := arB_p ha
  have HA : Hid (arB 200 n c = true) := ha
  cases ht : inB T 0 100000000000
  · have hno : ¬ LdP n c T b := fun H => by have := H.ex; have := inB_f ht; omega
    rw [ldM_no hno, ldB_f hno]
    have HT : Hid (inB T 0 100000000000 = false) := ht
    clear ha ht hno hlay
    go_enter Try.func24, Try.ntmps24
    go_wp2_with (first
    | (go_at_call 61; refine (areLay_eq 200 ad n cap c _ _ h HR.out HA.out).mono ?_; rintro e w1 ⟨rfl, b1⟩; have HB1 : Hid (Below w.heap.size w w1) := hid b1; clear b1)
    | (go_at_call 65; refine (isAmt0_eq _ _ _ HT.out).mono ?_; rintro e w2 ⟨rfl, ew⟩; replace ew := ew.symm; subst ew))
    go_returns
    exact ⟨_, _, rfl, .inl rfl, HB1.out.alloc HB1.out.size _⟩
  obtain ⟨t0, t1⟩ := inB_t ht
  have HT : Hid (inB T 0 100000000000 = true) := ht
  have HL : Hid (∀ j, j < n → laB (c j) = true) := hlay
  clear ha ht hlay
  by_cases hb : 1 ≤ b ∧ b ≤ 3
  case neg =>
    have hno : ¬ LdP n c T b := fun H => hb H.bb
    rw [ldM_no hno, ldB_f hno]
    have HSM : Hid (Sh.shM T 0 (fun _ => 0) = 0) := sh0
    have HBN : Hid (¬ (1 ≤ b ∧ b ≤ 3)) := hb
    clear hno hb
    go_enter Try.func24, Try.ntmps24
    go_wp2_with (first
    | (go_at_call 61; refine (areLay_eq 200 ad n cap c _ _ h HR.out HA.out).mono ?_; rintro e w1 ⟨rfl, b1⟩; have HB1 : Hid (Below w.heap.size w w1) := hid b1; clear b1)
    | (go_at_call 65; refine (isAmt0_eq _ _ _ HT.out).mono ?_; rintro e w2 ⟨rfl, ew⟩; replace ew := ew.symm; subst ew)
    | (go_at_call 73; refine (spread_no b ad n cap c _ hn0 HBN.out (HR.out.below HB1.out)).mono ?_; rintro e w3 ⟨adw, capw, rfl, o3, b3⟩; have HI3 : Hid (IR w3 adw 0 (fun _ => 0)) := hid (own_IR o3 (fun j hj => by omega)); have HB3 : Hid (Below w.heap.size w w3) := hid (bel_on HB1.out b3); clear o3 b3)
    | (go_at_call 72; refine (Sh.implShares_any T adw 0 capw (fun _ => 0) _ (by omega) HI3.out).mono ?_; rintro e w4 ⟨ads, caps, he, o4, b4⟩; rw [HSM.out] at he o4; subst he; have HO4 := hid o4; have HB4 : Hid (Below w.heap.size w w4) := hid (bel_on HB3.out b4); have HS4 := hid b4.size; clear o4 b4))
    go_returns
    exact ⟨_, _, rfl, .inl rfl, HB4.out.alloc HB4.out.size _⟩
  obtain ⟨b1, b3⟩ := hb
  by_cases hs : Sh.ShOk T n (wtF b c)
  case neg =>
    have hno : ¬ LdP n c T b := fun H => hs H.sh
    rw [ldM_no hno, ldB_f hno]
    have HSM : Hid (Sh.shM T n (wtF b c) = 0) := Sh.shM_no hs
    clear hno hs
    go_enter Try.func24, Try.ntmps24
    go_wp2_with (first
    | (go_at_call 61; refine (areLay_eq 200 ad n cap c _ _ h HR.out HA.out).mono ?_; rintro e w1 ⟨rfl, b1⟩; have HB1 : Hid (Below w.heap.size w w1) := hid b1; clear b1)
    | (go_at_call 65; refine (isAmt0_eq _ _ _ HT.out).mono ?_; rintro e w2 ⟨rfl, ew⟩; replace ew := ew.symm; subst ew)
    | (go_at_call 73; refine (spread_any b ad n cap c _ hn0 b1 b3 (HR.out.below HB1.out)).mono ?_; rintro e w3 ⟨adw, capw, rfl, o3, b3⟩; have HI3 : Hid (IR w3 adw n (wtF b c)) := hid (own_IR o3 (fun j hj => Sh.intL_get hj)); have HB3 : Hid (Below w.heap.size w w3) := hid (bel_on HB1.out b3); clear o3 b3)
    | (go_at_call 72; refine (Sh.implShares_any T adw n capw (wtF b c) _ (by omega) HI3.out).mono ?_; rintro e w4 ⟨ads, caps, he, o4, b4⟩; rw [HSM.out] at he o4; subst he; have HO4 := hid o4; have HB4 : Hid (Below w.heap.size w w4) := hid (bel_on HB3.out b4); have HS4 := hid b4.size; clear o4 b4))
    go_returns
    exact ⟨_, _, rfl, .inl rfl, HB4.out.alloc HB4.out.size _⟩
  have HSM : Hid (Sh.shM T n (wtF b c) = n) := Sh.shM_ok hs
  have hn1 : 0 < n := by
    rcases Nat.eq_zero_or_pos n with e | e
    · subst e; have := hs.2.2.2; simp [Sh.sm] at this
    · exact e
  have HBD : Hid (∀ j, j < n → 0 ≤ Sh.shV T n (wtF b c) j ∧ Sh.shV T n (wtF b c) j ≤ T) := hid (sh_bd hs t0)
  obtain ⟨V0, hV0⟩ : ∃ V0, Sh.shV T n (wtF b c) = V0 := ⟨_, rfl⟩
  have HV0 : Hid (Sh.shV T n (wtF b c) = V0) := hV0
  have HS : Hid (Sh.ShOk T n (wtF b c)) := hs
  obtain ⟨aa, rfl⟩ : ∃ a, ad = some a := by obtain ⟨kb, off, e, _⟩ := HR.out.addr hn1; exact ⟨_, e⟩
  have hnn : ¬ (n : Int) = 0 := by omega
  have hne : ((n : Int) == 0) = false := by simpa using hnn
  clear hs hV0
  obtain ⟨M, hM⟩ : ∃ M, ldM n c T b = M := ⟨_, rfl⟩
  obtain ⟨BV, hBV⟩ : ∃ BV, ldB n c T b = BV := ⟨_, rfl⟩
  rw [hM, hBV]
  have HM : Hid (ldM n c T b = M ∧ ldB n c T b = BV) := ⟨hM, hBV⟩
  clear hM hBV
  go_enter Try.func24, Try.ntmps24
  go_wp2_with (first
    | (go_at_call 61; refine (areLay_eq 200 (some aa) n cap c _ _ h HR.out HA.out).mono ?_; rintro e w1 ⟨rfl, b1⟩; have HB1 : Hid (Below w.heap.size w w1) := hid b1; clear b1)
    | (go_at_call 65; refine (isAmt0_eq _ _ _ HT.out).mono ?_; rintro e w2 ⟨rfl, ew⟩; replace ew := ew.symm; subst ew)
    | (go_at_call 73; refine (spread_any b (some aa) n cap c _ hn0 b1 b3 (HR.out.below HB1.out)).mono ?_; rintro e w3 ⟨adw, capw, rfl, o3, b3⟩; have HI3 : Hid (IR w3 adw n (wtF b c)) := hid (own_IR o3 (fun j hj => Sh.intL_get hj)); have HB3 : Hid (Below w.heap.size w w3) := hid (bel_on HB1.out b3); clear o3 b3)
    | (go_at_call 72; refine (Sh.implShares_any T adw n capw (wtF b c) _ (by omega) HI3.out).mono ?_; rintro e w4 ⟨ads, caps, he, o4, b4⟩; rw [HSM.out] at he o4; subst he; have HO4 := hid o4; have HB4 : Hid (Below w.heap.size w w4) := hid (bel_on HB3.out b4); have HS4 := hid b4.size; clear o4 b4)
    | (go_at_call 49; refine (copyLays_some aa n cap c _ h (HR.out.below HB4.out)).mono ?_; rintro e w5 ⟨v5, rfl, o5, b5⟩; obtain ⟨ad5, cp5, rfl, hcp5, o5⟩ := ownLA2_of o5; have HI5 : Hid (IR w5 ads n V0) := hid ((own_IR HO4.out (fun j hj => by rw [← HV0.out]; exact Sh.intL_get hj)).below b5); have HB5 : Hid (Below w.heap.size w w5) := hid (bel_on HB4.out b5); obtain ⟨sb, so, rfl, hsb⟩ := HI5.out.addr hn1; have hsl : sb < w4.heap.size := (HO4.out.lt sb rfl).2; rcases o5 with e | ⟨g, cs5, rfl, hg5, hC5, hs5, hc5⟩; (omega); have HC5 := hid hC5; have HSZ5 := hid hs5; have HCC5 := hid hc5; have HNE : Hid (sb ≠ g) := hid (by omega); have HGW : Hid (w.heap.size ≤ g) := hid (by have := HB4.out.size; omega); clear b5 hC5 hs5 hc5 hg5 hsl hsb))
  go_loopw [33] (fun i wr => ∃ (k : Nat) (cs : Array Value), k ≤ n ∧ i = .int .i64 (k : Int) ∧ Hid (CB wr g cs 40 ∧ n * 2 ≤ cs.size ∧ (∀ j, j < n → cs[j * 2]? = some (.int .i64 (c j).qty) ∧ cs[j * 2 + 1]? = some (.int .i64 (if j < k then (c j).cost + V0 j else (c j).cost))) ∧ (∀ j, j < k → (c j).cost + V0 j ≤ 100000000000)) ∧ Hid (IR wr (some ⟨sb, so, none⟩) n V0) ∧ Hid (Below w.heap.size w wr)) (fun i _ => n - (intOf i).toNat)
  case atStart => exact ⟨0, cs5, Nat.zero_le _, rfl, ⟨HC5.out, HSZ5.out, fun j hj => by rw [if_neg (by omega)]; exact HCC5.out j hj, fun j hj => by omega⟩, HI5.out, HB5.out⟩
  case round =>
    obtain ⟨k, cs, hk, rfl, HC, HI, HB⟩ := hrel
    by_cases hlt : k < n
    · have hlt2 : (k : Int) < (n : Int) := by omega
      have sv := HI.out.cell hlt
      obtain ⟨e0, e1⟩ := HC.out.2.2.1 k hlt
      rw [if_neg (by omega)] at e1
      have d0 := (HC.out.1.cell (k * 2)).trans e0
      have d1 := (HC.out.1.cell (k * 2 + 1)).trans e1
      have f1 := HC.out.1.fr (k * 2 + 1)
      obtain ⟨_, g3, g4⟩ := laB_p (HL.out k hlt)
      obtain ⟨v1, v2⟩ := HBD.out k hlt
      rw [HV0.out] at v1 v2
      obtain ⟨V, hV⟩ : ∃ V, V0 k = V := ⟨_, rfl⟩
      rw [hV] at v1 v2 sv
      obtain ⟨y, hy⟩ : ∃ y, (c k).cost = y := ⟨_, rfl⟩
      rw [hy] at d1 g3 g4
      have HVY : Hid (V0 k = V ∧ (c k).cost = y) := ⟨hV, hy⟩
      clear hV hy e0 e1 d0
      have hwp : IntKind.i64.wrap (y + V) = y + V := IntWalk.i64_in _ ⟨by omega, by omega⟩
      go_wp2
      have HX : Hid (wr.drew.cell? ⟨sb, so + k, none⟩ = some (.int .i64 V)) := hid sv
      have HY : Hid ((wr.setCell ⟨g, k * 2 + 1, none⟩ (.int .i64 (y + V))).drew.cell? ⟨sb, so + k, none⟩ = some (.int .i64 V)) := hid (cell_oth HNE.out sv)
      have HCE : Hid (wr.drew.cell? ⟨g, 0 + k * 2 + 1, none⟩ = some (.int .i64 y)) := hid (by rw [Nat.zero_add]; exact d1)
      refine wp_region_noPanic ?_
      refine wp_region_held_drew (S := fun w' => w'.cell? ⟨sb, so + k, none⟩ = some (.int .i64 V)) (by kernel_rfl) (by exact HX.out) (fun hHeld => ?_)
      refine wpAnyH_take (i := 0) (oi := { dst := some 36, op := Go.Op.move (Go.Operand.tmp 9), type := 24, pos := "l16_cost.go:270", after := #[], guard := none }) (v := ?_) rfl (by kernel_rfl) (by kernel_rfl) (by kernel_rfl) (fun _ _ _ h => h) (Or.inl ⟨by rfl, ?_⟩) (by assumption) ?_
      rotate_left
      · (intro w hSw; (try dsimp only at hSw); go_simp <;> try with_reducible rfl)
      try simp only [Act.put, List.setIfInBounds_toArray, List.set_cons_zero, List.set_cons_succ]
      refine wpAnyH_take (i := 1) (oi := { dst := some 37, op := Go.Op.move (Go.Operand.tmp 10), type := 3, pos := "l16_cost.go:270", after := #[], guard := none }) (v := ?_) rfl (by kernel_rfl) (by kernel_rfl) (by kernel_rfl) (fun _ _ _ h => h) (Or.inl ⟨by rfl, ?_⟩) (by assumption) ?_
      rotate_left
      · (intro w hSw; (try dsimp only at hSw); go_simp <;> try with_reducible rfl)
      try simp only [Act.put, List.setIfInBounds_toArray, List.set_cons_zero, List.set_cons_succ]
      refine wpAnyH_take (i := 2) (oi := { dst := some 38, op := Go.Op.indexAddr 24 (Go.Operand.tmp 36) (Go.Operand.tmp 37), type := 0, pos := "l16_cost.go:270", after := #[{ on := 0, ground := Go.Ground.data }, { on := 1, ground := Go.Ground.data }], guard := none }) (v := ?_) rfl (by kernel_rfl) (by kernel_rfl) (by kernel_rfl) (fun _ _ _ h => h) (Or.inl ⟨by rfl, ?_⟩) (by assumption) ?_
      rotate_left
      · (intro w hSw; (try dsimp only at hSw); go_simp <;> try with_reducible rfl)
      try simp only [Act.put, List.setIfInBounds_toArray, List.set_cons_zero, List.set_cons_succ]
      refine wpAnyH_take (i := 3) (oi := { dst := some 39, op := Go.Op.fieldAddr 40 (Go.Operand.tmp 38) 1, type := 0, pos := "l16_cost.go:270", after := #[{ on := 2, ground := Go.Ground.data }], guard := none }) (v := ?_) rfl (by kernel_rfl) (by kernel_rfl) (by kernel_rfl) (fun _ _ _ h => h) (Or.inl ⟨by rfl, ?_⟩) (by assumption) ?_
      rotate_left
      · (intro w hSw; (try dsimp only at hSw); go_simp <;> try with_reducible rfl)
      try simp only [Act.put, List.setIfInBounds_toArray, List.set_cons_zero, List.set_cons_succ]
      refine wpAnyH_take (i := 5) (oi := { dst := some 41, op := Go.Op.move (Go.Operand.tmp 8), type := 27, pos := "l16_cost.go:270", after := #[], guard := none }) (v := ?_) rfl (by kernel_rfl) (by kernel_rfl) (by kernel_rfl) (fun _ _ _ h => h) (Or.inl ⟨by rfl, ?_⟩) (by assumption) ?_
      rotate_left
      · (intro w hSw; (try dsimp only at hSw); go_simp <;> try with_reducible rfl)
      try simp only [Act.put, List.setIfInBounds_toArray, List.set_cons_zero, List.set_cons_succ]
      refine wpAnyH_take (i := 6) (oi := { dst := some 42, op := Go.Op.move (Go.Operand.tmp 10), type := 3, pos := "l16_cost.go:270", after := #[], guard := none }) (v := ?_) rfl (by kernel_rfl) (by kernel_rfl) (by kernel_rfl) (fun _ _ _ h => h) (Or.inl ⟨by rfl, ?_⟩) (by assumption) ?_
      rotate_left
      · (intro w hSw; (try dsimp only at hSw); go_simp <;> try with_reducible rfl)
      try simp only [Act.put, List.setIfInBounds_toArray, List.set_cons_zero, List.set_cons_succ]
      refine wpAnyH_take (i := 7) (oi := { dst := some 43, op := Go.Op.indexAddr 27 (Go.Operand.tmp 41) (Go.Operand.tmp 42), type := 0, pos := "l16_cost.go:270", after := #[{ on := 5, ground := Go.Ground.data }, { on := 6, ground := Go.Ground.data }], guard := none }) (v := ?_) rfl (by kernel_rfl) (by kernel_rfl) (by kernel_rfl) (fun _ _ _ h => h) (Or.inl ⟨by rfl, ?_⟩) (by assumption) ?_
      rotate_left
      · (intro w hSw; (try dsimp only at hSw); go_simp <;> try with_reducible rfl)
      try simp only [Act.put, List.setIfInBounds_toArray, List.set_cons_zero, List.set_cons_succ]
      refine wpAnyH_take (i := 8) (oi := { dst := some 44, op := Go.Op.load 3 (Go.Operand.tmp 43), type := 3, pos := "l16_cost.go:270", after := #[{ on := 7, ground := Go.Ground.data }], guard := none }) (v := ?_) rfl (by kernel_rfl) (by kernel_rfl) (by kernel_rfl) (fun _ _ _ h => h) (Or.inl ⟨by rfl, ?_⟩) (by assumption) ?_
      rotate_left
      · (intro w hSw; (try dsimp only at hSw); go_simp <;> try with_reducible rfl)
      try simp only [Act.put, List.setIfInBounds_toArray, List.set_cons_zero, List.set_cons_succ]
      refine wpAnyH_ready (rs := [4]) (by kernel_rfl) (by simp) ?_
      refine AllReadyH.cons (o := { dst := some 40, op := Go.Op.load 3 (Go.Operand.tmp 39), type := 3, pos := "l16_cost.go:270", after := #[{ on := 3, ground := Go.Ground.data }], guard := none }) rfl (fun K hK => ?_) (AllReadyH.nil)
      have hce := HCE.out
      simp only [Nat.zero_add] at hce
      go_simp
      refine hK.out _ _ (by exact HX.out) (fun hHeld => ?_)
      clear hK K hce
      try simp only [Act.put, List.setIfInBounds_toArray, List.set_cons_zero, List.set_cons_succ]
      refine wpAnyH_take (i := 9) (oi := { dst := some 45, op := Go.Op.binOp Go.BinOp.add 3 (Go.Operand.tmp 40) (Go.Operand.tmp 44) 3, type := 3, pos := "l16_cost.go:270", after := #[{ on := 4, ground := Go.Ground.data }, { on := 8, ground := Go.Ground.data }], guard := none }) (v := ?_) rfl (by kernel_rfl) (by kernel_rfl) (by kernel_rfl) (fun _ _ _ h => h) (Or.inl ⟨by rfl, ?_⟩) (by assumption) ?_
      rotate_left
      · (intro w hSw; (try dsimp only at hSw); go_simp <;> try with_reducible rfl)
      try simp only [Act.put, List.setIfInBounds_toArray, List.set_cons_zero, List.set_cons_succ]
      refine wpAnyH_take (i := 10) (oi := { dst := some 46, op := Go.Op.indexAddr 24 (Go.Operand.tmp 36) (Go.Operand.tmp 37), type := 0, pos := "l16_cost.go:270", after := #[{ on := 0, ground := Go.Ground.data }, { on := 1, ground := Go.Ground.data }, { on := 0, ground := Go.Ground.phase }, { on := 1, ground := Go.Ground.phase }, { on := 2, ground := Go.Ground.phase }, { on := 3, ground := Go.Ground.phase }, { on := 4, ground := Go.Ground.phase }, { on := 5, ground := Go.Ground.phase }, { on := 6, ground := Go.Ground.phase }, { on := 7, ground := Go.Ground.phase }, { on := 8, ground := Go.Ground.phase }, { on := 9, ground := Go.Ground.phase }], guard := none }) (v := ?_) rfl (by kernel_rfl) (by kernel_rfl) (by kernel_rfl) (fun _ _ _ h => h) (Or.inl ⟨by rfl, ?_⟩) (by assumption) ?_
      rotate_left
      · (intro w hSw; (try dsimp only at hSw); go_simp <;> try with_reducible rfl)
      try simp only [Act.put, List.setIfInBounds_toArray, List.set_cons_zero, List.set_cons_succ]
      refine wpAnyH_take (i := 11) (oi := { dst := some 47, op := Go.Op.fieldAddr 40 (Go.Operand.tmp 46) 1, type := 0, pos := "l16_cost.go:270", after := #[{ on := 10, ground := Go.Ground.data }, { on := 0, ground := Go.Ground.phase }, { on := 1, ground := Go.Ground.phase }, { on := 2, ground := Go.Ground.phase }, { on := 3, ground := Go.Ground.phase }, { on := 4, ground := Go.Ground.phase }, { on := 5, ground := Go.Ground.phase }, { on := 6, ground := Go.Ground.phase }, { on := 7, ground := Go.Ground.phase }, { on := 8, ground := Go.Ground.phase }, { on := 9, ground := Go.Ground.phase }], guard := none }) (v := ?_) rfl (by kernel_rfl) (by kernel_rfl) (by kernel_rfl) (fun _ _ _ h => h) (Or.inl ⟨by rfl, ?_⟩) (by assumption) ?_
      rotate_left
      · (intro w hSw; (try dsimp only at hSw); go_simp <;> try with_reducible rfl)
      try simp only [Act.put, List.setIfInBounds_toArray, List.set_cons_zero, List.set_cons_succ]
      refine wpAnyH_ready (rs := [12]) (by kernel_rfl) (by simp) ?_
      refine AllReadyH.cons (o := { dst := none, op := Go.Op.store 3 (Go.Operand.tmp 47) (Go.Operand.tmp 45), type := 0, pos := "l16_cost.go:270", after := #[{ on := 11, ground := Go.Ground.data }, { on := 9, ground := Go.Ground.data }, { on := 0, ground := Go.Ground.phase }, { on := 1, ground := Go.Ground.phase }, { on := 2, ground := Go.Ground.phase }, { on := 3, ground := Go.Ground.phase }, { on := 4, ground := Go.Ground.phase }, { on := 5, ground := Go.Ground.phase }, { on := 6, ground := Go.Ground.phase }, { on := 7, ground := Go.Ground.phase }, { on := 8, ground := Go.Ground.phase }, { on := 9, ground := Go.Ground.phase }], guard := none }) rfl (fun K hK => ?_) (AllReadyH.nil)
      go_simp
      refine hK.out _ _ (by exact HY.out) (fun hHeld => ?_)
      clear hK K
      try simp only [Act.put, List.setIfInBounds_toArray, List.set_cons_zero, List.set_cons_succ]
      refine wpAnyH_done (by kernel_rfl) ?_ _
      refine NoPanic.normal ?_
      clear hHeld HX HY HCE
      have HC2 : Hid (CB (wr.setCell ⟨g, k * 2 + 1, none⟩ (.int .i64 (y + V))).drew g (cs.setIfInBounds (k * 2 + 1) (.int .i64 (y + V))) 40) := hid (HC.out.1.set _ _)
      have HI2 : Hid (IR (wr.setCell ⟨g, k * 2 + 1, none⟩ (.int .i64 (y + V))).drew (some ⟨sb, so, none⟩) n V0) := hid (HI.out.other _ HNE.out)
      have HB2 : Hid (Below w.heap.size w (wr.setCell ⟨g, k * 2 + 1, none⟩ (.int .i64 (y + V))).drew) := hid ((HB.out.setCell HGW.out _).drew)
      clear d1 f1 sv
      generalize (wr.setCell ⟨g, k * 2 + 1, none⟩ (.int .i64 (y + V))).drew = w7 at HC2 HI2 HB2 ⊢
      have d7 : w7.cell? ⟨g, k * 2 + 1, none⟩ = some (.int .i64 (y + V)) := (HC2.out.cell _).trans (get_set_eq (by have := HC.out.2.1; omega))
      cases hv : inB (y + V) (-100000000000) 100000000000
      · have hno : ¬ LdP n c T b := fun H => by have := H.co k hlt; simp only [laF] at this; rw [HV0.out, HVY.out.1, HVY.out.2] at this; have := inB_f hv; omega
        obtain rfl : M = 0 := by rw [← HM.out.1]; exact ldM_no hno
        obtain rfl : BV = false := by rw [← HM.out.2]; exact ldB_f hno
        have HVV := hid hv
        clear hv hno
        go_wp2_with (go_at_call 74; refine (isAmt_eq _ _ _ HVV.out).mono ?_; rintro e w8 ⟨rfl, ew⟩; replace ew := ew.symm; subst ew)
        go_returns
        exact ⟨_, _, rfl, .inl rfl, HB2.out.alloc HB2.out.size _⟩
      · have HVV := hid hv
        have HLE : Hid (y + V ≤ 100000000000) := hid (inB_t hv).2
        clear hv
        go_wp2_with (go_at_call 74; refine (isAmt_eq _ _ _ HVV.out).mono ?_; rintro e w8 ⟨rfl, ew⟩; replace ew := ew.symm; subst ew)
        go_roundw
        case rel =>
          refine ⟨k + 1, _, by omega, by go_num, ⟨HC2.out, by simpa using HC.out.2.1, fun j hj => ?_, fun j hj => ?_⟩, HI2.out, HB2.out⟩
          · obtain ⟨q0, q1⟩ := HC.out.2.2.1 j hj
            refine ⟨by rw [get_set_ne (by omega)]; exact q0, ?_⟩
            by_cases e : j = k
            · subst e
              rw [get_set_eq (by have := HC.out.2.1; omega), if_pos (by omega), HVY.out.1, HVY.out.2]
            · rw [get_set_ne (by omega), q1]
              by_cases e2 : j < k
              · rw [if_pos e2, if_pos (by omega)]
              · rw [if_neg e2, if_neg (by omega)]
          · by_cases e : j = k
            · subst e; rw [HVY.out.1, HVY.out.2]; exact HLE.out
            · exact HC.out.2.2.2 j (by omega)
        case measure => simp [intOf]; omega
    · obtain rfl : k = n := by omega
      have lkk : ¬ (k : Int) < (k : Int) := by omega
      have hok : LdP k c T b := ⟨⟨hn0, HL.out⟩, ⟨t0, t1⟩, ⟨b1, b3⟩, HS.out, fun j hj => by simp only [laF]; rw [HV0.out]; exact HC.out.2.2.2 j hj⟩
      have hMk : k = M := by rw [← HM.out.1]; exact (ldM_ok hok).symm
      subst hMk
      obtain rfl : BV = true := by rw [← HM.out.2]; exact ldB_t hok
      have HFIN : Hid (OwnLA2 wr w.heap.size (some ⟨g, 0, none⟩) k (laF T k b c)) := hid (.inr ⟨g, cs, rfl, HGW.out, HC.out.1, HC.out.2.1, fun j hj => by obtain ⟨q0, q1⟩ := HC.out.2.2.1 j hj; rw [if_pos hj] at q1; simp only [laF]; rw [HV0.out]; exact ⟨q0, q1⟩⟩)
      clear hok
      go_wp2
      go_returns
      first | exact ⟨_, _, rfl, HFIN.out, HB.out⟩ | exact ⟨_, ⟨_, rfl⟩, HFIN.out, HB.out⟩ | exact ⟨some ⟨g, 0, none⟩, cp5, HFIN.out, HB.out⟩ | exact ⟨some ⟨g, 0, none⟩, ⟨cp5, by simp⟩, HFIN.out, HB.out⟩
end Go.Proofs.Ytdgccdlaokbnhaa
