/- Spread, the model's. -/
import Derived.Test.YtgnhpjlfdkpaiaaDoorSpX
import Derived.Test.YtgnhpjlfdkpaiaaDoorSf
import Derived.Test.YtgnhpjlfdkpaiaaDoorSk
import Derived.Test.YtgnhpjlfdkpaiaaDoorHs
import Derived.Test.YtgnhpjlfdkpaiaaDoorGd2
import Derived.BigQuiet
import Derived.Deep.CutRange
namespace Go.Proofs.YtgnhpjlfdkpaiaaDoor
open Go Go.ChangeShapes Go.WideShapes Go.ChangeAt Go.RowKit
set_option linter.unusedVariables false
set_option linter.unusedSimpArgs false

def SpQ (M : Nat) (E : Nat → E4) (w : World) (e : Ending) (w' : World) : Prop := ∃ ad cap, e = .returned (.slice ad M cap) ∧ ER w' ad M E ∧ Below w.heap.size w w'
/-- The weights so far. -/
structure L1 (w : World) (fa : Option Addr) (len cap : Nat) (d u : Int) (z : Nat → Int) (k : Nat) (v : Value) (W : World) : Prop where
  fr : CB W w.heap.size #[.slice fa len cap, .int .i64 d, .int .i64 u] 26
  ou : CB W (w.heap.size + 1) #[] 32
  row : W.ownsRow (w.heap.size + 1 + 1) 3 1 v k (Sh.intL z k)
  bel : Below w.heap.size w W
/-- The entries so far. -/
structure L2 (w : World) (fa : Option Addr) (len cap : Nat) (d u : Int) (pa : Option Addr) (n pc pb : Nat) (S : Nat → Int) (E : Nat → E4) (k : Nat) (v : Value) (A : Nat → Option Addr) (C : Nat → Nat) (W : World) : Prop where
  fr : CB W w.heap.size #[.slice fa len cap, .int .i64 d, .int .i64 u] 26
  se : SE W (w.heap.size + 1) 32 v k E A C
  pr : W.ownsRow pb 3 1 (.slice pa n pc) n (Sh.intL S n)
  bel : Below w.heap.size w W
section
variable {w W W' : World} {fa : Option Addr} {len cap : Nat} {d u : Int} {z : Nat → Int} {k : Nat} {v v' : Value} {pa : Option Addr} {n pc pb : Nat} {S : Nat → Int} {E : Nat → E4} {A : Nat → Option Addr} {C : Nat → Nat}
theorem L1.below (h : L1 w fa len cap d u z k v W) (b : Below W.heap.size W W') : L1 w fa len cap d u z k v W' := ⟨h.fr.below b h.fr.lt, h.ou.below b h.ou.lt, Sh.row_below h.row b, bel_on h.bel b⟩
theorem L1.grow {o : Obj} {q : Int} (h : L1 w fa len cap d u z k v W) (hq : z k = q) (hown : W'.ownsRow (w.heap.size + 1 + 1) 3 1 v' (k + 1) (Sh.intL z k ++ [.int .i64 q])) (hg : (W.alloc o).grownBy W' v.ownBlock) : L1 w fa len cap d u z (k + 1) v' W' := by
  have h1 := h.fr.lt
  have h2 := h.ou.lt
  have blk : ∀ g, g < w.heap.size + 1 + 1 → g < W.heap.size → W'.heap[g]? = W.heap[g]? := fun g e1 e2 => (hg.block g (by simp; omega) (fun e => by have := (h.row.lt g e.symm).1; omega)).trans (((Below.refl W.heap.size W).alloc (Nat.le_refl _) o).block g e2)
  refine ⟨?_, ?_, ?_, ?_⟩
  · have := h.fr; unfold CB at this ⊢; rw [blk _ (by omega) h1]; exact this
  · have := h.ou; unfold CB at this ⊢; rw [blk _ (by omega) h2]; exact this
  · rw [Sh.intL_succ, hq]; exact hown
  · exact below_grown (h.bel.alloc h.bel.size o) (Nat.le_refl _) hg (fun r e => by have := (h.row.lt r e).1; omega)
theorem L2.below (h : L2 w fa len cap d u pa n pc pb S E k v A C W) (b : Below W.heap.size W W') : L2 w fa len cap d u pa n pc pb S E k v A C W' := ⟨h.fr.below b h.fr.lt, h.se.below b, Sh.row_below h.pr b, bel_on h.bel b⟩
theorem own_ty {g1 n1 : Nat} {a1 : Value} {xs : List Value} {g2 n2 : Nat} {a2 : Value} {ys : List Value} {t2 sz2 : Nat} (h1 : W.ownsRow g1 3 1 a1 n1 xs) (h2 : W.ownsRow g2 t2 sz2 a2 n2 ys) (ht : (3 : Nat) ≠ t2) {g : Nat} (e1 : a1.ownBlock = some g) : some g ≠ a2.ownBlock := by
  intro e2
  rcases h1.2 with ⟨rfl, _⟩ | ⟨g1', c1, cur1, rfl, _, q1, _⟩
  · cases e1
  · rcases h2.2 with ⟨rfl, _⟩ | ⟨g2', c2, cur2, rfl, _, q2, _⟩
    · cases e2
    · simp only [Value.ownBlock, Option.some.injEq] at e1 e2
      subst e1
      rw [← e2] at q2
      rw [q1] at q2
      simp at q2
      exact ht q2.2
theorem L2.grow {b c : Nat} {o : Obj} (h : L2 w fa len cap d u pa n pc pb S E k v A C W) (hl : LR W (some ⟨b, 0, none⟩) (E k).n (E k).ls) (hb : w.heap.size + 1 ≤ b ∧ some b ≠ v.ownBlock) (hown : W'.ownsRow (w.heap.size + 1) 32 4 v' (k + 1) (flE E A C k ++ cellsE (E k) (some ⟨b, 0, none⟩) c)) (hg : (W.alloc o).grownBy W' v.ownBlock) (hat : v'.ownBlock = v.ownBlock ∨ v'.ownBlock = some (W.alloc o).heap.size) :
    L2 w fa len cap d u pa n pc pb S E (k + 1) v' (fun j => if j = k then some ⟨b, 0, none⟩ else A j) (fun j => if j = k then c else C j) W' := by
  have h1 := h.fr.lt
  have bb : Below W.heap.size W (W.alloc o) := (Below.refl _ _).alloc (Nat.le_refl _) o
  refine ⟨?_, (h.se.below bb).snoc (hl.below bb) (.inr (fun b2 o2 q e => by cases e; exact ⟨hb.2, hb.1⟩)) hown hg hat, ?_, ?_⟩
  · have := h.fr; unfold CB at this ⊢
    rw [(hg.block _ (by simp; omega) (fun e => by have := (h.se.lt _ e.symm).1; omega)).trans (bb.block _ h1)]; exact this
  · exact Sh.row_block h.pr (fun g hg2 => (hg.block g (by have := (h.pr.lt g hg2).2; simp; omega) (own_ty h.pr h.se.1 (by decide) hg2)).trans (bb.block g (h.pr.lt g hg2).2))
  · exact below_grown (h.bel.alloc h.bel.size o) (Nat.le_refl _) hg (fun r e => by have := (h.se.lt r e).1; omega)
end
theorem l2Day_eq {x : Int} {V : Bool} (w : World) (h : inB x 0 40000 = V) : Calls Tryd.prog 83 #[.int .i64 x] w fun e w' => e = .returned (.bool V) ∧ w' = w := h ▸ l2Day_any x w
theorem l1In_t {x lo hi : Int} (w : World) (h : lo ≤ x ∧ x ≤ hi) : Calls Tryd.prog 82 #[.int .i64 x, .int .i64 lo, .int .i64 hi] w fun e w' => e = .returned (.bool true) ∧ w' = w := in_yes x lo hi w h.1 h.2
theorem two_news (frm tu dim s : Int) : [Value.int .i64 tu, .int .i64 dim, .int .i64 0, .int .i64 s, .int .i64 s, .int .i64 frm, .int .i64 dim, .int .i64 0, .int .i64 (-s), .int .i64 (-s)] = rowC (spL frm tu dim s) 2 := rfl
theorem new_two {W : World} {base : Nat} {v : Value} {frm tu dim s : Int} (h : W.ownsRow base 56 5 v (0 + 2) ([] ++ [Value.int .i64 tu, .int .i64 dim, .int .i64 0, .int .i64 s, .int .i64 s, .int .i64 frm, .int .i64 dim, .int .i64 0, .int .i64 (-s), .int .i64 (-s)])) : ∃ g cp, v = .slice (some ⟨g, 0, none⟩) 2 cp ∧ base ≤ g ∧ LR W (some ⟨g, 0, none⟩) 2 (spL frm tu dim s) := by
  rcases h.2 with ⟨_, e⟩ | ⟨g, cp, cur, e, hb, hg, _, _, _, ht⟩
  · simp at e
  · refine ⟨g, cp, e, hb, ?_⟩
    rw [List.nil_append, two_news] at ht
    exact LR.of_take hg ht

set_option maxRecDepth 20000 in
set_option maxHeartbeats 8000000 in
theorem specSpread_any (fa : Option Addr) (len cap : Nat) (c : Nat → C3) (d u tot frm tu dim : Int) (ad : Option Addr) (n lcap : Nat) (x y : Nat → Int) (w : World) (hl : (len : Int) ≤ 1048576) (hc : ∀ j, (c j).code.size ≤ maxLen) (hr : CR w fa len c) (hn : (n : Int) ≤ 1048576) (hp : PR w ad n x y) (hx : ∀ j, -9223372036854775808 ≤ x j ∧ x j ≤ 9223372036854775807) (h0 : ∀ j, n ≤ j → x j = 0 ∧ y j = 0) :
    Calls Tryd.prog 27 #[.agg #[.slice fa len cap, .int .i64 d, .int .i64 u], .int .i64 tot, .int .i64 frm, .int .i64 tu, .int .i64 dim, .slice ad n lcap] w (SpQ (spN len c d u tot frm tu dim n x y) (spE frm tu dim y (Sh.shV tot n (dW x y))) w) := by
  have HIFF := sp_iff (len := len) (c := c) (d := d) (u := u) (tot := tot) (frm := frm) (tu := tu) (dim := dim) hx h0
  have HF : Hid (¬ SpS len c d u tot frm tu dim n x y → spN len c d u tot frm tu dim n x y = 0) := fun h => spN_f (fun q => h (HIFF.1.1 q))
  have HYY : Hid (SpS len c d u tot frm tu dim n x y → spN len c d u tot frm tu dim n x y = n ∧ dW x y = wt x y) := fun h => ⟨spN_t (HIFF.1.2 h), HIFF.2 (HIFF.1.2 h)⟩
  have HC : Hid (∀ j, (c j).code.size ≤ maxLen) := hc
  have HR : Hid (CR w fa len c) := hr
  have HP : Hid (PR w ad n x y) := hp
  obtain ⟨i0, hi, hz0, hz1, hz2⟩ := Sh.info3
  obtain ⟨iL, hiL, hzL0, hzL1, hzL2⟩ := infoL
  obtain ⟨iE, hiE, hzE0, hzE1, hzE2⟩ := infoE
  have H0 : Hid (L1 w fa len cap d u (wt x y) 0 (.slice (some ⟨w.heap.size + 1 + 1, 0, none⟩) 0 0) (((w.alloc (.cells #[.slice fa len cap, .int .i64 d, .int .i64 u] 26 (0, 0))).alloc (.cells #[] 32 (0, 0))).alloc (.cells #[] 3 (0, 0)))) := ⟨((CB.new _ _).alloc _).alloc _, (CB.newAt (by simp) _ _).alloc _, ⟨rfl, .inr ⟨w.heap.size + 1 + 1, 0, #[], rfl, Nat.le_refl _, CB.newAt (by simp) _ _, Nat.le_refl _, Nat.zero_le _, rfl, rfl⟩⟩, (((Below.refl _ _).alloc (Nat.le_refl _) _).alloc (by simp) _).alloc (by simp <;> omega) _⟩
  clear hc hr hp hx h0 HIFF
  by_cases hn2 : n ≤ 200
  case neg =>
    have hn2i : (200 : Int) < (n : Int) := by omega
    have HM : Hid (spN len c d u tot frm tu dim n x y = 0) := HF.out (fun q => hn2 q.2.1.2.1)
    go_enter Tryd.func27, Tryd.ntmps27
    go_wp2
    go_returns
    rw [HM.out]
    exact ⟨_, _, rfl, .inl rfl, H0.out.bel⟩
  have hn2i : ¬ (200 : Int) < (n : Int) := by omega
  have hn9 : (n : Int) ≤ 200 := by omega
  go_enter Tryd.func27, Tryd.ntmps27
  go_wp2
  generalize (((w.alloc (.cells #[.slice fa len cap, .int .i64 d, .int .i64 u] 26 (0, 0))).alloc (.cells #[] 32 (0, 0))).alloc (.cells #[] 3 (0, 0))) = w1 at H0 ⊢
  go_loopw [14, 15] (fun u' v wr => ∃ (k : Nat) (wa : Option Addr) (wc : Nat), v = .int .i64 (k : Int) ∧ u' = .slice wa k wc ∧ k ≤ n ∧ Hid (PdP x y k) ∧ Hid (L1 w fa len cap d u (wt x y) k (.slice wa k wc) wr)) (fun _ v _ => n - (intOf v).toNat)
  case atStart => exact ⟨0, _, _, rfl, rfl, Nat.zero_le _, fun j hj => by omega, H0⟩
  case round =>
    clear H0
    obtain ⟨k, wa, wc, rfl, rfl, hk, HPD, HV⟩ := hrel
    obtain ⟨v0, hv0⟩ : ∃ v0, v0 = wr := ⟨_, rfl⟩
    subst hv0
    by_cases hkn : k < n
    · have hkni : (k : Int) < (n : Int) := by omega
      obtain ⟨kb, off, rfl, hkb⟩ := HP.out.addr (by omega)
      obtain ⟨c1, c2⟩ := (HP.out.below HV.out.bel).cell hkn
      obtain ⟨X, hX⟩ : ∃ X, x k = X := ⟨_, rfl⟩
      obtain ⟨Y, hY⟩ : ∃ Y, y k = Y := ⟨_, rfl⟩
      rw [hX] at c1
      rw [hY] at c2
      have HXk : Hid (x k = X) := hX
      have HYk : Hid (y k = Y) := hY
      have hkb2 : kb < v0.heap.size := Nat.lt_of_lt_of_le hkb HV.out.bel.size
      have HBAD : Hid (¬ ((0 ≤ Y ∧ Y ≤ 40000) ∧ (-10000000 ≤ X ∧ X ≤ 40000) ∧ X ≤ Y) → spN len c d u tot frm tu dim n x y = 0) := fun h => HF.out (fun q => h (by have := q.1 k hkn; rw [hX, hY] at this; exact this))
      clear hX hY
      by_cases hday : 0 ≤ Y ∧ Y ≤ 40000
      case neg =>
        have e1 : inB Y 0 40000 = false := inB_f hday
        have HM := HBAD.out (fun q => hday q.1)
        have HM2 : Hid (spN len c d u tot frm tu dim n x y = 0) := HM
        clear HM hday HBAD
        go_wp2
        go_quiet (first | (go_at_call 83; exact Calls.quiet_of_same (l2Day_eq _ e1)))
        go_wp2
        go_returns
        rw [HM2.out]
        exact ⟨_, _, rfl, .inl rfl, bel_on HV.out.bel (⟨rfl, rfl, rfl, Nat.le_refl _, fun _ _ => rfl⟩)⟩
      have e1 : inB Y 0 40000 = true := inB_iff.2 hday
      by_cases hfst : -10000000 ≤ X ∧ X ≤ 40000
      case neg =>
        have HM2 : Hid (spN len c d u tot frm tu dim n x y = 0) := HBAD.out (fun q => hfst q.2.1)
        have HNI : Hid (∀ W, Calls Tryd.prog 82 #[.int .i64 X, .int .i64 (-10000000), .int .i64 40000] W fun e w' => e = .returned (.bool false) ∧ w' = W) := fun W => in_no _ _ _ W hfst
        clear hfst HBAD
        go_wp2
        go_quiet (first | (go_at_call 83; exact Calls.quiet_of_same (l2Day_eq _ e1)) | (go_at_call 82; exact Calls.quiet_of_same (HNI.out _)))
        go_wp2
        go_returns
        rw [HM2.out]
        exact ⟨_, _, rfl, .inl rfl, bel_on HV.out.bel (⟨rfl, rfl, rfl, Nat.le_refl _, fun _ _ => rfl⟩)⟩
      have HNI : Hid (∀ W, Calls Tryd.prog 82 #[.int .i64 X, .int .i64 (-10000000), .int .i64 40000] W fun e w' => e = .returned (.bool true) ∧ w' = W) := fun W => in_yes _ _ _ W hfst.1 hfst.2
      by_cases hle : X ≤ Y
      case neg =>
        have hlt : decide (Y < X) = true := by simp; omega
        have HM2 : Hid (spN len c d u tot frm tu dim n x y = 0) := HBAD.out (fun q => hle q.2.2)
        clear HBAD
        go_wp2
        go_quiet (first | (go_at_call 83; exact Calls.quiet_of_same (l2Day_eq _ e1)) | (go_at_call 82; exact Calls.quiet_of_same (HNI.out _)))
        go_wp2
        go_returns
        rw [HM2.out]
        exact ⟨_, _, rfl, .inl rfl, bel_on HV.out.bel (⟨rfl, rfl, rfl, Nat.le_refl _, fun _ _ => rfl⟩)⟩
      have hlt : decide (Y < X) = false := by simp; omega
      have HPD2 : Hid (PdP x y (k + 1)) := fun j hj => by
        by_cases e : j = k
        · rw [e, HXk.out, HYk.out]; exact ⟨hday, hfst, hle⟩
        · exact HPD.out j (by omega)
      obtain ⟨D, hD⟩ : ∃ D, Y - X + 1 = D := ⟨_, rfl⟩
      have HD : Hid (wt x y k = D) := by show wt x y k = D; unfold wt; rw [HXk.out, HYk.out, hD]
      have w1' : wrap64 (Y - X) = Y - X := IntWalk.wrap64_in _ ⟨by omega, by omega⟩
      have w2' : wrap64 (Y - X + 1) = D := by rw [hD]; exact IntWalk.wrap64_in _ ⟨by omega, by omega⟩
      have w3' : IntKind.i64.wrap (Y - X) = Y - X := IntWalk.i64_in _ ⟨by omega, by omega⟩
      have w4' : IntKind.i64.wrap (Y - X + 1) = D := by rw [hD]; exact IntWalk.i64_in _ ⟨by omega, by omega⟩
      have w5' : IntKind.i64.wrap D = D := IntWalk.i64_in _ ⟨by omega, by omega⟩
      have w6' : wrap64 D = D := IntWalk.wrap64_in _ ⟨by omega, by omega⟩
      clear HBAD hle
      go_wp2
      go_quiet (first | (go_at_call 83; exact Calls.quiet_of_same (l2Day_eq _ e1)) | (go_at_call 82; exact Calls.quiet_of_same (HNI.out _)))
      go_wp2
      generalize hvq : v0.drewN _ = v1
      have HV1 : Hid (L1 w fa len cap d u (wt x y) k (.slice wa k wc) v1) := by rw [← hvq]; exact HV.out.below ⟨rfl, rfl, rfl, Nat.le_refl _, fun _ _ => rfl⟩
      have hkb3 : kb < v1.heap.size := by rw [← hvq]; exact hkb2
      clear hvq c1 c2 hkb2 HV
      have hkb2 : kb < v1.drew.heap.size := hkb3
      have c1 := ((HP.out.below HV1.out.bel).cell hkn).1
      have c2 := ((HP.out.below HV1.out.bel).cell hkn).2
      rw [HXk.out] at c1
      rw [HYk.out] at c2
      have HVd : Hid (L1 w fa len cap d u (wt x y) k (.slice wa k wc) v1.drew) := HV1.out.below (Below.refl _ _).drew
      refine wp_region_held_drew (S := fun w' => w'.cell? ⟨kb, off + k * 2, none⟩ = some (.int .i64 X) ∧ w'.cell? ⟨kb, off + k * 2 + 1, none⟩ = some (.int .i64 Y)) (by kernel_rfl) (by exact ⟨c1, c2⟩) (fun hHeld => ?_)
      refine wpAnyH_take (i := 0) (oi := { dst := some 61, op := Go.Op.move (Go.Operand.tmp 14), type := 42, pos := "l05_journal.go:190", after := #[], guard := none }) (v := ?_) rfl (by kernel_rfl) (by kernel_rfl) (by kernel_rfl) (fun _ _ _ h => h) (Or.inl ⟨by rfl, ?_⟩) (by assumption) ?_
      rotate_left
      · (intro w hSw; (try dsimp only at hSw); go_simp <;> try with_reducible rfl)
      try simp only [Act.put, List.setIfInBounds_toArray, List.set_cons_zero, List.set_cons_succ]
      refine wpAnyH_take (i := 1) (oi := { dst := some 62, op := Go.Op.move (Go.Operand.tmp 5), type := 48, pos := "l05_journal.go:190", after := #[], guard := none }) (v := ?_) rfl (by kernel_rfl) (by kernel_rfl) (by kernel_rfl) (fun _ _ _ h => h) (Or.inl ⟨by rfl, ?_⟩) (by assumption) ?_
      rotate_left
      · (intro w hSw; (try dsimp only at hSw); go_simp <;> try with_reducible rfl)
      try simp only [Act.put, List.setIfInBounds_toArray, List.set_cons_zero, List.set_cons_succ]
      refine wpAnyH_take (i := 2) (oi := { dst := some 63, op := Go.Op.move (Go.Operand.tmp 15), type := 3, pos := "l05_journal.go:190", after := #[], guard := none }) (v := ?_) rfl (by kernel_rfl) (by kernel_rfl) (by kernel_rfl) (fun _ _ _ h => h) (Or.inl ⟨by rfl, ?_⟩) (by assumption) ?_
      rotate_left
      · (intro w hSw; (try dsimp only at hSw); go_simp <;> try with_reducible rfl)
      try simp only [Act.put, List.setIfInBounds_toArray, List.set_cons_zero, List.set_cons_succ]
      refine wpAnyH_take (i := 3) (oi := { dst := some 64, op := Go.Op.indexAddr 48 (Go.Operand.tmp 62) (Go.Operand.tmp 63), type := 0, pos := "l05_journal.go:190", after := #[{ on := 1, ground := Go.Ground.data }, { on := 2, ground := Go.Ground.data }], guard := none }) (v := ?_) rfl (by kernel_rfl) (by kernel_rfl) (by kernel_rfl) (fun _ _ _ h => h) (Or.inl ⟨by rfl, ?_⟩) (by assumption) ?_
      rotate_left
      · (intro w hSw; (try dsimp only at hSw); go_simp <;> try with_reducible rfl)
      try simp only [Act.put, List.setIfInBounds_toArray, List.set_cons_zero, List.set_cons_succ]
      refine wpAnyH_take (i := 4) (oi := { dst := some 65, op := Go.Op.fieldAddr 54 (Go.Operand.tmp 64) 1, type := 0, pos := "l05_journal.go:190", after := #[{ on := 3, ground := Go.Ground.data }], guard := none }) (v := ?_) rfl (by kernel_rfl) (by kernel_rfl) (by kernel_rfl) (fun _ _ _ h => h) (Or.inl ⟨by rfl, ?_⟩) (by assumption) ?_
      rotate_left
      · (intro w hSw; (try dsimp only at hSw); go_simp <;> try with_reducible rfl)
      try simp only [Act.put, List.setIfInBounds_toArray, List.set_cons_zero, List.set_cons_succ]
      refine wpAnyH_take (i := 5) (oi := { dst := some 66, op := Go.Op.load 3 (Go.Operand.tmp 65), type := 3, pos := "l05_journal.go:190", after := #[{ on := 4, ground := Go.Ground.data }], guard := none }) (v := ?_) rfl (by kernel_rfl) (by kernel_rfl) (by kernel_rfl) (fun _ _ _ h => h) (Or.inl ⟨by rfl, ?_⟩) (by assumption) ?_
      rotate_left
      · (intro w hSw; (try dsimp only at hSw); go_simp <;> try with_reducible rfl)
      try simp only [Act.put, List.setIfInBounds_toArray, List.set_cons_zero, List.set_cons_succ]
      refine wpAnyH_take (i := 6) (oi := { dst := some 67, op := Go.Op.move (Go.Operand.tmp 5), type := 48, pos := "l05_journal.go:190", after := #[], guard := none }) (v := ?_) rfl (by kernel_rfl) (by kernel_rfl) (by kernel_rfl) (fun _ _ _ h => h) (Or.inl ⟨by rfl, ?_⟩) (by assumption) ?_
      rotate_left
      · (intro w hSw; (try dsimp only at hSw); go_simp <;> try with_reducible rfl)
      try simp only [Act.put, List.setIfInBounds_toArray, List.set_cons_zero, List.set_cons_succ]
      refine wpAnyH_take (i := 7) (oi := { dst := some 68, op := Go.Op.move (Go.Operand.tmp 15), type := 3, pos := "l05_journal.go:190", after := #[], guard := none }) (v := ?_) rfl (by kernel_rfl) (by kernel_rfl) (by kernel_rfl) (fun _ _ _ h => h) (Or.inl ⟨by rfl, ?_⟩) (by assumption) ?_
      rotate_left
      · (intro w hSw; (try dsimp only at hSw); go_simp <;> try with_reducible rfl)
      try simp only [Act.put, List.setIfInBounds_toArray, List.set_cons_zero, List.set_cons_succ]
      refine wpAnyH_take (i := 8) (oi := { dst := some 69, op := Go.Op.indexAddr 48 (Go.Operand.tmp 67) (Go.Operand.tmp 68), type := 0, pos := "l05_journal.go:190", after := #[{ on := 6, ground := Go.Ground.data }, { on := 7, ground := Go.Ground.data }], guard := none }) (v := ?_) rfl (by kernel_rfl) (by kernel_rfl) (by kernel_rfl) (fun _ _ _ h => h) (Or.inl ⟨by rfl, ?_⟩) (by assumption) ?_
      rotate_left
      · (intro w hSw; (try dsimp only at hSw); go_simp <;> try with_reducible rfl)
      try simp only [Act.put, List.setIfInBounds_toArray, List.set_cons_zero, List.set_cons_succ]
      refine wpAnyH_take (i := 9) (oi := { dst := some 70, op := Go.Op.fieldAddr 54 (Go.Operand.tmp 69) 0, type := 0, pos := "l05_journal.go:190", after := #[{ on := 8, ground := Go.Ground.data }], guard := none }) (v := ?_) rfl (by kernel_rfl) (by kernel_rfl) (by kernel_rfl) (fun _ _ _ h => h) (Or.inl ⟨by rfl, ?_⟩) (by assumption) ?_
      rotate_left
      · (intro w hSw; (try dsimp only at hSw); go_simp <;> try with_reducible rfl)
      try simp only [Act.put, List.setIfInBounds_toArray, List.set_cons_zero, List.set_cons_succ]
      refine wpAnyH_take (i := 10) (oi := { dst := some 71, op := Go.Op.load 3 (Go.Operand.tmp 70), type := 3, pos := "l05_journal.go:190", after := #[{ on := 9, ground := Go.Ground.data }], guard := none }) (v := ?_) rfl (by kernel_rfl) (by kernel_rfl) (by kernel_rfl) (fun _ _ _ h => h) (Or.inl ⟨by rfl, ?_⟩) (by assumption) ?_
      rotate_left
      · (intro w hSw; (try dsimp only at hSw); go_simp <;> try with_reducible rfl)
      try simp only [Act.put, List.setIfInBounds_toArray, List.set_cons_zero, List.set_cons_succ]
      refine wpAnyH_take (i := 11) (oi := { dst := some 72, op := Go.Op.binOp Go.BinOp.sub 3 (Go.Operand.tmp 66) (Go.Operand.tmp 71) 3, type := 3, pos := "l05_journal.go:190", after := #[{ on := 5, ground := Go.Ground.data }, { on := 10, ground := Go.Ground.data }], guard := none }) (v := ?_) rfl (by kernel_rfl) (by kernel_rfl) (by kernel_rfl) (fun _ _ _ h => h) (Or.inl ⟨by rfl, ?_⟩) (by assumption) ?_
      rotate_left
      · (intro w hSw; (try dsimp only at hSw); go_simp <;> try with_reducible rfl)
      try simp only [Act.put, List.setIfInBounds_toArray, List.set_cons_zero, List.set_cons_succ]
      refine wpAnyH_take (i := 12) (oi := { dst := some 73, op := Go.Op.binOp Go.BinOp.add 3 (Go.Operand.tmp 72) (Go.Operand.const (Go.Value.int Go.IntKind.i64 1)) 3, type := 3, pos := "l05_journal.go:190", after := #[{ on := 11, ground := Go.Ground.data }], guard := none }) (v := ?_) rfl (by kernel_rfl) (by kernel_rfl) (by kernel_rfl) (fun _ _ _ h => h) (Or.inl ⟨by rfl, ?_⟩) (by assumption) ?_
      rotate_left
      · (intro w hSw; (try dsimp only at hSw); go_simp <;> try with_reducible rfl)
      try simp only [Act.put, List.setIfInBounds_toArray, List.set_cons_zero, List.set_cons_succ]
      refine wpAnyH_ready (rs := [13]) (by kernel_rfl) (by simp) ?_
      refine AllReadyH.cons (o := { dst := some 74, op := Go.Op.buildSlice 42 1 #[(0, Go.Operand.tmp 73)], type := 42, pos := "l05_journal.go:190", after := #[{ on := 12, ground := Go.Ground.data }], guard := none }) rfl (fun K hK => ?_) (AllReadyH.nil)
      go_simp
      first | refine hK.out _ _ (by exact ⟨(World.cell?_alloc_past _ _ _ hkb2).trans c1, (World.cell?_alloc_past _ _ _ hkb2).trans c2⟩) (fun hHeld => ?_) | (go_wp2_with fail; refine hK.out _ _ (by exact ⟨(World.cell?_alloc_past _ _ _ hkb2).trans c1, (World.cell?_alloc_past _ _ _ hkb2).trans c2⟩) (fun hHeld => ?_))
      clear hK K
      try simp only [Act.put, List.setIfInBounds_toArray, List.set_cons_zero, List.set_cons_succ]
      refine wpAnyH_ready (rs := [14]) (by kernel_rfl) (by simp) ?_
      refine AllReadyH.cons (o := { dst := some 75, op := Go.Op.call { callee := Go.Callee.builtin Go.Builtin.append, args := #[Go.Operand.tmp 61, Go.Operand.tmp 74], argTypes := #[42, 42] }, type := 42, pos := "l05_journal.go:190", after := #[{ on := 0, ground := Go.Ground.data }, { on := 13, ground := Go.Ground.data }], guard := none }) rfl (fun K hK => ?_) (AllReadyH.nil)
      refine oper_append (Operand.tmp 61) (Operand.tmp 74) 42 rfl (w.heap.size + 1 + 1) 3 i0 (.int .i64 0) 1 8 Tryd.underlying42 hi hz0 hz1 hz2 rfl (by decide) (.slice wa k wc) k (Sh.intL (wt x y) k) rfl (Sh.row_below HVd.out.row ((Below.refl _ _).alloc (Nat.le_refl _) _)) ⟨v1.heap.size, 0, none⟩ 1 1 [.int .i64 D] rfl rfl (Sh.cell_one_at (w := v1.drew) (x := .int .i64 D) (t := 3) rfl) (fun u hu => by simp at hu; subst hu; rfl) (by unfold maxLen; omega) (by omega) (by have h : w.heap.size + 1 < v1.heap.size := HVd.out.ou.lt; simp <;> omega) ?_
      intro v' w9 hown9 hgrow9 hloc9
      obtain ⟨ad9, cap9, rfl⟩ := Sh.row_form hown9
      have HN9 : Hid (L1 w fa len cap d u (wt x y) (k + 1) (.slice ad9 (k + 1) cap9) w9) := HVd.out.grow HD.out hown9 hgrow9
      have hb9 : w.heap.size ≤ w9.heap.size := HN9.out.bel.size
      have g1 := ((HP.out.below HN9.out.bel).cell hkn).1
      have g2 := ((HP.out.below HN9.out.bel).cell hkn).2
      rw [HXk.out] at g1
      rw [HYk.out] at g2
      clear hown9 hgrow9 hloc9
      first | refine hK.out _ _ (by exact ⟨g1, g2⟩) (fun hHeld => ?_) | (go_wp2_with fail; refine hK.out _ _ (by exact ⟨g1, g2⟩) (fun hHeld => ?_))
      clear hK K
      try simp only [Act.put, List.setIfInBounds_toArray, List.set_cons_zero, List.set_cons_succ]
      refine wpAnyH_ready (rs := [15]) (by kernel_rfl) (by simp) ?_
      refine AllReadyH.cons (o := { dst := some 14, op := Go.Op.assign (Go.Operand.tmp 75), type := 42, pos := "l05_journal.go:190", after := #[{ on := 14, ground := Go.Ground.data }, { on := 14, ground := Go.Ground.chain }, { on := 0, ground := Go.Ground.phase }, { on := 1, ground := Go.Ground.phase }, { on := 2, ground := Go.Ground.phase }, { on := 3, ground := Go.Ground.phase }, { on := 4, ground := Go.Ground.phase }, { on := 5, ground := Go.Ground.phase }, { on := 6, ground := Go.Ground.phase }, { on := 7, ground := Go.Ground.phase }, { on := 8, ground := Go.Ground.phase }, { on := 9, ground := Go.Ground.phase }, { on := 10, ground := Go.Ground.phase }, { on := 11, ground := Go.Ground.phase }, { on := 12, ground := Go.Ground.phase }, { on := 13, ground := Go.Ground.phase }, { on := 14, ground := Go.Ground.phase }], guard := none }) rfl (fun K hK => ?_) (AllReadyH.nil)
      go_simp
      first | refine hK.out _ _ (by exact ⟨g1, g2⟩) (fun hHeld => ?_) | (go_wp2_with fail; refine hK.out _ _ (by exact ⟨g1, g2⟩) (fun hHeld => ?_))
      clear hK K
      try simp only [Act.put, List.setIfInBounds_toArray, List.set_cons_zero, List.set_cons_succ]
      refine wpAnyH_done (by kernel_rfl) ?_ _
      clear hHeld
      go_wp2
      go_roundw
      case rel => exact ⟨k + 1, _, _, by go_num, rfl, by omega, HPD2, HN9⟩
      case measure => simp [intOf]; omega
    · obtain rfl : k = n := by omega
      have lkk : ¬ (k : Int) < (k : Int) := by omega
      have HIR : Hid (Sh.IR v0 wa k (wt x y)) := Sh.row_IR HV.out.row (fun j hj => Sh.intL_get hj)
      by_cases hs : Sh.ShOk tot k (wt x y)
      case neg =>
        have HM2 : Hid (spN len c d u tot frm tu dim k x y = 0) := HF.out (fun q => hs q.2.1)
        have HS0 : Hid (Sh.shM tot k (wt x y) = 0) := Sh.shM_no hs
        clear hs
        go_wp2_with (go_at_call 93; refine (Sh.specShares_any _ _ _ _ _ _ hn HIR.out).mono ?_; rintro e w5 ⟨pa, pc, rfl, o5, b5⟩; rw [HS0.out]; have HB5 : Hid (Below w.heap.size w w5) := bel_on HV.out.bel b5; clear o5 b5)
        go_loopw [13, 17] (fun u' v wr => u' = .slice (some ⟨w.heap.size + 1, 0, none⟩) 0 0 ∧ v = .int .i64 0 ∧ wr = w5) (fun _ _ _ => 0)
        case atStart => exact ⟨rfl, rfl, rfl⟩
        case round =>
          obtain ⟨rfl, rfl, rfl⟩ := hrel
          go_wp2
          go_returns
          rw [HM2.out]
          exact ⟨_, _, rfl, .inl rfl, HB5.out⟩
      have hk1 : 0 < k := by
        rcases Nat.eq_zero_or_pos k with e | e
        · have := hs.2.2.2; rw [e] at this; simp [Sh.sm] at this
        · exact e
      obtain ⟨S, hS⟩ : ∃ S, Sh.shV tot k (wt x y) = S := ⟨_, rfl⟩
      have HSB : Hid (∀ j, j < k → -200000000000 ≤ S j ∧ S j ≤ 200000000000) := fun j hj => hS ▸ Sh.shV_bd hs hj
      have HSH : Hid (Sh.shM tot k (wt x y) = k) := Sh.shM_ok hs
      obtain ⟨E, hE⟩ : ∃ E, spE frm tu dim y S = E := ⟨_, rfl⟩
      have HEK : Hid (∀ i, E i = ⟨y i, 0, spText, 2, spL frm tu dim (S i)⟩) := fun i => by rw [← hE]; rfl
      have HNO : Hid (∀ i, i < k → enB len c d u (E i) = false → spN len c d u tot frm tu dim k x y = 0) := fun i hi h => HF.out (fun q => by have := q.2.2 i hi; rw [hS, hE, h] at this; cases this)
      have HYES : Hid ((∀ i, i < k → enB len c d u (E i) = true) → spN len c d u tot frm tu dim k x y = k ∧ spE frm tu dim y (Sh.shV tot k (dW x y)) = E) := fun h => by
        have q : SpS len c d u tot frm tu dim k x y := ⟨HPD.out, hs, fun i hi => by rw [hS, hE]; exact h i hi⟩
        obtain ⟨a1, a2⟩ := HYY.out q
        exact ⟨a1, by rw [a2, hS, hE]⟩
      obtain ⟨M, hM⟩ : ∃ M, spN len c d u tot frm tu dim k x y = M := ⟨_, rfl⟩
      obtain ⟨E2, hE2⟩ : ∃ E2, spE frm tu dim y (Sh.shV tot k (dW x y)) = E2 := ⟨_, rfl⟩
      rw [hM] at HNO HYES
      rw [hE2] at HYES
      have HMM : Hid (spN len c d u tot frm tu dim k x y = M ∧ spE frm tu dim y (Sh.shV tot k (dW x y)) = E2) := ⟨hM, hE2⟩
      clear hs hM hE2 HF HYY
      go_wp2_with (go_at_call 93; refine (Sh.specShares_any _ _ _ _ _ _ hn HIR.out).mono ?_; rintro e w5 ⟨pa, pc, rfl, o5, b5⟩; rw [HSH.out, hS] at o5; rw [HSH.out]; have HL5 : Hid (L2 w fa len cap d u pa k pc v0.heap.size S E 0 (.slice (some ⟨w.heap.size + 1, 0, none⟩) 0 0) (fun _ => none) (fun _ => 0) w5) := ⟨HV.out.fr.below b5 HV.out.fr.lt, ⟨⟨rfl, .inr ⟨w.heap.size + 1, 0, #[], rfl, Nat.le_refl _, HV.out.ou.below b5 HV.out.ou.lt, Nat.le_refl _, Nat.zero_le _, rfl, rfl⟩⟩, fun j hj => by omega⟩, o5, bel_on HV.out.bel b5⟩; clear o5 b5)
      obtain ⟨pb, hpb⟩ : ∃ pb, v0.heap.size = pb := ⟨_, rfl⟩
      rw [hpb] at HL5
      have hk9 : (k : Int) ≤ 200 := hn9
      clear HIR HV hpb hS hE HSH lkk
      go_loopw [13, 17] (fun u' v wr => ∃ (i : Nat) (oa : Option Addr) (oc : Nat) (A : Nat → Option Addr) (C : Nat → Nat), v = .int .i64 (i : Int) ∧ u' = .slice oa i oc ∧ i ≤ k ∧ Hid (∀ j, j < i → enB len c d u (E j) = true) ∧ Hid (L2 w fa len cap d u pa k pc pb S E i (.slice oa i oc) A C wr)) (fun _ v _ => k - (intOf v).toNat)
      case atStart => exact ⟨0, _, _, _, _, rfl, rfl, Nat.zero_le _, fun j hj => by omega, HL5⟩
      case round =>
        clear HL5
        obtain ⟨i, oa, oc, A, C, rfl, rfl, hik, HEN, HW⟩ := hrel
        obtain ⟨v0, hv0⟩ : ∃ v0, v0 = wr := ⟨_, rfl⟩
        subst hv0
        by_cases hin : i < k
        case neg =>
          obtain rfl : i = k := by omega
          have lkk : ¬ (i : Int) < (i : Int) := by omega
          go_wp2
          go_returns
          obtain ⟨a1, a2⟩ := HYES.out HEN.out
          rw [HMM.out.1, HMM.out.2, a1, a2]
          exact ⟨_, _, rfl, HW.out.se.row, HW.out.bel⟩
        have hini : (i : Int) < (k : Int) := by omega
        obtain ⟨kb, off, rfl, hkb⟩ := HP.out.addr hk1
        have c2 := ((HP.out.below HW.out.bel).cell hin).2
        obtain ⟨Y, hY⟩ : ∃ Y, y i = Y := ⟨_, rfl⟩
        obtain ⟨s, hs⟩ : ∃ s, S i = s := ⟨_, rfl⟩
        rw [hY] at c2
        obtain ⟨sb, pc', ep, hsb1, _, hsc⟩ := Sh.row_get HW.out.pr (j := 0) hk1
        simp only [Value.slice.injEq] at ep
        obtain ⟨rfl, _, rfl⟩ := ep
        have hsk0 := hsc i hin
        rw [Sh.intL_get hin, hs] at hsk0
        have hsb := HSB.out i hin
        rw [hs] at hsb
        obtain ⟨sB1, sB2⟩ := hsb
        have HEi : Hid (E i = ⟨Y, 0, spText, 2, spL frm tu dim s⟩) := by have := HEK.out i; rw [hY, hs] at this; exact this
        have wn1 : wrap64 (-s) = -s := IntWalk.wrap64_in _ ⟨by omega, by omega⟩
        have wn2 : IntKind.i64.wrap (-s) = -s := IntWalk.i64_in _ ⟨by omega, by omega⟩
        clear hY hs hsc
        go_wp2
        have HE1 : Hid (CB (v0.alloc (.cells #[.int .i64 Y, .int .i64 0, .string ⟨#[115, 112, 114, 101, 97, 100]⟩, .slice none 0 0] 32 (0, 0))) v0.heap.size #[.int .i64 Y, .int .i64 0, .string ⟨#[115, 112, 114, 101, 97, 100]⟩, .slice none 0 0] 32) := CB.new _ _
        have HB01 : Hid (Below v0.heap.size v0 (v0.alloc (.cells #[.int .i64 Y, .int .i64 0, .string ⟨#[115, 112, 114, 101, 97, 100]⟩, .slice none 0 0] 32 (0, 0)))) := (Below.refl _ _).alloc (Nat.le_refl _) _
        have hW1s : (v0.alloc (.cells #[.int .i64 Y, .int .i64 0, .string ⟨#[115, 112, 114, 101, 97, 100]⟩, .slice none 0 0] 32 (0, 0))).heap.size = v0.heap.size + 1 := by simp
        generalize (v0.alloc (.cells #[.int .i64 Y, .int .i64 0, .string ⟨#[115, 112, 114, 101, 97, 100]⟩, .slice none 0 0] 32 (0, 0))) = W1 at HE1 HB01 hW1s ⊢
        have hsk1 : W1.cell? ⟨sb, 0 + i, none⟩ = some (.int .i64 s) := by rw [Nat.zero_add]; exact (World.cell?_of_block (w := v0) (HB01.out.block _ hsb1)).trans hsk0
        have hsk1b : W1.cell? ⟨sb, i, none⟩ = some (.int .i64 s) := by rw [Nat.zero_add] at hsk1; exact hsk1
        have hsbl0 : sb < W1.heap.size := by omega
        have hsbl : sb < W1.drew.heap.size := hsbl0
        have hsk : W1.drew.cell? ⟨sb, i, none⟩ = some (.int .i64 s) := hsk1b
        have e13 : W1.cell? ⟨v0.heap.size, 3, none⟩ = some (.slice none 0 0) := (HE1.out.cell 3).trans rfl
        clear hsk0 c2
        go_cut [18] from 79 to 128 (fun s18 wx => s18 = .pointer (some ⟨v0.heap.size, 0, none⟩) ∧ ∃ g cp, v0.heap.size + 1 + 1 ≤ g ∧ CB wx v0.heap.size #[.int .i64 Y, .int .i64 0, .string ⟨#[115, 112, 114, 101, 97, 100]⟩, .slice (some ⟨g, 0, none⟩) 2 cp] 32 ∧ LR wx (some ⟨g, 0, none⟩) 2 (spL frm tu dim s) ∧ Below v0.heap.size v0 wx)
        case first =>
          refine wp_region_held_drew (S := fun w' => w'.cell? ⟨sb, i, none⟩ = some (.int .i64 s)) (by kernel_rfl) (by exact hsk) (fun hHeld => ?_)
          refine wpAnyH_take (i := 0) (oi := { dst := some 91, op := Go.Op.fieldAddr 32 (Go.Operand.tmp 18) 3, type := 0, pos := "l05_journal.go:195", after := #[], guard := none }) (v := ?_) rfl (by kernel_rfl) (by kernel_rfl) (by kernel_rfl) (fun _ _ _ h => h) (Or.inl ⟨by rfl, ?_⟩) (by assumption) ?_
          rotate_left
          · (intro w hSw; (try dsimp only at hSw); go_simp <;> try with_reducible rfl)
          try simp only [Act.put, List.setIfInBounds_toArray, List.set_cons_zero, List.set_cons_succ]
          refine wpAnyH_take (i := 2) (oi := { dst := some 93, op := Go.Op.move (Go.Operand.tmp 3), type := 3, pos := "l05_journal.go:195", after := #[], guard := none }) (v := ?_) rfl (by kernel_rfl) (by kernel_rfl) (by kernel_rfl) (fun _ _ _ h => h) (Or.inl ⟨by rfl, ?_⟩) (by assumption) ?_
          rotate_left
          · (intro w hSw; (try dsimp only at hSw); go_simp <;> try with_reducible rfl)
          try simp only [Act.put, List.setIfInBounds_toArray, List.set_cons_zero, List.set_cons_succ]
          refine wpAnyH_take (i := 3) (oi := { dst := some 94, op := Go.Op.move (Go.Operand.tmp 4), type := 3, pos := "l05_journal.go:195", after := #[], guard := none }) (v := ?_) rfl (by kernel_rfl) (by kernel_rfl) (by kernel_rfl) (fun _ _ _ h => h) (Or.inl ⟨by rfl, ?_⟩) (by assumption) ?_
          rotate_left
          · (intro w hSw; (try dsimp only at hSw); go_simp <;> try with_reducible rfl)
          try simp only [Act.put, List.setIfInBounds_toArray, List.set_cons_zero, List.set_cons_succ]
          refine wpAnyH_take (i := 4) (oi := { dst := some 95, op := Go.Op.move (Go.Operand.tmp 16), type := 42, pos := "l05_journal.go:195", after := #[], guard := none }) (v := ?_) rfl (by kernel_rfl) (by kernel_rfl) (by kernel_rfl) (fun _ _ _ h => h) (Or.inl ⟨by rfl, ?_⟩) (by assumption) ?_
          rotate_left
          · (intro w hSw; (try dsimp only at hSw); go_simp <;> try with_reducible rfl)
          try simp only [Act.put, List.setIfInBounds_toArray, List.set_cons_zero, List.set_cons_succ]
          refine wpAnyH_take (i := 5) (oi := { dst := some 96, op := Go.Op.move (Go.Operand.tmp 17), type := 3, pos := "l05_journal.go:195", after := #[], guard := none }) (v := ?_) rfl (by kernel_rfl) (by kernel_rfl) (by kernel_rfl) (fun _ _ _ h => h) (Or.inl ⟨by rfl, ?_⟩) (by assumption) ?_
          rotate_left
          · (intro w hSw; (try dsimp only at hSw); go_simp <;> try with_reducible rfl)
          try simp only [Act.put, List.setIfInBounds_toArray, List.set_cons_zero, List.set_cons_succ]
          refine wpAnyH_take (i := 6) (oi := { dst := some 97, op := Go.Op.indexAddr 42 (Go.Operand.tmp 95) (Go.Operand.tmp 96), type := 0, pos := "l05_journal.go:195", after := #[{ on := 4, ground := Go.Ground.data }, { on := 5, ground := Go.Ground.data }], guard := none }) (v := ?_) rfl (by kernel_rfl) (by kernel_rfl) (by kernel_rfl) (fun _ _ _ h => h) (Or.inl ⟨by rfl, ?_⟩) (by assumption) ?_
          rotate_left
          · (intro w hSw; (try dsimp only at hSw); go_simp <;> try with_reducible rfl)
          try simp only [Act.put, List.setIfInBounds_toArray, List.set_cons_zero, List.set_cons_succ]
          refine wpAnyH_take (i := 7) (oi := { dst := some 98, op := Go.Op.load 3 (Go.Operand.tmp 97), type := 3, pos := "l05_journal.go:195", after := #[{ on := 6, ground := Go.Ground.data }], guard := none }) (v := ?_) rfl (by kernel_rfl) (by kernel_rfl) (by kernel_rfl) (fun _ _ _ h => h) (Or.inl ⟨by rfl, ?_⟩) (by assumption) ?_
          rotate_left
          · (intro w hSw; (try dsimp only at hSw); go_simp <;> try with_reducible rfl)
          try simp only [Act.put, List.setIfInBounds_toArray, List.set_cons_zero, List.set_cons_succ]
          refine wpAnyH_take (i := 8) (oi := { dst := some 99, op := Go.Op.move (Go.Operand.tmp 16), type := 42, pos := "l05_journal.go:195", after := #[], guard := none }) (v := ?_) rfl (by kernel_rfl) (by kernel_rfl) (by kernel_rfl) (fun _ _ _ h => h) (Or.inl ⟨by rfl, ?_⟩) (by assumption) ?_
          rotate_left
          · (intro w hSw; (try dsimp only at hSw); go_simp <;> try with_reducible rfl)
          try simp only [Act.put, List.setIfInBounds_toArray, List.set_cons_zero, List.set_cons_succ]
          refine wpAnyH_take (i := 9) (oi := { dst := some 100, op := Go.Op.move (Go.Operand.tmp 17), type := 3, pos := "l05_journal.go:195", after := #[], guard := none }) (v := ?_) rfl (by kernel_rfl) (by kernel_rfl) (by kernel_rfl) (fun _ _ _ h => h) (Or.inl ⟨by rfl, ?_⟩) (by assumption) ?_
          rotate_left
          · (intro w hSw; (try dsimp only at hSw); go_simp <;> try with_reducible rfl)
          try simp only [Act.put, List.setIfInBounds_toArray, List.set_cons_zero, List.set_cons_succ]
          refine wpAnyH_take (i := 10) (oi := { dst := some 101, op := Go.Op.indexAddr 42 (Go.Operand.tmp 99) (Go.Operand.tmp 100), type := 0, pos := "l05_journal.go:195", after := #[{ on := 8, ground := Go.Ground.data }, { on := 9, ground := Go.Ground.data }], guard := none }) (v := ?_) rfl (by kernel_rfl) (by kernel_rfl) (by kernel_rfl) (fun _ _ _ h => h) (Or.inl ⟨by rfl, ?_⟩) (by assumption) ?_
          rotate_left
          · (intro w hSw; (try dsimp only at hSw); go_simp <;> try with_reducible rfl)
          try simp only [Act.put, List.setIfInBounds_toArray, List.set_cons_zero, List.set_cons_succ]
          refine wpAnyH_take (i := 11) (oi := { dst := some 102, op := Go.Op.load 3 (Go.Operand.tmp 101), type := 3, pos := "l05_journal.go:195", after := #[{ on := 10, ground := Go.Ground.data }], guard := none }) (v := ?_) rfl (by kernel_rfl) (by kernel_rfl) (by kernel_rfl) (fun _ _ _ h => h) (Or.inl ⟨by rfl, ?_⟩) (by assumption) ?_
          rotate_left
          · (intro w hSw; (try dsimp only at hSw); go_simp <;> try with_reducible rfl)
          try simp only [Act.put, List.setIfInBounds_toArray, List.set_cons_zero, List.set_cons_succ]
          refine wpAnyH_take (i := 12) (oi := { dst := some 103, op := Go.Op.build 56 #[(0, Go.Operand.tmp 93), (1, Go.Operand.tmp 94), (3, Go.Operand.tmp 98), (4, Go.Operand.tmp 102)], type := 56, pos := "l05_journal.go:195", after := #[{ on := 2, ground := Go.Ground.data }, { on := 3, ground := Go.Ground.data }, { on := 7, ground := Go.Ground.data }, { on := 11, ground := Go.Ground.data }], guard := none }) (v := ?_) rfl (by kernel_rfl) (by kernel_rfl) (by kernel_rfl) (fun _ _ _ h => h) (Or.inl ⟨by rfl, ?_⟩) (by assumption) ?_
          rotate_left
          · (intro w hSw; (try dsimp only at hSw); go_simp <;> try with_reducible rfl)
          try simp only [Act.put, List.setIfInBounds_toArray, List.set_cons_zero, List.set_cons_succ]
          refine wpAnyH_take (i := 13) (oi := { dst := some 104, op := Go.Op.move (Go.Operand.tmp 2), type := 3, pos := "l05_journal.go:195", after := #[], guard := none }) (v := ?_) rfl (by kernel_rfl) (by kernel_rfl) (by kernel_rfl) (fun _ _ _ h => h) (Or.inl ⟨by rfl, ?_⟩) (by assumption) ?_
          rotate_left
          · (intro w hSw; (try dsimp only at hSw); go_simp <;> try with_reducible rfl)
          try simp only [Act.put, List.setIfInBounds_toArray, List.set_cons_zero, List.set_cons_succ]
          refine wpAnyH_take (i := 14) (oi := { dst := some 105, op := Go.Op.move (Go.Operand.tmp 4), type := 3, pos := "l05_journal.go:195", after := #[], guard := none }) (v := ?_) rfl (by kernel_rfl) (by kernel_rfl) (by kernel_rfl) (fun _ _ _ h => h) (Or.inl ⟨by rfl, ?_⟩) (by assumption) ?_
          rotate_left
          · (intro w hSw; (try dsimp only at hSw); go_simp <;> try with_reducible rfl)
          try simp only [Act.put, List.setIfInBounds_toArray, List.set_cons_zero, List.set_cons_succ]
          refine wpAnyH_take (i := 15) (oi := { dst := some 106, op := Go.Op.move (Go.Operand.tmp 16), type := 42, pos := "l05_journal.go:195", after := #[], guard := none }) (v := ?_) rfl (by kernel_rfl) (by kernel_rfl) (by kernel_rfl) (fun _ _ _ h => h) (Or.inl ⟨by rfl, ?_⟩) (by assumption) ?_
          rotate_left
          · (intro w hSw; (try dsimp only at hSw); go_simp <;> try with_reducible rfl)
          try simp only [Act.put, List.setIfInBounds_toArray, List.set_cons_zero, List.set_cons_succ]
          refine wpAnyH_take (i := 16) (oi := { dst := some 107, op := Go.Op.move (Go.Operand.tmp 17), type := 3, pos := "l05_journal.go:195", after := #[], guard := none }) (v := ?_) rfl (by kernel_rfl) (by kernel_rfl) (by kernel_rfl) (fun _ _ _ h => h) (Or.inl ⟨by rfl, ?_⟩) (by assumption) ?_
          rotate_left
          · (intro w hSw; (try dsimp only at hSw); go_simp <;> try with_reducible rfl)
          try simp only [Act.put, List.setIfInBounds_toArray, List.set_cons_zero, List.set_cons_succ]
          refine wpAnyH_take (i := 17) (oi := { dst := some 108, op := Go.Op.indexAddr 42 (Go.Operand.tmp 106) (Go.Operand.tmp 107), type := 0, pos := "l05_journal.go:195", after := #[{ on := 15, ground := Go.Ground.data }, { on := 16, ground := Go.Ground.data }], guard := none }) (v := ?_) rfl (by kernel_rfl) (by kernel_rfl) (by kernel_rfl) (fun _ _ _ h => h) (Or.inl ⟨by rfl, ?_⟩) (by assumption) ?_
          rotate_left
          · (intro w hSw; (try dsimp only at hSw); go_simp <;> try with_reducible rfl)
          try simp only [Act.put, List.setIfInBounds_toArray, List.set_cons_zero, List.set_cons_succ]
          refine wpAnyH_take (i := 18) (oi := { dst := some 109, op := Go.Op.load 3 (Go.Operand.tmp 108), type := 3, pos := "l05_journal.go:195", after := #[{ on := 17, ground := Go.Ground.data }], guard := none }) (v := ?_) rfl (by kernel_rfl) (by kernel_rfl) (by kernel_rfl) (fun _ _ _ h => h) (Or.inl ⟨by rfl, ?_⟩) (by assumption) ?_
          rotate_left
          · (intro w hSw; (try dsimp only at hSw); go_simp <;> try with_reducible rfl)
          try simp only [Act.put, List.setIfInBounds_toArray, List.set_cons_zero, List.set_cons_succ]
          refine wpAnyH_take (i := 19) (oi := { dst := some 110, op := Go.Op.unOp Go.UnOp.neg 3 (Go.Operand.tmp 109), type := 3, pos := "l05_journal.go:195", after := #[{ on := 18, ground := Go.Ground.data }], guard := none }) (v := ?_) rfl (by kernel_rfl) (by kernel_rfl) (by kernel_rfl) (fun _ _ _ h => h) (Or.inl ⟨by rfl, ?_⟩) (by assumption) ?_
          rotate_left
          · (intro w hSw; (try dsimp only at hSw); go_simp <;> try with_reducible rfl)
          try simp only [Act.put, List.setIfInBounds_toArray, List.set_cons_zero, List.set_cons_succ]
          refine wpAnyH_take (i := 20) (oi := { dst := some 111, op := Go.Op.move (Go.Operand.tmp 16), type := 42, pos := "l05_journal.go:195", after := #[], guard := none }) (v := ?_) rfl (by kernel_rfl) (by kernel_rfl) (by kernel_rfl) (fun _ _ _ h => h) (Or.inl ⟨by rfl, ?_⟩) (by assumption) ?_
          rotate_left
          · (intro w hSw; (try dsimp only at hSw); go_simp <;> try with_reducible rfl)
          try simp only [Act.put, List.setIfInBounds_toArray, List.set_cons_zero, List.set_cons_succ]
          refine wpAnyH_take (i := 21) (oi := { dst := some 112, op := Go.Op.move (Go.Operand.tmp 17), type := 3, pos := "l05_journal.go:195", after := #[], guard := none }) (v := ?_) rfl (by kernel_rfl) (by kernel_rfl) (by kernel_rfl) (fun _ _ _ h => h) (Or.inl ⟨by rfl, ?_⟩) (by assumption) ?_
          rotate_left
          · (intro w hSw; (try dsimp only at hSw); go_simp <;> try with_reducible rfl)
          try simp only [Act.put, List.setIfInBounds_toArray, List.set_cons_zero, List.set_cons_succ]
          refine wpAnyH_take (i := 22) (oi := { dst := some 113, op := Go.Op.indexAddr 42 (Go.Operand.tmp 111) (Go.Operand.tmp 112), type := 0, pos := "l05_journal.go:195", after := #[{ on := 20, ground := Go.Ground.data }, { on := 21, ground := Go.Ground.data }], guard := none }) (v := ?_) rfl (by kernel_rfl) (by kernel_rfl) (by kernel_rfl) (fun _ _ _ h => h) (Or.inl ⟨by rfl, ?_⟩) (by assumption) ?_
          rotate_left
          · (intro w hSw; (try dsimp only at hSw); go_simp <;> try with_reducible rfl)
          try simp only [Act.put, List.setIfInBounds_toArray, List.set_cons_zero, List.set_cons_succ]
          refine wpAnyH_take (i := 23) (oi := { dst := some 114, op := Go.Op.load 3 (Go.Operand.tmp 113), type := 3, pos := "l05_journal.go:195", after := #[{ on := 22, ground := Go.Ground.data }], guard := none }) (v := ?_) rfl (by kernel_rfl) (by kernel_rfl) (by kernel_rfl) (fun _ _ _ h => h) (Or.inl ⟨by rfl, ?_⟩) (by assumption) ?_
          rotate_left
          · (intro w hSw; (try dsimp only at hSw); go_simp <;> try with_reducible rfl)
          try simp only [Act.put, List.setIfInBounds_toArray, List.set_cons_zero, List.set_cons_succ]
          refine wpAnyH_take (i := 24) (oi := { dst := some 115, op := Go.Op.unOp Go.UnOp.neg 3 (Go.Operand.tmp 114), type := 3, pos := "l05_journal.go:195", after := #[{ on := 23, ground := Go.Ground.data }], guard := none }) (v := ?_) rfl (by kernel_rfl) (by kernel_rfl) (by kernel_rfl) (fun _ _ _ h => h) (Or.inl ⟨by rfl, ?_⟩) (by assumption) ?_
          rotate_left
          · (intro w hSw; (try dsimp only at hSw); go_simp <;> try with_reducible rfl)
          try simp only [Act.put, List.setIfInBounds_toArray, List.set_cons_zero, List.set_cons_succ]
          refine wpAnyH_take (i := 25) (oi := { dst := some 116, op := Go.Op.build 56 #[(0, Go.Operand.tmp 104), (1, Go.Operand.tmp 105), (3, Go.Operand.tmp 110), (4, Go.Operand.tmp 115)], type := 56, pos := "l05_journal.go:195", after := #[{ on := 13, ground := Go.Ground.data }, { on := 14, ground := Go.Ground.data }, { on := 19, ground := Go.Ground.data }, { on := 24, ground := Go.Ground.data }], guard := none }) (v := ?_) rfl (by kernel_rfl) (by kernel_rfl) (by kernel_rfl) (fun _ _ _ h => h) (Or.inl ⟨by rfl, ?_⟩) (by assumption) ?_
          rotate_left
          · (intro w hSw; (try dsimp only at hSw); go_simp <;> try with_reducible rfl)
          try simp only [Act.put, List.setIfInBounds_toArray, List.set_cons_zero, List.set_cons_succ]
          refine wpAnyH_ready (rs := [1, 26]) (by kernel_rfl) (by simp) ?_
          refine AllReadyH.cons (o := { dst := some 92, op := Go.Op.load 30 (Go.Operand.tmp 91), type := 30, pos := "l05_journal.go:195", after := #[{ on := 0, ground := Go.Ground.data }], guard := none }) rfl (fun K hK => ?_) (AllReadyH.cons (o := { dst := some 117, op := Go.Op.buildSlice 30 2 #[(0, Go.Operand.tmp 103), (1, Go.Operand.tmp 116)], type := 30, pos := "l05_journal.go:195", after := #[{ on := 12, ground := Go.Ground.data }, { on := 25, ground := Go.Ground.data }], guard := none }) rfl (fun K hK => ?_) (AllReadyH.nil))
          · go_simp
            first | refine hK.out _ _ (by exact hsk) (fun hHeld => ?_) | (go_wp2_with fail; refine hK.out _ _ (by exact hsk) (fun hHeld => ?_))
            clear hK K
            try simp only [Act.put, List.setIfInBounds_toArray, List.set_cons_zero, List.set_cons_succ]
            refine wpAnyH_ready (rs := [26]) (by kernel_rfl) (by simp) ?_
            refine AllReadyH.cons (o := { dst := some 117, op := Go.Op.buildSlice 30 2 #[(0, Go.Operand.tmp 103), (1, Go.Operand.tmp 116)], type := 30, pos := "l05_journal.go:195", after := #[{ on := 12, ground := Go.Ground.data }, { on := 25, ground := Go.Ground.data }], guard := none }) rfl (fun K hK => ?_) (AllReadyH.nil)
            go_simp
            first | refine hK.out _ _ (by exact ((World.cell?_alloc_past _ _ _ hsbl).trans hsk)) (fun hHeld => ?_) | (go_wp2_with fail; refine hK.out _ _ (by exact ((World.cell?_alloc_past _ _ _ hsbl).trans hsk)) (fun hHeld => ?_))
            clear hK K
            try simp only [Act.put, List.setIfInBounds_toArray, List.set_cons_zero, List.set_cons_succ]
            refine wpAnyH_ready (rs := [27]) (by kernel_rfl) (by simp) ?_
            refine AllReadyH.cons (o := { dst := some 118, op := Go.Op.call { callee := Go.Callee.builtin Go.Builtin.append, args := #[Go.Operand.tmp 92, Go.Operand.tmp 117], argTypes := #[30, 30] }, type := 30, pos := "l05_journal.go:195", after := #[{ on := 1, ground := Go.Ground.data }, { on := 26, ground := Go.Ground.data }], guard := none }) rfl (fun K hK => ?_) (AllReadyH.nil)
            refine oper_append (Operand.tmp 92) (Operand.tmp 117) 30 rfl (v0.heap.size + 1 + 1) 56 iL (.agg #[.int .i64 0, .int .i64 0, .int .i64 0, .int .i64 0, .int .i64 0]) 5 40 Tryd.underlying30 hiL hzL0 hzL1 hzL2 rfl (by decide) (.slice none 0 0) 0 [] rfl (World.ownsRow_nil _ _ _ _) ⟨v0.heap.size + 1, 0, none⟩ 2 2 [.int .i64 tu, .int .i64 dim, .int .i64 0, .int .i64 s, .int .i64 s, .int .i64 frm, .int .i64 dim, .int .i64 0, .int .i64 (-s), .int .i64 (-s)] rfl rfl (acells_at (w := W1.drew) (l := [.int .i64 tu, .int .i64 dim, .int .i64 0, .int .i64 s, .int .i64 s, .int .i64 frm, .int .i64 dim, .int .i64 0, .int .i64 (-s), .int .i64 (-s)]) hW1s) (fun u hu => by simp at hu; rcases hu with rfl | rfl | rfl | rfl | rfl | rfl | rfl | rfl <;> rfl) (by unfold maxLen; omega) (by omega) (by simp; omega) ?_
            intro v' w7 hown7 hgrow7 hloc7
            obtain ⟨g7, cp7, rfl, hg7, hl7⟩ := new_two hown7
            have bb7 : Below (v0.heap.size + 1 + 1) (W1.drew.alloc (.cells #[.int .i64 tu, .int .i64 dim, .int .i64 0, .int .i64 s, .int .i64 s, .int .i64 frm, .int .i64 dim, .int .i64 0, .int .i64 (-s), .int .i64 (-s)] 56 (0, 0))) w7 := ⟨hgrow7.os, hgrow7.tape, hgrow7.output, hgrow7.size, fun q hq => hgrow7.block q (by show q < (W1.heap.push _).size; rw [Array.size_push, hW1s]; omega) (fun e => by cases e)⟩
            have bb71 : Below W1.heap.size W1 w7 := by have b0 : Below W1.drew.heap.size W1.drew (W1.drew.alloc (.cells #[.int .i64 tu, .int .i64 dim, .int .i64 0, .int .i64 s, .int .i64 s, .int .i64 frm, .int .i64 dim, .int .i64 0, .int .i64 (-s), .int .i64 (-s)] 56 (0, 0))) := (Below.refl _ _).alloc (Nat.le_refl _) _; have b1 : Below W1.drew.heap.size W1.drew w7 := b0.trans (bb7.mono (by show W1.heap.size ≤ _; omega)); exact ⟨b1.os, b1.tape, b1.output, b1.size, b1.block⟩
            have HE7 : Hid (CB w7 v0.heap.size #[.int .i64 Y, .int .i64 0, .string ⟨#[115, 112, 114, 101, 97, 100]⟩, .slice none 0 0] 32) := HE1.out.below bb71 HE1.out.lt
            have hsk7 : w7.cell? ⟨sb, i, none⟩ = some (.int .i64 s) := (World.cell?_of_block (w := W1) (bb71.block _ hsbl)).trans hsk1b
            have e73 : w7.cell? ⟨v0.heap.size, 3, none⟩ = some (.slice none 0 0) := (HE7.out.cell 3).trans rfl
            have f73 := HE7.out.fr 3
            have HL7 : Hid (LR w7 (some ⟨g7, 0, none⟩) 2 (spL frm tu dim s)) := hl7
            have HB7 : Hid (Below W1.heap.size W1 w7) := bb71
            clear hown7 hgrow7 hloc7 bb7 bb71 hl7
            first | refine hK.out _ _ (by exact hsk7) (fun hHeld => ?_) | (go_wp2_with fail; refine hK.out _ _ (by exact hsk7) (fun hHeld => ?_))
            clear hK K
            try simp only [Act.put, List.setIfInBounds_toArray, List.set_cons_zero, List.set_cons_succ]
            refine wpAnyH_take (i := 28) (oi := { dst := some 119, op := Go.Op.fieldAddr 32 (Go.Operand.tmp 18) 3, type := 0, pos := "l05_journal.go:195", after := #[{ on := 0, ground := Go.Ground.phase }, { on := 1, ground := Go.Ground.phase }, { on := 2, ground := Go.Ground.phase }, { on := 3, ground := Go.Ground.phase }, { on := 4, ground := Go.Ground.phase }, { on := 5, ground := Go.Ground.phase }, { on := 6, ground := Go.Ground.phase }, { on := 7, ground := Go.Ground.phase }, { on := 8, ground := Go.Ground.phase }, { on := 9, ground := Go.Ground.phase }, { on := 10, ground := Go.Ground.phase }, { on := 11, ground := Go.Ground.phase }, { on := 12, ground := Go.Ground.phase }, { on := 13, ground := Go.Ground.phase }, { on := 14, ground := Go.Ground.phase }, { on := 15, ground := Go.Ground.phase }, { on := 16, ground := Go.Ground.phase }, { on := 17, ground := Go.Ground.phase }, { on := 18, ground := Go.Ground.phase }, { on := 19, ground := Go.Ground.phase }, { on := 20, ground := Go.Ground.phase }, { on := 21, ground := Go.Ground.phase }, { on := 22, ground := Go.Ground.phase }, { on := 23, ground := Go.Ground.phase }, { on := 24, ground := Go.Ground.phase }, { on := 25, ground := Go.Ground.phase }, { on := 26, ground := Go.Ground.phase }, { on := 27, ground := Go.Ground.phase }], guard := none }) (v := ?_) rfl (by kernel_rfl) (by kernel_rfl) (by kernel_rfl) (fun _ _ _ h => h) (Or.inl ⟨by rfl, ?_⟩) (by assumption) ?_
            rotate_left
            · (intro w hSw; (try dsimp only at hSw); go_simp <;> try with_reducible rfl)
            try simp only [Act.put, List.setIfInBounds_toArray, List.set_cons_zero, List.set_cons_succ]
            have hne7 : sb ≠ v0.heap.size := by omega
            have hsk8 : (w7.setCell ⟨v0.heap.size, 3, none⟩ (.slice (some ⟨g7, 0, none⟩) 2 cp7)).cell? ⟨sb, i, none⟩ = some (.int .i64 s) := (World.cell?_setCell_far _ _ _ _ (by simp; omega)).trans hsk7
            refine wpAnyH_ready (rs := [29]) (by kernel_rfl) (by simp) ?_
            refine AllReadyH.cons (o := { dst := none, op := Go.Op.store 30 (Go.Operand.tmp 119) (Go.Operand.tmp 118), type := 0, pos := "l05_journal.go:195", after := #[{ on := 28, ground := Go.Ground.data }, { on := 27, ground := Go.Ground.data }, { on := 27, ground := Go.Ground.chain }, { on := 0, ground := Go.Ground.phase }, { on := 1, ground := Go.Ground.phase }, { on := 2, ground := Go.Ground.phase }, { on := 3, ground := Go.Ground.phase }, { on := 4, ground := Go.Ground.phase }, { on := 5, ground := Go.Ground.phase }, { on := 6, ground := Go.Ground.phase }, { on := 7, ground := Go.Ground.phase }, { on := 8, ground := Go.Ground.phase }, { on := 9, ground := Go.Ground.phase }, { on := 10, ground := Go.Ground.phase }, { on := 11, ground := Go.Ground.phase }, { on := 12, ground := Go.Ground.phase }, { on := 13, ground := Go.Ground.phase }, { on := 14, ground := Go.Ground.phase }, { on := 15, ground := Go.Ground.phase }, { on := 16, ground := Go.Ground.phase }, { on := 17, ground := Go.Ground.phase }, { on := 18, ground := Go.Ground.phase }, { on := 19, ground := Go.Ground.phase }, { on := 20, ground := Go.Ground.phase }, { on := 21, ground := Go.Ground.phase }, { on := 22, ground := Go.Ground.phase }, { on := 23, ground := Go.Ground.phase }, { on := 24, ground := Go.Ground.phase }, { on := 25, ground := Go.Ground.phase }, { on := 26, ground := Go.Ground.phase }, { on := 27, ground := Go.Ground.phase }], guard := none }) rfl (fun K hK => ?_) (AllReadyH.nil)
            go_simp
            first | refine hK.out _ _ (by exact hsk8) (fun hHeld => ?_) | (go_wp2_with fail; refine hK.out _ _ (by exact hsk8) (fun hHeld => ?_))
            clear hK K
            try simp only [Act.put, List.setIfInBounds_toArray, List.set_cons_zero, List.set_cons_succ]
            refine wpAnyH_done (by kernel_rfl) ?_ _
            clear hHeld
            go_wp2_with fail
            go_meet
            exact ⟨rfl, g7, cp7, hg7, by have := HE7.out.set 3 (.slice (some ⟨g7, 0, none⟩) 2 cp7); simpa using this, HL7.out.other _ (by omega), (HB01.out.trans (HB7.out.mono (by omega))).setCell (p := ⟨v0.heap.size, 3, none⟩) (by simp) _⟩
          · go_simp
            first | refine hK.out _ _ (by exact ((World.cell?_alloc_past _ _ _ hsbl).trans hsk)) (fun hHeld => ?_) | (go_wp2_with fail; refine hK.out _ _ (by exact ((World.cell?_alloc_past _ _ _ hsbl).trans hsk)) (fun hHeld => ?_))
            clear hK K
            try simp only [Act.put, List.setIfInBounds_toArray, List.set_cons_zero, List.set_cons_succ]
            refine wpAnyH_ready (rs := [1]) (by kernel_rfl) (by simp) ?_
            refine AllReadyH.cons (o := { dst := some 92, op := Go.Op.load 30 (Go.Operand.tmp 91), type := 30, pos := "l05_journal.go:195", after := #[{ on := 0, ground := Go.Ground.data }], guard := none }) rfl (fun K hK => ?_) (AllReadyH.nil)
            go_simp
            first | refine hK.out _ _ (by exact ((World.cell?_alloc_past _ _ _ hsbl).trans hsk)) (fun hHeld => ?_) | (go_wp2_with fail; refine hK.out _ _ (by exact ((World.cell?_alloc_past _ _ _ hsbl).trans hsk)) (fun hHeld => ?_))
            clear hK K
            try simp only [Act.put, List.setIfInBounds_toArray, List.set_cons_zero, List.set_cons_succ]
            refine wpAnyH_ready (rs := [27]) (by kernel_rfl) (by simp) ?_
            refine AllReadyH.cons (o := { dst := some 118, op := Go.Op.call { callee := Go.Callee.builtin Go.Builtin.append, args := #[Go.Operand.tmp 92, Go.Operand.tmp 117], argTypes := #[30, 30] }, type := 30, pos := "l05_journal.go:195", after := #[{ on := 1, ground := Go.Ground.data }, { on := 26, ground := Go.Ground.data }], guard := none }) rfl (fun K hK => ?_) (AllReadyH.nil)
            refine oper_append (Operand.tmp 92) (Operand.tmp 117) 30 rfl (v0.heap.size + 1 + 1) 56 iL (.agg #[.int .i64 0, .int .i64 0, .int .i64 0, .int .i64 0, .int .i64 0]) 5 40 Tryd.underlying30 hiL hzL0 hzL1 hzL2 rfl (by decide) (.slice none 0 0) 0 [] rfl (World.ownsRow_nil _ _ _ _) ⟨v0.heap.size + 1, 0, none⟩ 2 2 [.int .i64 tu, .int .i64 dim, .int .i64 0, .int .i64 s, .int .i64 s, .int .i64 frm, .int .i64 dim, .int .i64 0, .int .i64 (-s), .int .i64 (-s)] rfl rfl (acells_at (w := W1.drew) (l := [.int .i64 tu, .int .i64 dim, .int .i64 0, .int .i64 s, .int .i64 s, .int .i64 frm, .int .i64 dim, .int .i64 0, .int .i64 (-s), .int .i64 (-s)]) hW1s) (fun u hu => by simp at hu; rcases hu with rfl | rfl | rfl | rfl | rfl | rfl | rfl | rfl <;> rfl) (by unfold maxLen; omega) (by omega) (by simp; omega) ?_
            intro v' w7 hown7 hgrow7 hloc7
            obtain ⟨g7, cp7, rfl, hg7, hl7⟩ := new_two hown7
            have bb7 : Below (v0.heap.size + 1 + 1) (W1.drew.alloc (.cells #[.int .i64 tu, .int .i64 dim, .int .i64 0, .int .i64 s, .int .i64 s, .int .i64 frm, .int .i64 dim, .int .i64 0, .int .i64 (-s), .int .i64 (-s)] 56 (0, 0))) w7 := ⟨hgrow7.os, hgrow7.tape, hgrow7.output, hgrow7.size, fun q hq => hgrow7.block q (by show q < (W1.heap.push _).size; rw [Array.size_push, hW1s]; omega) (fun e => by cases e)⟩
            have bb71 : Below W1.heap.size W1 w7 := by have b0 : Below W1.drew.heap.size W1.drew (W1.drew.alloc (.cells #[.int .i64 tu, .int .i64 dim, .int .i64 0, .int .i64 s, .int .i64 s, .int .i64 frm, .int .i64 dim, .int .i64 0, .int .i64 (-s), .int .i64 (-s)] 56 (0, 0))) := (Below.refl _ _).alloc (Nat.le_refl _) _; have b1 : Below W1.drew.heap.size W1.drew w7 := b0.trans (bb7.mono (by show W1.heap.size ≤ _; omega)); exact ⟨b1.os, b1.tape, b1.output, b1.size, b1.block⟩
            have HE7 : Hid (CB w7 v0.heap.size #[.int .i64 Y, .int .i64 0, .string ⟨#[115, 112, 114, 101, 97, 100]⟩, .slice none 0 0] 32) := HE1.out.below bb71 HE1.out.lt
            have hsk7 : w7.cell? ⟨sb, i, none⟩ = some (.int .i64 s) := (World.cell?_of_block (w := W1) (bb71.block _ hsbl)).trans hsk1b
            have e73 : w7.cell? ⟨v0.heap.size, 3, none⟩ = some (.slice none 0 0) := (HE7.out.cell 3).trans rfl
            have f73 := HE7.out.fr 3
            have HL7 : Hid (LR w7 (some ⟨g7, 0, none⟩) 2 (spL frm tu dim s)) := hl7
            have HB7 : Hid (Below W1.heap.size W1 w7) := bb71
            clear hown7 hgrow7 hloc7 bb7 bb71 hl7
            first | refine hK.out _ _ (by exact hsk7) (fun hHeld => ?_) | (go_wp2_with fail; refine hK.out _ _ (by exact hsk7) (fun hHeld => ?_))
            clear hK K
            try simp only [Act.put, List.setIfInBounds_toArray, List.set_cons_zero, List.set_cons_succ]
            refine wpAnyH_take (i := 28) (oi := { dst := some 119, op := Go.Op.fieldAddr 32 (Go.Operand.tmp 18) 3, type := 0, pos := "l05_journal.go:195", after := #[{ on := 0, ground := Go.Ground.phase }, { on := 1, ground := Go.Ground.phase }, { on := 2, ground := Go.Ground.phase }, { on := 3, ground := Go.Ground.phase }, { on := 4, ground := Go.Ground.phase }, { on := 5, ground := Go.Ground.phase }, { on := 6, ground := Go.Ground.phase }, { on := 7, ground := Go.Ground.phase }, { on := 8, ground := Go.Ground.phase }, { on := 9, ground := Go.Ground.phase }, { on := 10, ground := Go.Ground.phase }, { on := 11, ground := Go.Ground.phase }, { on := 12, ground := Go.Ground.phase }, { on := 13, ground := Go.Ground.phase }, { on := 14, ground := Go.Ground.phase }, { on := 15, ground := Go.Ground.phase }, { on := 16, ground := Go.Ground.phase }, { on := 17, ground := Go.Ground.phase }, { on := 18, ground := Go.Ground.phase }, { on := 19, ground := Go.Ground.phase }, { on := 20, ground := Go.Ground.phase }, { on := 21, ground := Go.Ground.phase }, { on := 22, ground := Go.Ground.phase }, { on := 23, ground := Go.Ground.phase }, { on := 24, ground := Go.Ground.phase }, { on := 25, ground := Go.Ground.phase }, { on := 26, ground := Go.Ground.phase }, { on := 27, ground := Go.Ground.phase }], guard := none }) (v := ?_) rfl (by kernel_rfl) (by kernel_rfl) (by kernel_rfl) (fun _ _ _ h => h) (Or.inl ⟨by rfl, ?_⟩) (by assumption) ?_
            rotate_left
            · (intro w hSw; (try dsimp only at hSw); go_simp <;> try with_reducible rfl)
            try simp only [Act.put, List.setIfInBounds_toArray, List.set_cons_zero, List.set_cons_succ]
            have hne7 : sb ≠ v0.heap.size := by omega
            have hsk8 : (w7.setCell ⟨v0.heap.size, 3, none⟩ (.slice (some ⟨g7, 0, none⟩) 2 cp7)).cell? ⟨sb, i, none⟩ = some (.int .i64 s) := (World.cell?_setCell_far _ _ _ _ (by simp; omega)).trans hsk7
            refine wpAnyH_ready (rs := [29]) (by kernel_rfl) (by simp) ?_
            refine AllReadyH.cons (o := { dst := none, op := Go.Op.store 30 (Go.Operand.tmp 119) (Go.Operand.tmp 118), type := 0, pos := "l05_journal.go:195", after := #[{ on := 28, ground := Go.Ground.data }, { on := 27, ground := Go.Ground.data }, { on := 27, ground := Go.Ground.chain }, { on := 0, ground := Go.Ground.phase }, { on := 1, ground := Go.Ground.phase }, { on := 2, ground := Go.Ground.phase }, { on := 3, ground := Go.Ground.phase }, { on := 4, ground := Go.Ground.phase }, { on := 5, ground := Go.Ground.phase }, { on := 6, ground := Go.Ground.phase }, { on := 7, ground := Go.Ground.phase }, { on := 8, ground := Go.Ground.phase }, { on := 9, ground := Go.Ground.phase }, { on := 10, ground := Go.Ground.phase }, { on := 11, ground := Go.Ground.phase }, { on := 12, ground := Go.Ground.phase }, { on := 13, ground := Go.Ground.phase }, { on := 14, ground := Go.Ground.phase }, { on := 15, ground := Go.Ground.phase }, { on := 16, ground := Go.Ground.phase }, { on := 17, ground := Go.Ground.phase }, { on := 18, ground := Go.Ground.phase }, { on := 19, ground := Go.Ground.phase }, { on := 20, ground := Go.Ground.phase }, { on := 21, ground := Go.Ground.phase }, { on := 22, ground := Go.Ground.phase }, { on := 23, ground := Go.Ground.phase }, { on := 24, ground := Go.Ground.phase }, { on := 25, ground := Go.Ground.phase }, { on := 26, ground := Go.Ground.phase }, { on := 27, ground := Go.Ground.phase }], guard := none }) rfl (fun K hK => ?_) (AllReadyH.nil)
            go_simp
            first | refine hK.out _ _ (by exact hsk8) (fun hHeld => ?_) | (go_wp2_with fail; refine hK.out _ _ (by exact hsk8) (fun hHeld => ?_))
            clear hK K
            try simp only [Act.put, List.setIfInBounds_toArray, List.set_cons_zero, List.set_cons_succ]
            refine wpAnyH_done (by kernel_rfl) ?_ _
            clear hHeld
            go_wp2_with fail
            go_meet
            exact ⟨rfl, g7, cp7, hg7, by have := HE7.out.set 3 (.slice (some ⟨g7, 0, none⟩) 2 cp7); simpa using this, HL7.out.other _ (by omega), (HB01.out.trans (HB7.out.mono (by omega))).setCell (p := ⟨v0.heap.size, 3, none⟩) (by simp) _⟩
        case rest =>
          obtain ⟨W2, hW2⟩ : ∃ W2, W2 = wc := ⟨_, rfl⟩
          subst hW2
          obtain ⟨rfl, g, cp, hg, hE2, hL2, hB2⟩ := hcut
          have HW2 : Hid (L2 w fa len cap d u (some ⟨sb, 0, none⟩) k pc pb S E i (.slice oa i oc) A C W2) := HW.out.below hB2
          have HE2 : Hid (CB W2 v0.heap.size #[.int .i64 Y, .int .i64 0, .string ⟨#[115, 112, 114, 101, 97, 100]⟩, .slice (some ⟨g, 0, none⟩) 2 cp] 32) := hE2
          have HL2 : Hid (LR W2 (some ⟨g, 0, none⟩) 2 (spL frm tu dim s)) := hL2
          have e0 : W2.cell? ⟨v0.heap.size, 0, none⟩ = some (.int .i64 Y) := (hE2.cell 0).trans rfl
          have e1 : W2.cell? ⟨v0.heap.size, 1, none⟩ = some (.int .i64 0) := (hE2.cell 1).trans rfl
          have e2 : W2.cell? ⟨v0.heap.size, 2, none⟩ = some (.string ⟨#[115, 112, 114, 101, 97, 100]⟩) := (hE2.cell 2).trans rfl
          have e3 : W2.cell? ⟨v0.heap.size, 3, none⟩ = some (.slice (some ⟨g, 0, none⟩) 2 cp) := (hE2.cell 3).trans rfl
          have f0 : W2.cell? ⟨w.heap.size, 0, none⟩ = some (.slice fa len cap) := (HW2.out.fr.cell 0).trans rfl
          have f1 : W2.cell? ⟨w.heap.size, 1, none⟩ = some (.int .i64 d) := (HW2.out.fr.cell 1).trans rfl
          have f2 : W2.cell? ⟨w.heap.size, 2, none⟩ = some (.int .i64 u) := (HW2.out.fr.cell 2).trans rfl
          have hv0w := HW.out.bel.size
          have HOB : Hid (some g ≠ Value.ownBlock (.slice oa i oc)) := fun e => by have := (HW.out.se.lt g e.symm).2; omega
          obtain ⟨V, hV⟩ : ∃ V, enB len c d u (E i) = V := ⟨_, rfl⟩
          have HTK : Hid (Calls Tryd.prog 35 #[.agg #[.slice fa len cap, .int .i64 d, .int .i64 u], .agg #[.int .i64 Y, .int .i64 0, .string ⟨#[115, 112, 114, 101, 97, 100]⟩, .slice (some ⟨g, 0, none⟩) 2 cp]] W2 fun e w' => e = .returned (.bool V) ∧ Below W2.heap.size W2 w') := by
            have h := specEntry_any fa len cap c d u Y 0 ⟨#[115, 112, 114, 101, 97, 100]⟩ (some ⟨g, 0, none⟩) 2 cp (spL frm tu dim s) W2 hl HC.out (HR.out.below HW2.out.bel) hL2 (by decide) (by decide)
            have e : (⟨Y, 0, ⟨#[115, 112, 114, 101, 97, 100]⟩, 2, spL frm tu dim s⟩ : E4) = E i := HEi.out.symm
            rw [e, hV] at h
            exact h
          have HVV : Hid (enB len c d u (E i) = V) := hV
          clear hV hE2 hL2 hB2 hsk hsk1 hsk1b e13 hsbl hsbl0
          cases V with
          | false =>
            go_wp2_with (go_at_call 35; refine HTK.out.mono ?_; rintro e w8 ⟨rfl, b8⟩; have HB8 : Hid (Below w.heap.size w w8) := bel_on HW2.out.bel b8; clear b8)
            go_returns
            rw [HMM.out.1, HMM.out.2, HNO.out i hin HVV.out]
            exact ⟨_, _, rfl, .inl rfl, HB8.out.alloc HB8.out.size _⟩
          | true =>
            go_wp2_with (first
              | (go_at_call 35; refine HTK.out.mono ?_; rintro e w8 ⟨rfl, b8⟩; have HW8 : Hid (L2 w fa len cap d u (some ⟨sb, 0, none⟩) k pc pb S E i (.slice oa i oc) A C w8) := HW2.out.below b8; have HE8 : Hid (CB w8 v0.heap.size #[.int .i64 Y, .int .i64 0, .string ⟨#[115, 112, 114, 101, 97, 100]⟩, .slice (some ⟨g, 0, none⟩) 2 cp] 32) := HE2.out.below b8 HE2.out.lt; have HL8 : Hid (LR w8 (some ⟨g, 0, none⟩) 2 (spL frm tu dim s)) := HL2.out.below b8; clear b8 e0 e1 e2 e3 f0 f1 f2; have e0 : w8.cell? ⟨v0.heap.size, 0, none⟩ = some (.int .i64 Y) := (HE8.out.cell 0).trans rfl; have e1 : w8.cell? ⟨v0.heap.size, 1, none⟩ = some (.int .i64 0) := (HE8.out.cell 1).trans rfl; have e2 : w8.cell? ⟨v0.heap.size, 2, none⟩ = some (.string ⟨#[115, 112, 114, 101, 97, 100]⟩) := (HE8.out.cell 2).trans rfl; have e3 : w8.cell? ⟨v0.heap.size, 3, none⟩ = some (.slice (some ⟨g, 0, none⟩) 2 cp) := (HE8.out.cell 3).trans rfl)
              | (at_builtin; go_loud (refine wpList_append_own_at _ rfl _ _ 27 rfl (w.heap.size + 1) 32 iE (.agg #[.int .i64 0, .int .i64 0, .string ByteArray.empty, .slice none 0 0]) 4 56 Tryd.underlying27 hiE hzE0 hzE1 hzE2 rfl (by decide) (.slice oa i oc) i (flE E A C i) rfl (HW8.out.se.below ((Below.refl _ _).alloc (Nat.le_refl _) _)).1 ⟨w8.heap.size, 0, none⟩ 1 1 [.int .i64 Y, .int .i64 0, .string ⟨#[115, 112, 114, 101, 97, 100]⟩, .slice (some ⟨g, 0, none⟩) 2 cp] rfl rfl (acells_at rfl) (fun u hu => by simp at hu; rcases hu with rfl | rfl | rfl | rfl <;> rfl) (by unfold maxLen; omega) (by omega) (by have := HW8.out.fr.lt; simp <;> omega) ?_); intro v' w9 hown9 hgrow9 hnil9 hat9; obtain ⟨ad9, cap9, rfl⟩ := Sh.row_form hown9; have HN9 : Hid (L2 w fa len cap d u (some ⟨sb, 0, none⟩) k pc pb S E (i + 1) (.slice ad9 (i + 1) cap9) (fun j => if j = i then some ⟨g, 0, none⟩ else A j) (fun j => if j = i then cp else C j) w9) := HW8.out.grow (b := g) (c := cp) (by rw [HEi.out]; exact HL8.out) ⟨by omega, HOB.out⟩ (by rw [show cellsE (E i) (some ⟨g, 0, none⟩) cp = [.int .i64 Y, .int .i64 0, .string ⟨#[115, 112, 114, 101, 97, 100]⟩, .slice (some ⟨g, 0, none⟩) 2 cp] from by rw [HEi.out]; rfl]; exact hown9) hgrow9 hat9; clear hown9 hgrow9 hnil9 hat9))
            go_roundw
            case rel => exact ⟨i + 1, _, _, _, _, by go_num, rfl, by omega, fun j hj => by
              by_cases e : j = i
              · rw [e]; exact HVV.out
              · exact HEN.out j (by omega), HN9⟩
            case measure => simp [intOf]; omega
end Go.Proofs.YtgnhpjlfdkpaiaaDoor
