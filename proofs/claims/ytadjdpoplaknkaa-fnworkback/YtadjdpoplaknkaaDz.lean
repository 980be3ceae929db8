/- The draw of a calendar. -/
import Derived.Test.YtadjdpoplaknkaaDy
import Derived.Test.YtadjdpoplaknkaaBl
import Derived.Deep.RegionHeld3
import Derived.WalkSmall
namespace Go.Proofs.Ytadjdpoplaknkaa
open Go.ChangeShapes Go.WideShapes Go.ChangeAt Go.RowKit
set_option linter.unusedVariables false
set_option linter.unusedSimpArgs false

def DzPost (b : Nat) (w : World) (e : Ending) (w' : World) : Prop := ∃ (off : Int) (ad : Option Addr) (n cap : Nat) (z : Nat → Int), e = .returned (.agg #[.int .i64 off, .slice ad n cap]) ∧ n ≤ 5 ∧ IR w' ad n z ∧ Moved b w w' ∧ ∀ k o, ad = some ⟨k, o, none⟩ → w.heap.size < k
theorem dzp {b n cap : Nat} {w w' : World} {off : Int} {ad : Option Addr} {z : Nat → Int} {v : Value} (h1 : n ≤ 5) (hv : v = .slice ad n cap) (h2 : IR w' ad n z) (h3 : Moved b w w') (h4 : ∀ k o, ad = some ⟨k, o, none⟩ → w.heap.size < k) : DzPost b w (.returned (.agg #[.int .i64 off, v])) w' := by subst hv; exact ⟨off, ad, n, cap, z, rfl, h1, h2, h3, h4⟩

set_option maxRecDepth 100000 in
theorem info3 : ∃ i, Try.prog.info? 3 = some i ∧ i.zero = some (.int .i64 0) ∧ i.size = 1 ∧ i.bytes = 8 := by
  obtain ⟨i, hi⟩ : ∃ i, Try.prog.info? 3 = some i := ⟨_, rfl⟩
  have hz : i.zero = some (.int .i64 0) := by
    have : (Try.prog.info? 3).bind (·.zero) = some (.int .i64 0) := by kernel_rfl
    rw [hi] at this; exact this
  have hs : i.size = 1 := by
    have : (Try.prog.info? 3).map (·.size) = some 1 := by kernel_rfl
    rw [hi] at this; simpa using this
  have hb : i.bytes = 8 := by
    have : (Try.prog.info? 3).map (·.bytes) = some 8 := by kernel_rfl
    rw [hi] at this; simpa using this
  exact ⟨i, hi, hz, hs, hb⟩

theorem Hid.mk' {p : Prop} (h : p) : Hid p := h
theorem ownsRow_some {w : World} {base : Nat} {e : TypeId} {size : Nat} {v : Value} {n : Nat} {xs : List Value} (h : w.ownsRow base e size v n xs) (hn : 0 < n) : ∃ g cap, v = .slice (some ⟨g, 0, none⟩) n cap ∧ base ≤ g := by
  rcases h.2 with ⟨_, e0⟩ | ⟨g, cap, cur, rfl, hb, _⟩
  · omega
  · exact ⟨g, cap, rfl, hb⟩

set_option maxRecDepth 20000 in
set_option maxHeartbeats 4000000 in
theorem drawCal_any (b : Nat) (w : World) (hc : Cursor w b) :
    Calls Try.prog 31 #[.pointer (some ⟨b, 0, none⟩)] w fun e w' => DzPost b w e w' := by
  have HC : Hid (Cursor w b) := hc
  have hlt := hc.lt
  obtain ⟨i0, hi, hz0, hz1, hz2⟩ := info3
  have tk1 : True := trivial
  clear hc
  go_enter Try.func31, Try.ntmps31
  go_wp2_with (first
    | (go_at_call 52; refine (pick_any b _ [96, 96, 64, 0, 126, 1, 63] 7 7 _ ((HC.out.alloc _).alloc _) (row_at (by simp) (IntRow.made (HC.out.alloc (.cells #[.int .i64 0, .slice none 0 0] 26 (0, 0))).lt _ _ _ rfl)) rfl (by decide) (by decide)).mono ?_; rintro e w1 ⟨of0, rfl, _, m1⟩; have Z1 : Hid (CB w1 w.heap.size #[.int .i64 0, .slice none 0 0] 26) := ((CB.new _ _).alloc _).turns m1.2 (by omega); have M1 : Hid (Moved b w w1) := ⟨m1.1, (((Turns.refl b w).alloc _).alloc _).trans m1.2⟩; have hX : w.heap.size < w1.heap.size := Z1.out.lt; have HK : Hid (Kp w b w1.heap.size of0 (.slice none 0 0) 0 (w1.alloc (.cells #[.int .i64 of0, .slice none 0 0] 26 (0, 0)))) := ⟨M1.out.1.alloc _, M1.out.2.alloc _, Z1.out.alloc _, CB.new _ _, ⟨[], World.ownsRow_nil _ _ _ _, fun u hu => by simp at hu⟩, hX, hlt⟩; obtain ⟨X, hXX⟩ : ∃ X, w1.heap.size = X := ⟨_, rfl⟩; clear m1)
    | (go_at_call 35; refine (below_any b _ _ HK.out.cur).mono ?_; rintro e w2 ⟨x, rfl, x0, x1, _, m2⟩; have x2 := x1 (by decide); replace HK : Hid (Kp w b w1.heap.size of0 (.slice none 0 0) 0 w2) := HK.out.moved m2; clear m2 x1))
  rw [hXX] at HK
  go_loopw [4, 5] (fun d u wr => ∃ (n : Nat) (v : Value) (dz kz : Int), d = .int .i64 dz ∧ u = .int .i64 kz ∧ 0 ≤ dz ∧ dz ≤ 301 * (n : Int) ∧ 0 ≤ kz ∧ (n : Int) + kz ≤ 5 ∧ Kp w b X of0 v n wr) (fun _ u _ => (intOf u).toNat)
  case atStart => exact ⟨0, _, 0, x, rfl, rfl, by omega, by omega, x0, by omega, HK.out⟩
  case round =>
    obtain ⟨n, v, dz, kz, rfl, rfl, hd0, hd1, hk0, hk1, hD⟩ := hrel
    replace HK : Hid (Kp w b X of0 v n wr) := hD
    clear hD
    by_cases hkp : 0 < kz
    · have hn4 : (n : Int) ≤ 4 := by omega
      go_wp2_with (first
        | (go_at_call 35; refine (below_any b _ _ HK.out.cur).mono ?_; rintro e w3 ⟨y, rfl, y0, y1, _, m3⟩; have y2 := y1 (by decide); replace HK : Hid (Kp w b X of0 v n w3) := HK.out.moved m3; clear m3 y1; have q1 := HK.out.box.cell 1; simp at q1; obtain ⟨xs, hO, hA⟩ := HK.out.row; have HO : Hid (w3.ownsRow (X + 1) 3 1 v n xs) := hO; have HA : Hid (AllI xs) := hA; clear hO hA; obtain ⟨D, hD⟩ : ∃ D, dz + 1 + y = D := ⟨_, rfl⟩)
        | (at_builtin; have := HO; refine wpList_append_own_at _ rfl _ _ 24 rfl (X + 1) 3 i0 (.int .i64 0) 1 8 Try.underlying24 hi hz0 hz1 hz2 rfl (by decide) v n xs rfl (HO.out.alloc _) ⟨w3.heap.size, 0, none⟩ 1 1 [.int .i64 D] rfl rfl (cell_one_new w3 (.int .i64 D) 3) (fun u hu => by simp at hu; subst hu; rfl) (by unfold maxLen; omega) (by omega) (by have := HK.out.box.lt; simp; omega) ?_; intro v' w7 hown7 hgrow7 _ hloc7; obtain ⟨g', cap', rfl, hg'⟩ := ownsRow_some hown7 (by omega); have hv : ∀ g, v.ownBlock = some g → X + 1 ≤ g := (fun g e => (HO.out.lt g e).1); have bx := ((HK.out.alloc (.cells #[.int .i64 D] 3 (0, 0))).box).grown hgrow7 (fun e => by have := hv X e.symm; omega); have r1 := bx.cell 1; have rf := bx.fr 1; simp at r1; have HK7 : Hid (Kp w b X of0 (.slice (some ⟨g', 0, none⟩) (n + 1) cap') (n + 1) (w7.setCell ⟨X, 1, none⟩ (.slice (some ⟨g', 0, none⟩) (n + 1) cap'))) := (HK.out.alloc _).app HA.out hgrow7 hv hown7; clear hown7 hgrow7 hloc7 HO HA bx))
      go_roundw
      case rel => exact ⟨n + 1, .slice (some ⟨g', 0, none⟩) (n + 1) cap', D, kz - 1, rfl, rfl, by omega, by omega, by omega, by omega, HK7.out⟩
      case measure => simp [intOf]; omega
    · obtain rfl : kz = 0 := by omega
      have hn5 : n ≤ 5 := by omega
      have tk2 : True := trivial
      rcases HK.out.parts with ⟨rfl, rfl⟩ | ⟨g, cap, cur, rfl, hgX, _⟩
      · go_wp2_with (first | (go_at_call 53; have := tk2; clear tk2; refine (once_any b _ _ HK.out.cur).mono ?_; rintro e w5 ⟨xb, rfl, m5⟩; replace HK : Hid (Kp w b X of0 (.slice none 0 0) 0 w5) := HK.out.moved m5; clear m5; cases xb) | (go_at_call 52; refine (pick_any b _ [127, 128, -1] 3 3 _ (HK.out.alloc _).cur (IntRow.made HK.out.cur.lt _ _ _ rfl) rfl (by decide) (by decide)).mono ?_; rintro e w6 ⟨of2, rfl, _, m6⟩; have HK6 := (HK.out.alloc _).moved m6; have q0 := HK6.box.cell 0; have qf := HK6.box.fr 0; simp at q0; replace HK : Hid (Kp w b X of2 (.slice none 0 0) 0 (w6.setCell ⟨X, 0, none⟩ (.int .i64 of2))) := HK6.setOff of2; clear m6 HK6) | (go_at_call 53; refine (once_any b _ _ HK.out.cur).mono ?_; rintro e w7 ⟨xc, rfl, m7⟩; replace HK := Hid.mk' (HK.out.moved m7); clear m7; have x0 := HK.out.box.cell 0; have x1 := HK.out.box.cell 1; have p0 := HK.out.z.cell 0; have p1 := HK.out.z.cell 1; have f0 := HK.out.z.fr 0; have f1 := HK.out.z.fr 1; simp at x0 x1 p0 p1; cases xc))
        all_goals
          obtain ⟨W9, hW9, C4, M4, ad, cp, z, hv, ir, hk⟩ := HK.out.fin
          rw [← hW9]
          have e0 := C4.cell 0
          have e1 := C4.cell 1
          simp at e0 e1
          clear x0 x1 p0 p1 f0 f1 hW9 C4
          refine bodyPost_ret (by simp [results, Try.results31, go_sem, e0, e1]; try rfl) rfl ?_
          exact dzp (by omega) hv ir M4 hk
      · by_cases hn1 : n ≤ 1
        · have hni : (n : Int) ≤ 1 := by omega
          go_wp2_with (first | (go_at_call 53; have := tk2; clear tk2; refine (once_any b _ _ HK.out.cur).mono ?_; rintro e w5 ⟨xb, rfl, m5⟩; replace HK : Hid (Kp w b X of0 (.slice (some ⟨g, 0, none⟩) n cap) n w5) := HK.out.moved m5; clear m5; cases xb) | (go_at_call 52; refine (pick_any b _ [127, 128, -1] 3 3 _ (HK.out.alloc _).cur (IntRow.made HK.out.cur.lt _ _ _ rfl) rfl (by decide) (by decide)).mono ?_; rintro e w6 ⟨of2, rfl, _, m6⟩; have HK6 := (HK.out.alloc _).moved m6; have q0 := HK6.box.cell 0; have qf := HK6.box.fr 0; simp at q0; replace HK : Hid (Kp w b X of2 (.slice (some ⟨g, 0, none⟩) n cap) n (w6.setCell ⟨X, 0, none⟩ (.int .i64 of2))) := HK6.setOff of2; clear m6 HK6) | (go_at_call 53; refine (once_any b _ _ HK.out.cur).mono ?_; rintro e w7 ⟨xc, rfl, m7⟩; replace HK := Hid.mk' (HK.out.moved m7); clear m7; have x0 := HK.out.box.cell 0; have x1 := HK.out.box.cell 1; have p0 := HK.out.z.cell 0; have p1 := HK.out.z.cell 1; have f0 := HK.out.z.fr 0; have f1 := HK.out.z.fr 1; simp at x0 x1 p0 p1; cases xc))
          all_goals
            obtain ⟨W9, hW9, C4, M4, ad, cp, z, hv, ir, hk⟩ := HK.out.fin
            rw [← hW9]
            have e0 := C4.cell 0
            have e1 := C4.cell 1
            simp at e0 e1
            clear x0 x1 p0 p1 f0 f1 hW9 C4
            refine bodyPost_ret (by simp [results, Try.results31, go_sem, e0, e1]; try rfl) rfl ?_
            exact dzp (by omega) hv ir M4 hk
        · have hni : (1 : Int) < (n : Int) := by omega
          have hnn0 : 0 < n := by omega
          have hnn1 : 1 < n := by omega
          go_wp2_with (first | (go_at_call 53; have := tk2; clear tk2; refine (once_any b _ _ HK.out.cur).mono ?_; rintro e w5 ⟨xb, rfl, m5⟩; replace HK : Hid (Kp w b X of0 (.slice (some ⟨g, 0, none⟩) n cap) n w5) := HK.out.moved m5; clear m5; cases xb) | (go_at_call 52; refine (pick_any b _ [127, 128, -1] 3 3 _ (HK.out.alloc _).cur (IntRow.made HK.out.cur.lt _ _ _ rfl) rfl (by decide) (by decide)).mono ?_; rintro e w6 ⟨of2, rfl, _, m6⟩; have HK6 := (HK.out.alloc _).moved m6; have q0 := HK6.box.cell 0; have qf := HK6.box.fr 0; simp at q0; replace HK : Hid (Kp w b X of2 (.slice (some ⟨g, 0, none⟩) n cap) n (w6.setCell ⟨X, 0, none⟩ (.int .i64 of2))) := HK6.setOff of2; clear m6 HK6) | (go_at_call 53; refine (once_any b _ _ HK.out.cur).mono ?_; rintro e w7 ⟨xc, rfl, m7⟩; replace HK := Hid.mk' (HK.out.moved m7); clear m7; have x0 := HK.out.box.cell 0; have x1 := HK.out.box.cell 1; have p0 := HK.out.z.cell 0; have p1 := HK.out.z.cell 1; have f0 := HK.out.z.fr 0; have f1 := HK.out.z.fr 1; simp at x0 x1 p0 p1; cases xc))
          obtain ⟨W9, hW9, C4, M4, ad, cp, z, hv, ir, hk⟩ := HK.out.fin
          rw [← hW9]
          have e0 := C4.cell 0
          have e1 := C4.cell 1
          simp at e0 e1
          clear x0 x1 p0 p1 f0 f1 hW9 C4
          refine bodyPost_ret (by simp [results, Try.results31, go_sem, e0, e1]; try rfl) rfl ?_
          exact dzp (by omega) hv ir M4 hk
          obtain ⟨⟨z0, u2⟩, _, _, hglt⟩ := HK.out.cellN (o := 0) (by omega)
          have u1 := x1
          clear x0 x1 p0 p1 f0 f1
          refine wp_region_held_drew (S := fun w' => w'.cell? ⟨X, 1, none⟩ = some (.slice (some ⟨g, 0, none⟩) n cap) ∧ w'.cell? ⟨g, 0, none⟩ = some (.int .i64 z0)) (by kernel_rfl) (by exact ⟨u1, u2⟩) (fun hHeld => ?_)
          refine wpAnyH_take (i := 0) (oi := { dst := some 41, op := Go.Op.fieldAddr 26 (Go.Operand.tmp 3) 1, type := 0, pos := "l02_days.go:260", after := #[], guard := none }) (v := ?_) rfl (by kernel_rfl) (by kernel_rfl) (by kernel_rfl) (fun _ _ _ h => h) (Or.inl ⟨by rfl, ?_⟩) (by assumption) ?_
          rotate_left
          · (intro w hSw; (try dsimp only at hSw); go_simp <;> try with_reducible rfl)
          try simp only [Act.put, List.setIfInBounds_toArray, List.set_cons_zero, List.set_cons_succ]
          refine wpAnyH_take (i := 1) (oi := { dst := some 42, op := Go.Op.load 24 (Go.Operand.tmp 41), type := 24, pos := "l02_days.go:260", after := #[{ on := 0, ground := Go.Ground.data }], guard := none }) (v := ?_) rfl (by kernel_rfl) (by kernel_rfl) (by kernel_rfl) (fun _ _ _ h => h) (Or.inl ⟨by rfl, ?_⟩) (by assumption) ?_
          rotate_left
          · (intro w hSw; (try dsimp only at hSw); go_simp <;> try with_reducible rfl)
          try simp only [Act.put, List.setIfInBounds_toArray, List.set_cons_zero, List.set_cons_succ]
          refine wpAnyH_take (i := 2) (oi := { dst := some 43, op := Go.Op.fieldAddr 26 (Go.Operand.tmp 3) 1, type := 0, pos := "l02_days.go:260", after := #[], guard := none }) (v := ?_) rfl (by kernel_rfl) (by kernel_rfl) (by kernel_rfl) (fun _ _ _ h => h) (Or.inl ⟨by rfl, ?_⟩) (by assumption) ?_
          rotate_left
          · (intro w hSw; (try dsimp only at hSw); go_simp <;> try with_reducible rfl)
          try simp only [Act.put, List.setIfInBounds_toArray, List.set_cons_zero, List.set_cons_succ]
          refine wpAnyH_take (i := 3) (oi := { dst := some 44, op := Go.Op.load 24 (Go.Operand.tmp 43), type := 24, pos := "l02_days.go:260", after := #[{ on := 2, ground := Go.Ground.data }], guard := none }) (v := ?_) rfl (by kernel_rfl) (by kernel_rfl) (by kernel_rfl) (fun _ _ _ h => h) (Or.inl ⟨by rfl, ?_⟩) (by assumption) ?_
          rotate_left
          · (intro w hSw; (try dsimp only at hSw); go_simp <;> try with_reducible rfl)
          try simp only [Act.put, List.setIfInBounds_toArray, List.set_cons_zero, List.set_cons_succ]
          refine wpAnyH_take (i := 4) (oi := { dst := some 45, op := Go.Op.indexAddr 24 (Go.Operand.tmp 44) (Go.Operand.const (Go.Value.int Go.IntKind.i64 0)), type := 0, pos := "l02_days.go:260", after := #[{ on := 3, ground := Go.Ground.data }], guard := none }) (v := ?_) rfl (by kernel_rfl) (by kernel_rfl) (by kernel_rfl) (fun _ _ _ h => h) (Or.inl ⟨by rfl, ?_⟩) (by assumption) ?_
          rotate_left
          · (intro w hSw; (try dsimp only at hSw); go_simp <;> try with_reducible rfl)
          try simp only [Act.put, List.setIfInBounds_toArray, List.set_cons_zero, List.set_cons_succ]
          refine wpAnyH_take (i := 5) (oi := { dst := some 46, op := Go.Op.load 3 (Go.Operand.tmp 45), type := 3, pos := "l02_days.go:260", after := #[{ on := 4, ground := Go.Ground.data }], guard := none }) (v := ?_) rfl (by kernel_rfl) (by kernel_rfl) (by kernel_rfl) (fun _ _ _ h => h) (Or.inl ⟨by rfl, ?_⟩) (by assumption) ?_
          rotate_left
          · (intro w hSw; (try dsimp only at hSw); go_simp <;> try with_reducible rfl)
          try simp only [Act.put, List.setIfInBounds_toArray, List.set_cons_zero, List.set_cons_succ]
          refine wpAnyH_take (i := 6) (oi := { dst := some 47, op := Go.Op.move (Go.Operand.tmp 0), type := 48, pos := "l02_days.go:260", after := #[], guard := none }) (v := ?_) rfl (by kernel_rfl) (by kernel_rfl) (by kernel_rfl) (fun _ _ _ h => h) (Or.inl ⟨by rfl, ?_⟩) (by assumption) ?_
          rotate_left
          · (intro w hSw; (try dsimp only at hSw); go_simp <;> try with_reducible rfl)
          try simp only [Act.put, List.setIfInBounds_toArray, List.set_cons_zero, List.set_cons_succ]
          refine wpAnyH_ready (rs := [7]) (by kernel_rfl) (by simp) ?_
          refine AllReadyH.cons (o := { dst := some 48, op := Go.Op.call { callee := Go.Callee.value (Go.Operand.func 35), args := #[Go.Operand.tmp 47, Go.Operand.const (Go.Value.int Go.IntKind.i64 2)], argTypes := #[48, 3] }, type := 3, pos := "l02_days.go:260", after := #[{ on := 6, ground := Go.Ground.data }], guard := none }) rfl (fun K hK => ?_) AllReadyH.nil
          go_simp
          refine (below_any b _ _ (HK.out.drewK.cur)).mono ?_
          rintro e w8 ⟨y8, rfl, y80, y81, _, m8⟩
          have HK8 := HK.out.drewK.moved m8
          have c1 : w8.cell? ⟨X, 1, none⟩ = some (.slice (some ⟨g, 0, none⟩) n cap) := (HK8.box.cell 1).trans rfl
          have c0 : w8.cell? ⟨g, 0, none⟩ = some (.int .i64 z0) := by rw [m8.2.cell (w := _) hglt (by have := HK8.far; have := HK8.low; omega)]; exact u2
          obtain ⟨⟨z1, c11⟩, fz1, _, _⟩ := HK8.cellN (o := 1) (by omega)
          clear m8 y81
          first | refine hK.out _ _ (by exact ⟨c1, c0⟩) (fun hHeld => ?_) | (go_wp2_with fail; refine hK.out _ _ (by exact ⟨c1, c0⟩) (fun hHeld => ?_))
          clear hK K
          try simp only [Act.put, List.setIfInBounds_toArray, List.set_cons_zero, List.set_cons_succ]
          refine wpAnyH_take (i := 8) (oi := { dst := some 49, op := Go.Op.binOp Go.BinOp.sub 3 (Go.Operand.tmp 46) (Go.Operand.tmp 48) 3, type := 3, pos := "l02_days.go:260", after := #[{ on := 5, ground := Go.Ground.data }, { on := 7, ground := Go.Ground.data }], guard := none }) (v := ?_) rfl (by kernel_rfl) (by kernel_rfl) (by kernel_rfl) (fun _ _ _ h => h) (Or.inl ⟨by rfl, ?_⟩) (by assumption) ?_
          rotate_left
          · (intro w hSw; (try dsimp only at hSw); go_simp <;> try with_reducible rfl)
          try simp only [Act.put, List.setIfInBounds_toArray, List.set_cons_zero, List.set_cons_succ]
          refine wpAnyH_take (i := 9) (oi := { dst := some 50, op := Go.Op.indexAddr 24 (Go.Operand.tmp 42) (Go.Operand.const (Go.Value.int Go.IntKind.i64 1)), type := 0, pos := "l02_days.go:260", after := #[{ on := 1, ground := Go.Ground.data }, { on := 0, ground := Go.Ground.phase }, { on := 1, ground := Go.Ground.phase }, { on := 2, ground := Go.Ground.phase }, { on := 3, ground := Go.Ground.phase }, { on := 4, ground := Go.Ground.phase }, { on := 5, ground := Go.Ground.phase }, { on := 6, ground := Go.Ground.phase }, { on := 7, ground := Go.Ground.phase }, { on := 8, ground := Go.Ground.phase }], guard := none }) (v := ?_) rfl (by kernel_rfl) (by kernel_rfl) (by kernel_rfl) (fun _ _ _ h => h) (Or.inl ⟨by rfl, ?_⟩) (by assumption) ?_
          rotate_left
          · (intro w hSw; (try dsimp only at hSw); go_simp <;> try with_reducible rfl)
          try simp only [Act.put, List.setIfInBounds_toArray, List.set_cons_zero, List.set_cons_succ]
          refine wpAnyH_ready (rs := [10]) (by kernel_rfl) (by simp) ?_
          refine AllReadyH.cons (o := { dst := none, op := Go.Op.store 3 (Go.Operand.tmp 50) (Go.Operand.tmp 49), type := 0, pos := "l02_days.go:260", after := #[{ on := 9, ground := Go.Ground.data }, { on := 8, ground := Go.Ground.data }, { on := 7, ground := Go.Ground.chain }, { on := 0, ground := Go.Ground.phase }, { on := 1, ground := Go.Ground.phase }, { on := 2, ground := Go.Ground.phase }, { on := 3, ground := Go.Ground.phase }, { on := 4, ground := Go.Ground.phase }, { on := 5, ground := Go.Ground.phase }, { on := 6, ground := Go.Ground.phase }, { on := 7, ground := Go.Ground.phase }, { on := 8, ground := Go.Ground.phase }], guard := none }) rfl (fun K hK => ?_) AllReadyH.nil
          go_simp
          have HK9 := HK8.setRow 1 (IntKind.i64.wrap (z0 - y8))
          first | refine hK.out _ _ (by exact ⟨(HK9.box.cell 1).trans rfl, by rw [World.cell?_setCell_other _ _ _ _ (by simp)]; exact c0⟩) (fun hHeld => ?_) | (go_wp2_with fail; refine hK.out _ _ (by exact ⟨(HK9.box.cell 1).trans rfl, by rw [World.cell?_setCell_other _ _ _ _ (by simp)]; exact c0⟩) (fun hHeld => ?_))
          clear hK K
          try simp only [Act.put, List.setIfInBounds_toArray, List.set_cons_zero, List.set_cons_succ]
          refine wpAnyH_done (by kernel_rfl) ?_ _
          replace HK : Hid (Kp w b X _ (.slice (some ⟨g, 0, none⟩) n cap) n _) := HK9
          clear HK8 c1 c0 c11 fz1 HK9 hHeld
          revert HK
          generalize w8.setCell ⟨g, 1, none⟩ (.int .i64 (IntKind.i64.wrap (z0 - y8))) = wg
          intro HK
          have x0 := HK.out.box.cell 0
          have x1 := HK.out.box.cell 1
          have p0 := HK.out.z.cell 0
          have p1 := HK.out.z.cell 1
          have f0 := HK.out.z.fr 0
          have f1 := HK.out.z.fr 1
          simp at x0 x1 p0 p1
          go_wp2
          obtain ⟨W9, hW9, C4, M4, ad, cp, z, hv, ir, hk⟩ := HK.out.fin
          rw [← hW9]
          have e0 := C4.cell 0
          have e1 := C4.cell 1
          simp at e0 e1
          clear x0 x1 p0 p1 f0 f1 hW9 C4
          refine bodyPost_ret (by simp [results, Try.results31, go_sem, e0, e1]; try rfl) rfl ?_
          exact dzp (by omega) hv ir M4 hk
          obtain ⟨W9, hW9, C4, M4, ad, cp, z, hv, ir, hk⟩ := HK.out.fin
          rw [← hW9]
          have e0 := C4.cell 0
          have e1 := C4.cell 1
          simp at e0 e1
          clear x0 x1 p0 p1 f0 f1 hW9 C4
          refine bodyPost_ret (by simp [results, Try.results31, go_sem, e0, e1]; try rfl) rfl ?_
          exact dzp (by omega) hv ir M4 hk
          obtain ⟨⟨z0, u2⟩, _, _, hglt⟩ := HK.out.cellN (o := 0) (by omega)
          have u1 := x1
          clear x0 x1 p0 p1 f0 f1
          refine wp_region_held_drew (S := fun w' => w'.cell? ⟨X, 1, none⟩ = some (.slice (some ⟨g, 0, none⟩) n cap) ∧ w'.cell? ⟨g, 0, none⟩ = some (.int .i64 z0)) (by kernel_rfl) (by exact ⟨u1, u2⟩) (fun hHeld => ?_)
          refine wpAnyH_take (i := 0) (oi := { dst := some 41, op := Go.Op.fieldAddr 26 (Go.Operand.tmp 3) 1, type := 0, pos := "l02_days.go:260", after := #[], guard := none }) (v := ?_) rfl (by kernel_rfl) (by kernel_rfl) (by kernel_rfl) (fun _ _ _ h => h) (Or.inl ⟨by rfl, ?_⟩) (by assumption) ?_
          rotate_left
          · (intro w hSw; (try dsimp only at hSw); go_simp <;> try with_reducible rfl)
          try simp only [Act.put, List.setIfInBounds_toArray, List.set_cons_zero, List.set_cons_succ]
          refine wpAnyH_take (i := 1) (oi := { dst := some 42, op := Go.Op.load 24 (Go.Operand.tmp 41), type := 24, pos := "l02_days.go:260", after := #[{ on := 0, ground := Go.Ground.data }], guard := none }) (v := ?_) rfl (by kernel_rfl) (by kernel_rfl) (by kernel_rfl) (fun _ _ _ h => h) (Or.inl ⟨by rfl, ?_⟩) (by assumption) ?_
          rotate_left
          · (intro w hSw; (try dsimp only at hSw); go_simp <;> try with_reducible rfl)
          try simp only [Act.put, List.setIfInBounds_toArray, List.set_cons_zero, List.set_cons_succ]
          refine wpAnyH_take (i := 2) (oi := { dst := some 43, op := Go.Op.fieldAddr 26 (Go.Operand.tmp 3) 1, type := 0, pos := "l02_days.go:260", after := #[], guard := none }) (v := ?_) rfl (by kernel_rfl) (by kernel_rfl) (by kernel_rfl) (fun _ _ _ h => h) (Or.inl ⟨by rfl, ?_⟩) (by assumption) ?_
          rotate_left
          · (intro w hSw; (try dsimp only at hSw); go_simp <;> try with_reducible rfl)
          try simp only [Act.put, List.setIfInBounds_toArray, List.set_cons_zero, List.set_cons_succ]
          refine wpAnyH_take (i := 3) (oi := { dst := some 44, op := Go.Op.load 24 (Go.Operand.tmp 43), type := 24, pos := "l02_days.go:260", after := #[{ on := 2, ground := Go.Ground.data }], guard := none }) (v := ?_) rfl (by kernel_rfl) (by kernel_rfl) (by kernel_rfl) (fun _ _ _ h => h) (Or.inl ⟨by rfl, ?_⟩) (by assumption) ?_
          rotate_left
          · (intro w hSw; (try dsimp only at hSw); go_simp <;> try with_reducible rfl)
          try simp only [Act.put, List.setIfInBounds_toArray, List.set_cons_zero, List.set_cons_succ]
          refine wpAnyH_take (i := 4) (oi := { dst := some 45, op := Go.Op.indexAddr 24 (Go.Operand.tmp 44) (Go.Operand.const (Go.Value.int Go.IntKind.i64 0)), type := 0, pos := "l02_days.go:260", after := #[{ on := 3, ground := Go.Ground.data }], guard := none }) (v := ?_) rfl (by kernel_rfl) (by kernel_rfl) (by kernel_rfl) (fun _ _ _ h => h) (Or.inl ⟨by rfl, ?_⟩) (by assumption) ?_
          rotate_left
          · (intro w hSw; (try dsimp only at hSw); go_simp <;> try with_reducible rfl)
          try simp only [Act.put, List.setIfInBounds_toArray, List.set_cons_zero, List.set_cons_succ]
          refine wpAnyH_take (i := 5) (oi := { dst := some 46, op := Go.Op.load 3 (Go.Operand.tmp 45), type := 3, pos := "l02_days.go:260", after := #[{ on := 4, ground := Go.Ground.data }], guard := none }) (v := ?_) rfl (by kernel_rfl) (by kernel_rfl) (by kernel_rfl) (fun _ _ _ h => h) (Or.inl ⟨by rfl, ?_⟩) (by assumption) ?_
          rotate_left
          · (intro w hSw; (try dsimp only at hSw); go_simp <;> try with_reducible rfl)
          try simp only [Act.put, List.setIfInBounds_toArray, List.set_cons_zero, List.set_cons_succ]
          refine wpAnyH_take (i := 6) (oi := { dst := some 47, op := Go.Op.move (Go.Operand.tmp 0), type := 48, pos := "l02_days.go:260", after := #[], guard := none }) (v := ?_) rfl (by kernel_rfl) (by kernel_rfl) (by kernel_rfl) (fun _ _ _ h => h) (Or.inl ⟨by rfl, ?_⟩) (by assumption) ?_
          rotate_left
          · (intro w hSw; (try dsimp only at hSw); go_simp <;> try with_reducible rfl)
          try simp only [Act.put, List.setIfInBounds_toArray, List.set_cons_zero, List.set_cons_succ]
          refine wpAnyH_ready (rs := [7]) (by kernel_rfl) (by simp) ?_
          refine AllReadyH.cons (o := { dst := some 48, op := Go.Op.call { callee := Go.Callee.value (Go.Operand.func 35), args := #[Go.Operand.tmp 47, Go.Operand.const (Go.Value.int Go.IntKind.i64 2)], argTypes := #[48, 3] }, type := 3, pos := "l02_days.go:260", after := #[{ on := 6, ground := Go.Ground.data }], guard := none }) rfl (fun K hK => ?_) AllReadyH.nil
          go_simp
          refine (below_any b _ _ (HK.out.drewK.cur)).mono ?_
          rintro e w8 ⟨y8, rfl, y80, y81, _, m8⟩
          have HK8 := HK.out.drewK.moved m8
          have c1 : w8.cell? ⟨X, 1, none⟩ = some (.slice (some ⟨g, 0, none⟩) n cap) := (HK8.box.cell 1).trans rfl
          have c0 : w8.cell? ⟨g, 0, none⟩ = some (.int .i64 z0) := by rw [m8.2.cell (w := _) hglt (by have := HK8.far; have := HK8.low; omega)]; exact u2
          obtain ⟨⟨z1, c11⟩, fz1, _, _⟩ := HK8.cellN (o := 1) (by omega)
          clear m8 y81
          first | refine hK.out _ _ (by exact ⟨c1, c0⟩) (fun hHeld => ?_) | (go_wp2_with fail; refine hK.out _ _ (by exact ⟨c1, c0⟩) (fun hHeld => ?_))
          clear hK K
          try simp only [Act.put, List.setIfInBounds_toArray, List.set_cons_zero, List.set_cons_succ]
          refine wpAnyH_take (i := 8) (oi := { dst := some 49, op := Go.Op.binOp Go.BinOp.sub 3 (Go.Operand.tmp 46) (Go.Operand.tmp 48) 3, type := 3, pos := "l02_days.go:260", after := #[{ on := 5, ground := Go.Ground.data }, { on := 7, ground := Go.Ground.data }], guard := none }) (v := ?_) rfl (by kernel_rfl) (by kernel_rfl) (by kernel_rfl) (fun _ _ _ h => h) (Or.inl ⟨by rfl, ?_⟩) (by assumption) ?_
          rotate_left
          · (intro w hSw; (try dsimp only at hSw); go_simp <;> try with_reducible rfl)
          try simp only [Act.put, List.setIfInBounds_toArray, List.set_cons_zero, List.set_cons_succ]
          refine wpAnyH_take (i := 9) (oi := { dst := some 50, op := Go.Op.indexAddr 24 (Go.Operand.tmp 42) (Go.Operand.const (Go.Value.int Go.IntKind.i64 1)), type := 0, pos := "l02_days.go:260", after := #[{ on := 1, ground := Go.Ground.data }, { on := 0, ground := Go.Ground.phase }, { on := 1, ground := Go.Ground.phase }, { on := 2, ground := Go.Ground.phase }, { on := 3, ground := Go.Ground.phase }, { on := 4, ground := Go.Ground.phase }, { on := 5, ground := Go.Ground.phase }, { on := 6, ground := Go.Ground.phase }, { on := 7, ground := Go.Ground.phase }, { on := 8, ground := Go.Ground.phase }], guard := none }) (v := ?_) rfl (by kernel_rfl) (by kernel_rfl) (by kernel_rfl) (fun _ _ _ h => h) (Or.inl ⟨by rfl, ?_⟩) (by assumption) ?_
          rotate_left
          · (intro w hSw; (try dsimp only at hSw); go_simp <;> try with_reducible rfl)
          try simp only [Act.put, List.setIfInBounds_toArray, List.set_cons_zero, List.set_cons_succ]
          refine wpAnyH_ready (rs := [10]) (by kernel_rfl) (by simp) ?_
          refine AllReadyH.cons (o := { dst := none, op := Go.Op.store 3 (Go.Operand.tmp 50) (Go.Operand.tmp 49), type := 0, pos := "l02_days.go:260", after := #[{ on := 9, ground := Go.Ground.data }, { on := 8, ground := Go.Ground.data }, { on := 7, ground := Go.Ground.chain }, { on := 0, ground := Go.Ground.phase }, { on := 1, ground := Go.Ground.phase }, { on := 2, ground := Go.Ground.phase }, { on := 3, ground := Go.Ground.phase }, { on := 4, ground := Go.Ground.phase }, { on := 5, ground := Go.Ground.phase }, { on := 6, ground := Go.Ground.phase }, { on := 7, ground := Go.Ground.phase }, { on := 8, ground := Go.Ground.phase }], guard := none }) rfl (fun K hK => ?_) AllReadyH.nil
          go_simp
          have HK9 := HK8.setRow 1 (IntKind.i64.wrap (z0 - y8))
          first | refine hK.out _ _ (by exact ⟨(HK9.box.cell 1).trans rfl, by rw [World.cell?_setCell_other _ _ _ _ (by simp)]; exact c0⟩) (fun hHeld => ?_) | (go_wp2_with fail; refine hK.out _ _ (by exact ⟨(HK9.box.cell 1).trans rfl, by rw [World.cell?_setCell_other _ _ _ _ (by simp)]; exact c0⟩) (fun hHeld => ?_))
          clear hK K
          try simp only [Act.put, List.setIfInBounds_toArray, List.set_cons_zero, List.set_cons_succ]
          refine wpAnyH_done (by kernel_rfl) ?_ _
          replace HK : Hid (Kp w b X _ (.slice (some ⟨g, 0, none⟩) n cap) n _) := HK9
          clear HK8 c1 c0 c11 fz1 HK9 hHeld
          revert HK
          generalize w8.setCell ⟨g, 1, none⟩ (.int .i64 (IntKind.i64.wrap (z0 - y8))) = wg
          intro HK
          have x0 := HK.out.box.cell 0
          have x1 := HK.out.box.cell 1
          have p0 := HK.out.z.cell 0
          have p1 := HK.out.z.cell 1
          have f0 := HK.out.z.fr 0
          have f1 := HK.out.z.fr 1
          simp at x0 x1 p0 p1
          go_wp2
          obtain ⟨W9, hW9, C4, M4, ad, cp, z, hv, ir, hk⟩ := HK.out.fin
          rw [← hW9]
          have e0 := C4.cell 0
          have e1 := C4.cell 1
          simp at e0 e1
          clear x0 x1 p0 p1 f0 f1 hW9 C4
          refine bodyPost_ret (by simp [results, Try.results31, go_sem, e0, e1]; try rfl) rfl ?_
          exact dzp (by omega) hv ir M4 hk

end Go.Proofs.Ytadjdpoplaknkaa
