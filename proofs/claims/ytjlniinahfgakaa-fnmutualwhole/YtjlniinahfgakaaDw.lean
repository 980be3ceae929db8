/- Draws of factors, weights and of what Shares is asked; the laws' sum and distance from 0. -/
import Derived.Test.YtjlniinahfgakaaSs
import Derived.Test.YtjlniinahfgakaaAm
import Derived.Test.YtjlniinahfgakaaNw
import Derived.Test.YtjlniinahfgakaaBg
namespace Go.Proofs.Ytjlniinahfgakaa
open Go.ChangeShapes Go.WideShapes Go.ChangeAt Go.RowKit
set_option linter.unusedVariables false
set_option linter.unusedSimpArgs false

theorem Turns.grown {b : Nat} {a w w' : World} {row : Option Nat} (h : Turns b a w) (g : w.grownBy w' row) (hr : ∀ k, row = some k → a.heap.size ≤ k) : Turns b a w' :=
  ⟨g.os.trans h.os, g.tape.trans h.tape, g.output.trans h.output, Nat.le_trans h.size g.size, fun k hk hb => (g.block k (Nat.lt_of_lt_of_le hk h.size) (fun e => by have := hr k e.symm; omega)).trans (h.block k hk hb)⟩
theorem Cursor.grown {b : Nat} {w w' : World} {row : Option Nat} (h : Cursor w b) (g : w.grownBy w' row) (hr : ∀ k, row = some k → b < k) : Cursor w' b :=
  h.low g.size (fun k hk => g.block k (Nat.lt_of_le_of_lt hk h.lt) (fun e => by have := hr k e.symm; omega))
theorem IntRow.madeAt {w : World} {b n : Nat} (hb : b < w.heap.size) (hn : w.heap.size = n) (cs : Array Value) (t : TypeId) (zs : List Int) (hz : cs.toList = zs.map (Value.int .i64)) : IntRow (w.alloc (.cells cs t)) b (some ⟨n, 0, none⟩) zs := hn ▸ IntRow.made hb cs t zs hz

theorem upd_bd {z : Nat → Int} {m : Nat} {y lo hi : Int} (h : ∀ j, j < m → lo ≤ z j ∧ z j ≤ hi) (hy : lo ≤ y ∧ y ≤ hi) : ∀ j, j < m + 1 → lo ≤ upd z m y j ∧ upd z m y j ≤ hi := fun j hj => by
  by_cases e : j = m
  · rw [e, upd_eq]; exact hy
  · rw [upd_ne e]; exact h j (by omega)

theorem dr_on {w W : World} (h : ∃ q, W = w.drewN q) (n : Nat) : ∃ q, W.drewN n = w.drewN q := by obtain ⟨q, rfl⟩ := h; exact ⟨q + n, by simp⟩

/-- A row of numbers that is being drawn: the cursor lies below all of it. -/
structure DR (w : World) (b : Nat) (u : Value) (m : Nat) (z : Nat → Int) (W : World) : Prop where
  cur : Cursor W b
  trn : Turns b w W
  row : W.ownsRow w.heap.size 3 1 u m (intL z m)
  lo : b < w.heap.size
section
variable {w W W' : World} {b m : Nat} {u u' : Value} {z : Nat → Int}
theorem DR.moved (h : DR w b u m z W) (k : Moved b W W') : DR w b u m z W' :=
  ⟨k.1, h.trn.trans k.2, row_block h.row (fun g hg => k.2.block g (h.row.lt g hg).2 (by have := (h.row.lt g hg).1; have := h.lo; omega)), h.lo⟩
theorem DR.alloc (h : DR w b u m z W) (o : Obj) : DR w b u m z (W.alloc o) := ⟨h.cur.alloc o, h.trn.alloc o, row_below h.row ((Below.refl _ _).alloc (Nat.le_refl _) o), h.lo⟩
theorem intL_snoc (z : Nat → Int) (m : Nat) (q : Int) : intL (upd z m q) (m + 1) = intL z m ++ [.int .i64 q] := by
  rw [intL_succ, upd_eq, intL_congr (o := upd z m q) (o' := z) (fun j hj => upd_ne (by omega))]
theorem DR.grown (h : DR w b u m z W) {q : Int} (g : W.grownBy W' u.ownBlock) (hr : W'.ownsRow w.heap.size 3 1 u' (m + 1) (intL z m ++ [.int .i64 q])) : DR w b u' (m + 1) (upd z m q) W' :=
  ⟨h.cur.grown g (fun j hj => by have := (h.row.lt j hj).1; have := h.lo; omega), h.trn.grown g (fun j hj => (h.row.lt j hj).1), by rw [intL_snoc]; exact hr, h.lo⟩
theorem DR.ir {ad : Option Addr} {cap : Nat} (h : DR w b (.slice ad m cap) m z W) : IR W ad m z := row_IR h.row (fun j hj => intL_get hj)
end

set_option maxHeartbeats 1000000 in
theorem factor_any (b : Nat) (w : World) (hc : Cursor w b) :
    Calls Try.prog 71 #[.pointer (some ⟨b, 0, none⟩)] w fun e w' => ∃ x : Int, e = .returned (.int .i64 x) ∧ 0 ≤ x ∧ x ≤ 10000000 ∧ Moved b w w' := by
  have M : Hid (Moved b w w) := Moved.refl hc
  clear hc
  go_enter Try.func71, Try.ntmps71
  go_wp2_with (first
    | (go_at_call 39; refine (once_any b _ _ M.out.1).mono ?_; rintro e w1 ⟨x, rfl, m1⟩; replace M : Hid (Moved b w w1) := M.out.trans m1; cases x; clear m1)
    | (go_at_call 37; refine (below_any b _ _ M.out.1).mono ?_; rintro e w1 ⟨x, rfl, x0, x1, x2, m1⟩; have HX : Hid (0 ≤ x ∧ x ≤ 10000000) := ⟨x0, (by have := x1 (by omega); omega)⟩; replace M : Hid (Moved b w w1) := M.out.trans m1; clear m1 x1 x2)
    | (go_at_call 40; refine (pick_any b _ [0, 1, 10000000, 9999999, 2, 3] _ _ _ (M.out.alloc _).1 (IntRow.made M.out.1.lt _ _ _ rfl) rfl (by decide) (by decide)).mono ?_; rintro e w2 ⟨x, rfl, hy, m2⟩; have HX : Hid (0 ≤ x ∧ x ≤ 10000000) := (by simp at hy; show _ ∧ _; omega); replace M : Hid (Moved b w w2) := (M.out.alloc _).trans m2; clear m2 hy))
  all_goals
    go_returns
    exact ⟨_, rfl, HX.out.1, HX.out.2, M.out⟩

set_option maxRecDepth 20000 in
set_option maxHeartbeats 2000000 in
theorem weights_any (b : Nat) (n : Nat) (w : World) (hc : Cursor w b) (hn : n ≤ 1000) :
    Calls Try.prog 43 #[.pointer (some ⟨b, 0, none⟩), .int .i64 (n : Int)] w fun e w' => ∃ (ad : Option Addr) (cap : Nat) (z : Nat → Int), e = .returned (.slice ad n cap) ∧ DR w b (.slice ad n cap) n z w' ∧ ∀ j, j < n → -1 ≤ z j ∧ z j ≤ 10000001 := by
  have HD : Hid (DR w b (.slice (some ⟨w.heap.size, 0, none⟩) 0 0) 0 (fun _ => 0) (w.alloc (.cells #[] 3 (0, 0)))) := ⟨hc.alloc _, (Turns.refl _ _).alloc _, none_own w, hc.lt⟩
  obtain ⟨i0, hi, hz0, hz1, hz2⟩ := info3
  clear hc
  go_enter Try.func43, Try.ntmps43
  go_wp2
  go_loopw [1, 5] (fun x u wr => ∃ (m k : Nat) (ad : Option Addr) (cap : Nat) (z : Nat → Int), x = .int .i64 (k : Int) ∧ u = .slice ad m cap ∧ m + k = n ∧ Hid (DR w b (.slice ad m cap) m z wr ∧ ∀ j, j < m → -1 ≤ z j ∧ z j ≤ 10000001)) (fun x _ _ => (intOf x).toNat)
  case atStart => exact ⟨0, n, _, _, fun _ => 0, rfl, rfl, by omega, HD.out, fun j hj => by omega⟩
  case round =>
    clear HD
    obtain ⟨m, k, ad, cap, z, rfl, rfl, hmk, HW⟩ := hrel
    have Hmk : Hid (m + k = n) := hmk
    have hm : m ≤ 1000 := by omega
    have hk9 : (k : Int) ≤ 1000 := by omega
    clear hmk
    by_cases hk : 0 < k
    · have lk : (0 : Int) < (k : Int) := by omega
      go_wp2_with (first
        | (go_at_call 37; refine (below_any b _ _ HW.out.1.cur).mono ?_; rintro e w1 ⟨x, rfl, x0, x1, x2, m1⟩; have hx : x ≤ 19 := (by have := x1 (by omega); omega); have HW1 : Hid (DR w b (.slice ad m cap) m z w1 ∧ ∀ j, j < m → -1 ≤ z j ∧ z j ≤ 10000001) := ⟨HW.out.1.moved m1, HW.out.2⟩; clear m1 x1 x2 HW)
        | (go_at_call 39; refine (once_any b _ _ HW1.out.1.cur).mono ?_; rintro e w2 ⟨y, rfl, m2⟩; have HW2 : Hid (DR w b (.slice ad m cap) m z w2 ∧ ∀ j, j < m → -1 ≤ z j ∧ z j ≤ 10000001) := ⟨HW1.out.1.moved m2, HW1.out.2⟩; clear m2 HW1; cases y))
      · have hsz := HW2.out.1.trn.size
        go_wp2_with (first
        | (go_at_call 70; refine (spoil_any b _ _ [x, x, x, -1, 10000001] 5 5 _ (HW2.out.1.alloc _).cur (IntRow.made HW2.out.1.cur.lt _ _ _ rfl) rfl (by decide) (by decide)).mono ?_; rintro e w4 ⟨y, rfl, hy, m4⟩; have HW4 : Hid (DR w b (.slice ad m cap) m z w4 ∧ ∀ j, j < m → -1 ≤ z j ∧ z j ≤ 10000001) := ⟨(HW2.out.1.alloc _).moved m4, HW2.out.2⟩; have HY : Hid (-1 ≤ y ∧ y ≤ 10000001) := (by simp at hy; show _ ∧ _; omega); clear m4 hy)
        | (at_builtin; refine wpList_append_own_at _ rfl _ _ 24 rfl w.heap.size 3 i0 (.int .i64 0) 1 8 Try.underlying24 hi hz0 hz1 hz2 rfl (by decide) (.slice ad m cap) m (intL z m) rfl (HW4.out.1.alloc _).row ⟨w4.heap.size, 0, none⟩ 1 1 [.int .i64 y] rfl rfl (cell_one_at rfl) (fun u hu => by simp at hu; subst hu; rfl) (by unfold maxLen; omega) (by omega) (by have := HW4.out.1.trn.size; simp; omega) ?_; intro v' w9 hown9 hgrow9 _ hloc9; obtain ⟨ad9, cap9, rfl⟩ := row_form hown9; have HN9 : Hid (DR w b (.slice ad9 (m + 1) cap9) (m + 1) (upd z m y) w9 ∧ ∀ j, j < m + 1 → -1 ≤ upd z m y j ∧ upd z m y j ≤ 10000001) := ⟨(HW4.out.1.alloc _).grown hgrow9 hown9, upd_bd HW4.out.2 HY.out⟩; clear hown9 hgrow9 hloc9))
        go_roundw
        case rel => exact ⟨m + 1, k - 1, ad9, cap9, _, by congr 1; omega, rfl, by have := Hmk.out; omega, HN9⟩
        case measure => simp [intOf]; omega
      · go_wp2_with (first
        | (go_at_call 71; refine (factor_any b _ HW2.out.1.cur).mono ?_; rintro e w3 ⟨f, rfl, f0, f1, m3⟩; have HW3 : Hid (DR w b (.slice ad m cap) m z w3 ∧ ∀ j, j < m → -1 ≤ z j ∧ z j ≤ 10000001) := ⟨HW2.out.1.moved m3, HW2.out.2⟩; clear m3)
        | (go_at_call 70; refine (spoil_any b _ _ [f, f, f, -1, 10000001] 5 5 _ (HW3.out.1.alloc _).cur (IntRow.made HW3.out.1.cur.lt _ _ _ rfl) rfl (by decide) (by decide)).mono ?_; rintro e w4 ⟨y, rfl, hy, m4⟩; have HW4 : Hid (DR w b (.slice ad m cap) m z w4 ∧ ∀ j, j < m → -1 ≤ z j ∧ z j ≤ 10000001) := ⟨(HW3.out.1.alloc _).moved m4, HW3.out.2⟩; have HY : Hid (-1 ≤ y ∧ y ≤ 10000001) := (by simp at hy; show _ ∧ _; omega); clear m4 hy)
        | (at_builtin; refine wpList_append_own_at _ rfl _ _ 24 rfl w.heap.size 3 i0 (.int .i64 0) 1 8 Try.underlying24 hi hz0 hz1 hz2 rfl (by decide) (.slice ad m cap) m (intL z m) rfl (HW4.out.1.alloc _).row ⟨w4.heap.size, 0, none⟩ 1 1 [.int .i64 y] rfl rfl (cell_one_at rfl) (fun u hu => by simp at hu; subst hu; rfl) (by unfold maxLen; omega) (by omega) (by have := HW4.out.1.trn.size; simp; omega) ?_; intro v' w9 hown9 hgrow9 _ hloc9; obtain ⟨ad9, cap9, rfl⟩ := row_form hown9; have HN9 : Hid (DR w b (.slice ad9 (m + 1) cap9) (m + 1) (upd z m y) w9 ∧ ∀ j, j < m + 1 → -1 ≤ upd z m y j ∧ upd z m y j ≤ 10000001) := ⟨(HW4.out.1.alloc _).grown hgrow9 hown9, upd_bd HW4.out.2 HY.out⟩; clear hown9 hgrow9 hloc9))
        go_roundw
        case rel => exact ⟨m + 1, k - 1, ad9, cap9, _, by congr 1; omega, rfl, by have := Hmk.out; omega, HN9⟩
        case measure => simp [intOf]; omega
    · obtain rfl : k = 0 := by omega
      have em : m = n := by have := Hmk.out; omega
      subst em
      go_wp2
      go_returns
      exact ⟨_, _, z, rfl, HW.out.1, HW.out.2⟩

theorem size_any (ad : Option Addr) (len cap : Nat) (q : Int) (w : World) (hl : (len : Int) ≤ 1048576) (hq : 2 ≤ q) : Calls Try.prog 38 #[.slice ad len cap, .int .i64 q] w fun e w' => ∃ x : Int, e = .returned (.int .i64 x) ∧ 2 ≤ x ∧ x ≤ q ∧ w' = w := by
  by_cases h : q < 2 + (len : Int) / 20
  · go_enter Try.func38, Try.ntmps38
    go_wp2
    go_returns
    exact ⟨q, rfl, hq, Int.le_refl _, rfl⟩
  · go_enter Try.func38, Try.ntmps38
    go_wp2
    go_returns
    exact ⟨_, rfl, by omega, by omega, rfl⟩

/-- What a draw for Shares leaves. -/
def ShP (w : World) (e : Ending) (w' : World) : Prop :=
  ∃ (T : Int) (n : Nat) (ad : Option Addr) (cap : Nat) (z : Nat → Int), e = .returned (.tuple #[.int .i64 T, .slice ad n cap]) ∧ n ≤ 201 ∧ IR w' ad n z ∧ (∀ j, j < n → -1 ≤ z j ∧ z j ≤ 10000001) ∧ Below w.heap.size w w'

set_option maxRecDepth 20000 in
set_option maxHeartbeats 2000000 in
theorem drawShares_any (a0 : Option Addr) (len0 cap0 : Nat) (w : World) (hl : (len0 : Int) ≤ 1048576) (hr : ByteRow w w.heap.size a0 len0) :
    Calls Try.prog 11 #[.slice a0 len0 cap0] w (ShP w) := by
  have HN : Hid (Calls Try.prog 36 #[.slice a0 len0 cap0] w fun e w' => e = .returned (.pointer (some ⟨w.heap.size, 0, none⟩)) ∧ Cursor w' w.heap.size ∧ Below w.heap.size w w') := new_any a0 len0 cap0 w (by omega) hr
  obtain ⟨b, hb⟩ : ∃ b, w.heap.size = b := ⟨_, rfl⟩
  rw [hb] at HN
  have HBB : Hid (w.heap.size = b) := hb
  clear hr hb
  go_enter Try.func11, Try.ntmps11
  go_wp2_with (first
    | (go_at_call 36; refine HN.out.mono ?_; rintro e w1 ⟨rfl, c1, b1⟩; have M1 : Hid (Moved b w1 w1) := Moved.refl c1; have HB1 : Hid (Below w.heap.size w w1) := (HBB.out ▸ b1); clear c1 b1)
    | (go_at_call 38; refine (size_any _ _ _ _ _ hl (by omega)).mono ?_; rintro e wq ⟨s, rfl, s0, s1, ew⟩; replace ew := ew.symm; subst ew)
    | (go_at_call 37; refine (below_any b _ _ M1.out.1).mono ?_; rintro e w2 ⟨x, rfl, x0, x1, x2, m2⟩; have hx : x ≤ 31 := (by have := x1 (by omega); omega); have M2 : Hid (Moved b w1 w2) := M1.out.trans m2; clear m2 x1 x2)
    | (go_at_call 39; refine (once_any b _ _ M2.out.1).mono ?_; rintro e w3 ⟨y, rfl, m3⟩; have M3 : Hid (Moved b w1 w3) := M2.out.trans m3; clear m3; cases y))
  · obtain ⟨n, rfl⟩ : ∃ n : Nat, x = (n : Int) := ⟨x.toNat, by omega⟩
    go_wp2_with (first
      | (go_at_call 42; refine (amount_any b _ M3.out.1).mono ?_; rintro e w5 ⟨t, rfl, m5⟩; have M5 : Hid (Moved b w1 w5) := M3.out.trans m5; clear m5)
      | (go_at_call 41; refine (badMoney_any b _ _ M5.out.1).mono ?_; rintro e w6 ⟨T, rfl, m6⟩; have M6 : Hid (Moved b w1 w6) := M5.out.trans m6; clear m6)
      | (go_at_call 43; refine (weights_any b n _ M6.out.1 (by omega)).mono ?_; rintro e w7 ⟨ad, cap, z, rfl, d7, z7⟩; have HF : Hid (ShP w (.returned (.tuple #[.int .i64 T, .slice ad n cap])) w7) := ⟨T, n, ad, cap, z, rfl, (by omega), d7.ir, z7, (by have e := HBB.out; subst e; exact HB1.out.trans ((M6.out.2.trans d7.trn).below (Nat.le_refl _) HB1.out.size))⟩; clear d7 z7))
    go_returns
    exact HF.out
  · go_wp2_with (first
      | (go_at_call 40; refine (pick_any b _ [200, 201] _ _ _ (M3.out.alloc _).1 (IntRow.made M3.out.1.lt _ _ _ rfl) rfl (by decide) (by decide)).mono ?_; rintro e w4 ⟨y, rfl, hy, m4⟩; have M4 : Hid (Moved b w1 w4) := (M3.out.alloc _).trans m4; obtain ⟨n, rfl⟩ : ∃ n : Nat, y = (n : Int) := ⟨y.toNat, (by simp at hy; omega)⟩; have hn : n ≤ 201 := (by simp at hy; omega); clear m4 hy)
      | (go_at_call 42; refine (amount_any b _ M4.out.1).mono ?_; rintro e w5 ⟨t, rfl, m5⟩; have M5 : Hid (Moved b w1 w5) := M4.out.trans m5; clear m5)
      | (go_at_call 41; refine (badMoney_any b _ _ M5.out.1).mono ?_; rintro e w6 ⟨T, rfl, m6⟩; have M6 : Hid (Moved b w1 w6) := M5.out.trans m6; clear m6)
      | (go_at_call 43; refine (weights_any b n _ M6.out.1 (by omega)).mono ?_; rintro e w7 ⟨ad, cap, z, rfl, d7, z7⟩; have HF : Hid (ShP w (.returned (.tuple #[.int .i64 T, .slice ad n cap])) w7) := ⟨T, n, ad, cap, z, rfl, (by omega), d7.ir, z7, (by have e := HBB.out; subst e; exact HB1.out.trans ((M6.out.2.trans d7.trn).below (Nat.le_refl _) HB1.out.size))⟩; clear d7 z7))
    go_returns
    exact HF.out

def absI (x : Int) : Int := if 0 ≤ x then x else -x
theorem abs_eq {x y : Int} (w : World) (h1 : -9223372036854775000 ≤ x) (hy : absI x = y) : Calls Try.prog 15 #[.int .i64 x] w fun e w' => e = .returned (.int .i64 y) ∧ w' = w := by
  by_cases h : 0 ≤ x
  · have : y = x := by rw [← hy]; unfold absI; rw [if_pos h]
    subst this
    go_enter Try.func15, Try.ntmps15
    go_wp2
    go_returns
    exact ⟨rfl, rfl⟩
  · have : y = -x := by rw [← hy]; unfold absI; rw [if_neg h]
    subst this
    have h2 : x < 0 := by omega
    go_enter Try.func15, Try.ntmps15
    go_wp2
    go_returns
    exact ⟨rfl, rfl⟩

set_option maxRecDepth 20000 in
set_option maxHeartbeats 1000000 in
theorem lsum_any (ad : Option Addr) (N cap : Nat) (z : Nat → Int) (w : World) (h : (N : Int) ≤ 1048576) (hr : IR w ad N z) (hb : SmB z N) :
    Calls Try.prog 13 #[.slice ad N cap] w fun e w' => e = .returned (.int .i64 (sm z N)) ∧ w' = w := by
  have HR : Hid (IR w ad N z) := hr
  have HB : Hid (SmB z N) := hb
  clear hr hb
  go_enter Try.func13, Try.ntmps13
  go_wp2
  go_loop [3, 4] (fun u v => ∃ (k : Nat) (s : Int), k ≤ N ∧ v = .int .i64 (k : Int) ∧ u = .int .i64 s ∧ Hid (s = sm z k)) (fun u v => N - (intOf v).toNat)
  case atStart => exact ⟨0, 0, Nat.zero_le _, rfl, rfl, rfl⟩
  case round =>
    obtain ⟨k, s, hk, rfl, rfl, hs⟩ := hrel
    by_cases hlt : k < N
    · obtain ⟨kb, off, rfl, _⟩ := HR.out.addr (by omega)
      have c1 := HR.out.cell hlt
      have hlt2 : (k : Int) < (N : Int) := by omega
      obtain ⟨y, hy⟩ : ∃ y, z k = y := ⟨_, rfl⟩
      rw [hy] at c1
      have b1 := HB.out k (by omega)
      have b2 := HB.out (k + 1) (by omega)
      rw [sm_succ, hy, ← hs.out] at b2
      rw [← hs.out] at b1
      have HS : Hid (s + y = sm z (k + 1)) := by show _ = _; rw [sm_succ, hy, hs.out]
      clear hy hs
      obtain ⟨b3, b4⟩ := b1
      obtain ⟨b5, b6⟩ := b2
      go_wp2
      go_round
      case rel => exact ⟨k + 1, s + y, by omega, by go_num, by go_num, HS⟩
      case measure => simp [intOf]; omega
    · obtain rfl : k = N := by omega
      go_wp2
      go_returns
      exact ⟨ret_int hs.out, rfl⟩

set_option maxRecDepth 20000 in
theorem big_f (ad : Option Addr) (len cap : Nat) (w : World) (h : (len : Int) ≤ 1048576) :
    Calls Try.prog 10 #[.slice ad len cap] w fun e w' => e = .returned (.bool false) ∧ w' = w := by
  have hd : decide ((1048576 : Int) < (len : Int)) = false := decide_eq_false (by omega)
  go_enter Try.func10, Try.ntmps10
  go_wp2
  go_returns
  exact ⟨rfl, rfl⟩
end Go.Proofs.Ytjlniinahfgakaa
