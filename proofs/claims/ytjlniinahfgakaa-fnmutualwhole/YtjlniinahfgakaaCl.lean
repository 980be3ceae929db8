/- Rows of flags, copies of rows, and the program's tests of costs and places. -/
import Derived.Test.YtjlniinahfgakaaSs
namespace Go.Proofs.Ytjlniinahfgakaa
open Go.ChangeShapes Go.WideShapes Go.ChangeAt Go.RowKit
set_option linter.unusedVariables false
set_option linter.unusedSimpArgs false

/-- Block b holds n flags at least. -/
def FB (w : World) (b n : Nat) (g : Nat → Bool) : Prop := ∃ cs, CB w b cs 4 ∧ n ≤ cs.size ∧ ∀ j, j < n → cs[j]? = some (.bool (g j))
/-- Block b holds n whole numbers, and x cells behind them. -/
def NB (w : World) (b n x : Nat) (g : Nat → Int) : Prop := ∃ cs, CB w b cs 3 ∧ cs.size = n + x ∧ ∀ j, j < n → cs[j]? = some (.int .i64 (g j))
def updB (f : Nat → Bool) (i : Nat) (j : Nat) : Bool := if j = i then true else f j
theorem updB_eq (f : Nat → Bool) (i : Nat) : updB f i i = true := if_pos rfl
theorem updB_ne {f : Nat → Bool} {i j : Nat} (h : j ≠ i) : updB f i j = f j := if_neg h
section
variable {w w' : World} {b n x : Nat} {g g' : Nat → Bool} {o o' : Nat → Int}
theorem FB.lt (H : FB w b n g) : b < w.heap.size := by obtain ⟨cs, h, _⟩ := H; exact h.lt
theorem FB.cell (H : FB w b n g) {j : Nat} (h : j < n) : w.cell? ⟨b, j, none⟩ = some (.bool (g j)) := by obtain ⟨cs, h1, h2, h3⟩ := H; rw [h1.cell]; exact h3 j h
theorem FB.fr (H : FB w b n g) (j : Nat) : w.frozen? ⟨b, j, none⟩ = false := by obtain ⟨cs, h, _⟩ := H; exact h.fr j
theorem FB.below {B : Nat} (H : FB w b n g) (k : Below B w w') (h : b < B) : FB w' b n g := by obtain ⟨cs, h1, h2⟩ := H; exact ⟨cs, h1.below k h, h2⟩
theorem FB.on (H : FB w b n g) (k : Below w.heap.size w w') : FB w' b n g := H.below k H.lt
theorem FB.other (H : FB w b n g) {c i : Nat} (u : Value) (h : b ≠ c) : FB (w.setCell ⟨c, i, none⟩ u) b n g := by obtain ⟨cs, h1, h2⟩ := H; exact ⟨cs, h1.other u h, h2⟩
theorem FB.congr (H : FB w b n g) (h : ∀ j, j < n → g' j = g j) : FB w b n g' := by obtain ⟨cs, h1, h2, h3⟩ := H; exact ⟨cs, h1, h2, fun j hj => by rw [h j hj]; exact h3 j hj⟩
theorem FB.set (H : FB w b n g) {i : Nat} (hi : i < n) : FB (w.setCell ⟨b, i, none⟩ (.bool true)) b n (updB g i) := by
  obtain ⟨cs, h1, h2, h3⟩ := H
  refine ⟨_, h1.set _ _, by simpa using h2, fun j hj => ?_⟩
  by_cases e : j = i
  · subst e; rw [updB_eq, get_set_eq (by omega)]
  · rw [updB_ne e, get_set_ne (by omega)]; exact h3 j hj
theorem NB.lt (H : NB w b n x o) : b < w.heap.size := by obtain ⟨cs, h, _⟩ := H; exact h.lt
theorem NB.cell (H : NB w b n x o) {j : Nat} (h : j < n) : w.cell? ⟨b, j, none⟩ = some (.int .i64 (o j)) := by obtain ⟨cs, h1, h2, h3⟩ := H; rw [h1.cell]; exact h3 j h
theorem NB.fr (H : NB w b n x o) (j : Nat) : w.frozen? ⟨b, j, none⟩ = false := by obtain ⟨cs, h, _⟩ := H; exact h.fr j
theorem NB.below {B : Nat} (H : NB w b n x o) (k : Below B w w') (h : b < B) : NB w' b n x o := by obtain ⟨cs, h1, h2⟩ := H; exact ⟨cs, h1.below k h, h2⟩
theorem NB.on (H : NB w b n x o) (k : Below w.heap.size w w') : NB w' b n x o := H.below k H.lt
theorem NB.other (H : NB w b n x o) {c i : Nat} (u : Value) (h : b ≠ c) : NB (w.setCell ⟨c, i, none⟩ u) b n x o := by obtain ⟨cs, h1, h2⟩ := H; exact ⟨cs, h1.other u h, h2⟩
theorem NB.congr (H : NB w b n x o) (h : ∀ j, j < n → o' j = o j) : NB w b n x o' := by obtain ⟨cs, h1, h2, h3⟩ := H; exact ⟨cs, h1, h2, fun j hj => by rw [h j hj]; exact h3 j hj⟩
theorem NB.set (H : NB w b n x o) {i : Nat} (hi : i < n) (y : Int) : NB (w.setCell ⟨b, i, none⟩ (.int .i64 y)) b n x (upd o i y) := by
  obtain ⟨cs, h1, h2, h3⟩ := H
  refine ⟨_, h1.set _ _, by simpa using h2, fun j hj => ?_⟩
  by_cases e : j = i
  · subst e; rw [upd_eq, get_set_eq (by omega)]
  · rw [upd_ne e, get_set_ne (by omega)]; exact h3 j hj
theorem NB.ir (H : NB w b n x o) : IR w (some ⟨b, 0, none⟩) n o := by obtain ⟨cs, h1, h2, h3⟩ := H; exact IR.of_block h1 n o h3
theorem NB.ne (H : NB w b n x o) {c m : Nat} (G : FB w c m g) : b ≠ c := by
  intro e; subst e
  obtain ⟨cs, h1, _⟩ := H
  obtain ⟨ds, h2, _⟩ := G
  unfold CB at h1 h2
  rw [h1] at h2
  simp at h2
end
/-- An owned row as a block: what it holds, and that it is owned whatever it holds. -/
theorem row_NB {w : World} {base m : Nat} {v : Value} {o : Nat → Int} (h : w.ownsRow base 3 1 v m (intL o m)) (hm : 0 < m) : ∃ g cap x, v = .slice (some ⟨g, 0, none⟩) m cap ∧ base ≤ g ∧ NB w g m x o ∧ ∀ (w' : World) (o' : Nat → Int), NB w' g m x o' → w'.ownsRow base 3 1 v m (intL o' m) := by
  rcases h.2 with ⟨rfl, rfl⟩ | ⟨g, cap, cur, rfl, hb', hgg, h1, h2, h3, h4⟩
  · omega
  · refine ⟨g, cap, cur.size - m, rfl, hb', ⟨cur, hgg, by omega, fun j hj => ?_⟩, fun w' o' H => ?_⟩
    · rw [← intL_get (o := o) hj, ← h4, Nat.mul_one, List.getElem?_take, if_pos hj]; simp
    · obtain ⟨cs, hC, hs, hv⟩ := H
      refine ⟨by rw [intL_len]; omega, .inr ⟨g, cap, cs, rfl, hb', hC, h1, h2, by omega, ?_⟩⟩
      apply List.ext_getElem?
      intro j
      rw [Nat.mul_one, List.getElem?_take]
      by_cases hj : j < m
      · rw [if_pos hj, intL_get hj, ← hv j hj]; simp
      · rw [if_neg hj, List.getElem?_eq_none (by rw [intL_len]; omega)]

set_option maxRecDepth 100000 in
theorem info4 : ∃ i, Try.prog.info? 4 = some i ∧ i.zero = some (.bool false) ∧ i.size = 1 ∧ i.bytes = 1 := by
  obtain ⟨i0, hi⟩ : ∃ i, Try.prog.info? 4 = some i := ⟨_, rfl⟩
  have hz0 : i0.zero = some (.bool false) := by
    have : (Try.prog.info? 4).bind (·.zero) = some (.bool false) := by kernel_rfl
    rw [hi] at this; exact this
  have hz1 : i0.size = 1 := by
    have : (Try.prog.info? 4).map (·.size) = some 1 := by kernel_rfl
    rw [hi] at this; simpa using this
  have hz2 : i0.bytes = 1 := by
    have : (Try.prog.info? 4).map (·.bytes) = some 1 := by kernel_rfl
    rw [hi] at this; simpa using this
  exact ⟨i0, hi, hz0, hz1, hz2⟩

def bolL (g : Nat → Bool) (m : Nat) : List Value := (List.range m).map (fun j => .bool (g j))
theorem bolL_get {g : Nat → Bool} {m j : Nat} (h : j < m) : (bolL g m)[j]? = some (.bool (g j)) := by simp [bolL, h]
theorem bolL_len (g : Nat → Bool) (m : Nat) : (bolL g m).length = m := by simp [bolL]
theorem row_FB {w : World} {base m : Nat} {v : Value} {g : Nat → Bool} (h : w.ownsRow base 4 1 v m (bolL g m)) (hm : 0 < m) : ∃ b cap, v = .slice (some ⟨b, 0, none⟩) m cap ∧ base ≤ b ∧ FB w b m g := by
  rcases h.2 with ⟨rfl, rfl⟩ | ⟨b, cap, cur, rfl, hb', hgg, h1, h2, h3, h4⟩
  · omega
  · refine ⟨b, cap, rfl, hb', cur, hgg, by omega, fun j hj => ?_⟩
    rw [← bolL_get (g := g) hj, ← h4, Nat.mul_one, List.getElem?_take, if_pos hj]; simp

theorem cells_B {w : World} {b n : Nat} {g : Nat → Bool} (H : FB w b n g) (j : Nat) (u : Value) (hj : (bolL g n)[j]? = some u) : w.cell? ((⟨b, 0, none⟩ : Addr).add j) = some u := by
  have hjn : j < n := by
    rcases Nat.lt_or_ge j n with q | q
    · exact q
    · rw [List.getElem?_eq_none (by rw [bolL_len]; exact q)] at hj; cases hj
  rw [bolL_get hjn] at hj
  cases hj
  have h := H.cell hjn
  have e : ((⟨b, 0, none⟩ : Addr).add j) = ⟨b, j, none⟩ := by cases j <;> simp [Addr.add]
  rw [e]; exact h
theorem cells_I {w : World} {b off n : Nat} {o : Nat → Int} (H : IR w (some ⟨b, off, none⟩) n o) (j : Nat) (u : Value) (hj : (intL o n)[j]? = some u) : w.cell? ((⟨b, off, none⟩ : Addr).add j) = some u := by
  have hjn : j < n := by
    rcases Nat.lt_or_ge j n with q | q
    · exact q
    · rw [List.getElem?_eq_none (by rw [intL_len]; exact q)] at hj; cases hj
  rw [intL_get hjn] at hj
  cases hj
  have h := H.cell hjn
  have e : ((⟨b, off, none⟩ : Addr).add j) = ⟨b, off + j, none⟩ := by cases j <;> simp [Addr.add]
  rw [e]; exact h
theorem one_B (g : Nat → Bool) (n : Nat) : ∀ u ∈ bolL g n, u.oneCell' = true := fun u hu => by simp only [bolL, List.mem_map] at hu; obtain ⟨q, _, rfl⟩ := hu; rfl
theorem one_I (o : Nat → Int) (n : Nat) : ∀ u ∈ intL o n, u.oneCell' = true := fun u hu => by simp only [intL, List.mem_map] at hu; obtain ⟨q, _, rfl⟩ := hu; rfl
theorem below_app {w w3 : World} {o : Obj} (hgrow : (w.alloc o).grownBy w3 (Value.ownBlock (.slice (some ⟨w.heap.size, 0, none⟩) 0 0))) : Below w.heap.size w w3 := Below.grown ((Below.refl _ _).alloc (Nat.le_refl _) _) hgrow (by simp) (fun k hk => by simp [Value.ownBlock] at hk; omega)
theorem made_B (w : World) : (w.alloc (.cells #[] 4 (0, 0))).ownsRow w.heap.size 4 1 (.slice (some ⟨w.heap.size, 0, none⟩) 0 0) 0 [] := World.ownsRow_made w #[] 0 (Nat.le_refl _) (Nat.zero_le _) rfl

set_option maxRecDepth 20000 in
set_option maxHeartbeats 1000000 in
theorem cloneB_any (b n cap : Nat) (g : Nat → Bool) (w : World) (hn : 0 < n) (hn2 : n ≤ 1000) (H : FB w b n g) :
    Calls Try.prog 77 #[.slice (some ⟨b, 0, none⟩) n cap] w fun e w' => ∃ c cp, e = .returned (.slice (some ⟨c, 0, none⟩) n cp) ∧ w.heap.size ≤ c ∧ FB w' c n g ∧ Below w.heap.size w w' := by
  have HF : Hid (FB (w.alloc (.cells #[] 4 (0, 0))) b n g) := H.on ((Below.refl _ _).alloc (Nat.le_refl _) _)
  obtain ⟨i0, hi, hz0, hz1, hz2⟩ := info4
  clear H
  have he : ∀ w : World, (binOp .eql 77 (.slice (some ⟨b, 0, none⟩) n cap) (.slice none 0 0)).run Try.prog w = .ok (.bool false) w := fun _ => rfl
  go_enter Try.func77, Try.ntmps77
  go_wp2_with (first
    | (at_builtin; go_loud (refine wpList_append_own_at _ rfl _ _ 77 rfl w.heap.size 4 i0 (.bool false) 1 1 Try.underlying77 hi hz0 hz1 hz2 rfl (by decide) (.slice (some ⟨w.heap.size, 0, none⟩) 0 0) 0 [] rfl (made_B w) ⟨b, 0, none⟩ n cap (bolL g n) rfl (by rw [bolL_len]; omega) (cells_B HF.out) (one_B g n) (by unfold maxLen; omega) (by omega) (by simp) ?_; intro v' w3 hown hgrow _ _; rw [Nat.zero_add, List.nil_append] at hown; obtain ⟨c, cp, rfl, hc1, hc2⟩ := row_FB hown hn; have HW : Hid (w.heap.size ≤ c ∧ FB w3 c n g ∧ Below w.heap.size w w3) := ⟨hc1, hc2, below_app hgrow⟩; clear hown hgrow hc1 hc2; try simp only [Nat.zero_add])))
  go_returns
  exact ⟨c, cp, rfl, HW.out.1, HW.out.2.1, HW.out.2.2⟩

set_option maxRecDepth 20000 in
set_option maxHeartbeats 1000000 in
theorem cloneI_any (ad : Option Addr) (n cap : Nat) (o : Nat → Int) (w : World) (hn : 0 < n) (hn2 : n ≤ 1000) (H : IR w ad n o) :
    Calls Try.prog 56 #[.slice ad n cap] w fun e w' => ∃ ad' cp, e = .returned (.slice ad' n cp) ∧ w'.ownsRow w.heap.size 3 1 (.slice ad' n cp) n (intL o n) ∧ Below w.heap.size w w' := by
  obtain ⟨b, off, rfl, _⟩ := H.addr hn
  have HF : Hid (IR (w.alloc (.cells #[] 3 (0, 0))) (some ⟨b, off, none⟩) n o) := H.alloc _
  obtain ⟨i0, hi, hz0, hz1, hz2⟩ := info3
  clear H
  have he : ∀ w : World, (binOp .eql 24 (.slice (some ⟨b, off, none⟩) n cap) (.slice none 0 0)).run Try.prog w = .ok (.bool false) w := fun _ => rfl
  go_enter Try.func56, Try.ntmps56
  go_wp2_with (first
    | (at_builtin; go_loud (refine wpList_append_own_at _ rfl _ _ 24 rfl w.heap.size 3 i0 (.int .i64 0) 1 8 Try.underlying24 hi hz0 hz1 hz2 rfl (by decide) (.slice (some ⟨w.heap.size, 0, none⟩) 0 0) 0 [] rfl (none_own w) ⟨b, off, none⟩ n cap (intL o n) rfl (by rw [intL_len]; omega) (cells_I HF.out) (one_I o n) (by unfold maxLen; omega) (by omega) (by simp) ?_; intro v' w3 hown hgrow _ _; rw [Nat.zero_add, List.nil_append] at hown; obtain ⟨ad', cp, rfl⟩ := row_form hown; have HW : Hid (w3.ownsRow w.heap.size 3 1 (.slice ad' n cp) n (intL o n) ∧ Below w.heap.size w w3) := ⟨hown, below_app hgrow⟩; clear hown hgrow; try simp only [Nat.zero_add])))
  go_returns
  exact ⟨ad', cp, rfl, HW.out.1, HW.out.2⟩

def AmtP (x : Int) : Prop := -100000000000 ≤ x ∧ x ≤ 100000000000
/-- Costs. -/
def CostP (n : Nat) (c : Nat → Int) : Prop := (1 ≤ n ∧ n ≤ 200) ∧ ∀ j, j < n → AmtP (c j)
open Classical in
noncomputable def costB (n : Nat) (c : Nat → Int) : Bool := decide (CostP n c)
open Classical in
theorem costB_t {n : Nat} {c : Nat → Int} (h : CostP n c) : costB n c = true := decide_eq_true h
open Classical in
theorem costB_f {n : Nat} {c : Nat → Int} (h : ¬ CostP n c) : costB n c = false := decide_eq_false h

set_option maxRecDepth 20000 in
set_option maxHeartbeats 1000000 in
theorem areCosts_any (ad : Option Addr) (N cap : Nat) (z : Nat → Int) (w : World) (h : (N : Int) ≤ 1048576) (hr : IR w ad N z) :
    Calls Try.prog 55 #[.slice ad N cap] w fun e w' => e = .returned (.bool (costB N z)) ∧ w' = w := by
  have HR : Hid (IR w ad N z) := hr
  clear hr
  by_cases hn : 1 ≤ N ∧ N ≤ 200
  case neg =>
    have HF : Hid (costB N z = false) := costB_f (fun q => hn q.1)
    rcases (show N = 0 ∨ 200 < N by omega) with q | q
    · subst q
      go_enter Try.func55, Try.ntmps55
      go_wp2
      go_returns
      exact ⟨ret_bool HF.out.symm, rfl⟩
    · have l1 : (N : Int) > 200 := by omega
      have l2 : ¬ (N : Int) < 1 := by omega
      go_enter Try.func55, Try.ntmps55
      go_wp2
      go_returns
      exact ⟨ret_bool HF.out.symm, rfl⟩
  have l1 : ¬ (N : Int) > 200 := by omega
  have l2 : ¬ (N : Int) < 1 := by omega
  go_enter Try.func55, Try.ntmps55
  go_wp2
  go_loop [15] (fun v => ∃ (k : Nat), k ≤ N ∧ v = .int .i64 (k : Int) ∧ Hid (∀ j, j < k → AmtP (z j))) (fun v => N - (intOf v).toNat)
  case atStart => exact ⟨0, Nat.zero_le _, rfl, fun j hj => by omega⟩
  case round =>
    obtain ⟨k, hk, rfl, hs⟩ := hrel
    by_cases hlt : k < N
    · obtain ⟨kb, off, rfl, _⟩ := HR.out.addr (by omega)
      have c1 := HR.out.cell hlt
      have hlt2 : (k : Int) < (N : Int) := by omega
      obtain ⟨y, hy⟩ : ∃ y, z k = y := ⟨_, rfl⟩
      rw [hy] at c1
      have HY : Hid (z k = y) := hy
      clear hy
      by_cases hf : AmtP y
      · have hb := inB_t hf.1 hf.2
        have HS : Hid (∀ j, j < k + 1 → AmtP (z j)) := fun j hj => by
          by_cases e : j = k
          · rw [e, HY.out]; exact hf
          · exact hs.out j (by omega)
        clear hf
        go_wp2_with (go_at_call 47; refine (isAmount_eq _ hb).mono ?_; rintro e w' ⟨rfl, ew⟩; replace ew := ew.symm; subst ew)
        go_round
        case rel => exact ⟨k + 1, by omega, by go_num, HS⟩
        case measure => simp [intOf]; omega
      · have hb := inB_f hf
        have HF : Hid (costB N z = false) := costB_f (fun q => hf (HY.out ▸ q.2 k hlt))
        clear hf
        go_wp2_with (go_at_call 47; refine (isAmount_eq _ hb).mono ?_; rintro e w' ⟨rfl, ew⟩; replace ew := ew.symm; subst ew)
        go_returns
        exact ⟨ret_bool HF.out.symm, rfl⟩
    · obtain rfl : k = N := by omega
      have HF : Hid (costB k z = true) := costB_t ⟨hn, hs.out⟩
      go_wp2
      go_returns
      exact ⟨ret_bool HF.out.symm, rfl⟩

set_option maxRecDepth 20000 in
set_option maxHeartbeats 1000000 in
theorem l7Costs_any (ad : Option Addr) (N cap : Nat) (z : Nat → Int) (w : World) (h : (N : Int) ≤ 1048576) (hr : IR w ad N z) :
    Calls Try.prog 59 #[.slice ad N cap] w fun e w' => e = .returned (.bool (costB N z)) ∧ w' = w := by
  have HR : Hid (IR w ad N z) := hr
  clear hr
  go_enter Try.func59, Try.ntmps59
  go_wp2
  go_loop [3] (fun v => ∃ (k : Nat), k ≤ N ∧ v = .int .i64 (k : Int) ∧ Hid (∀ j, j < k → AmtP (z j))) (fun v => N - (intOf v).toNat)
  case atStart => exact ⟨0, Nat.zero_le _, rfl, fun j hj => by omega⟩
  case round =>
    obtain ⟨k, hk, rfl, hs⟩ := hrel
    by_cases hlt : k < N
    · obtain ⟨kb, off, rfl, _⟩ := HR.out.addr (by omega)
      have c1 := HR.out.cell hlt
      have hlt2 : (k : Int) < (N : Int) := by omega
      obtain ⟨y, hy⟩ : ∃ y, z k = y := ⟨_, rfl⟩
      rw [hy] at c1
      have HY : Hid (z k = y) := hy
      clear hy
      by_cases hf : AmtP y
      · have hb := inB_t hf.1 hf.2
        have HS : Hid (∀ j, j < k + 1 → AmtP (z j)) := fun j hj => by
          by_cases e : j = k
          · rw [e, HY.out]; exact hf
          · exact hs.out j (by omega)
        clear hf
        go_wp2_with (go_at_call 44; refine (l1Amount_eq _ hb).mono ?_; rintro e w' ⟨rfl, ew⟩; replace ew := ew.symm; subst ew)
        go_round
        case rel => exact ⟨k + 1, by omega, by go_num, HS⟩
        case measure => simp [intOf]; omega
      · have hb := inB_f hf
        have HF : Hid (costB N z = false) := costB_f (fun q => hf (HY.out ▸ q.2 k hlt))
        clear hf
        go_wp2_with (go_at_call 44; refine (l1Amount_eq _ hb).mono ?_; rintro e w' ⟨rfl, ew⟩; replace ew := ew.symm; subst ew)
        go_returns
        exact ⟨ret_bool HF.out.symm, rfl⟩
    · obtain rfl : k = N := by omega
      have HF : Hid (costB k z = inB (k : Int) 1 200) := by
        show _ = _
        by_cases q : 1 ≤ k ∧ k ≤ 200
        · rw [costB_t ⟨q, hs.out⟩, inB_t (by omega) (by omega)]
        · rw [costB_f (fun r => q r.1), inB_f (by omega)]
      have lkk : ¬ (k : Int) < (k : Int) := by omega
      go_wp2_with (go_at_call 60; refine (l1In_any _ _ _ _).mono ?_; rintro e w' ⟨rfl, ew⟩; replace ew := ew.symm; subst ew)
      go_returns
      exact ⟨ret_bool HF.out.symm, rfl⟩

theorem isPlaceOf_eq {x : Int} {n : Nat} {v : Bool} (w : World) (h : decide (0 ≤ x ∧ x < (n : Int)) = v) : Calls Try.prog 76 #[.int .i64 x, .int .i64 (n : Int)] w fun e w' => e = .returned (.bool v) ∧ w' = w := by
  subst h
  go_enter Try.func76, Try.ntmps76
  go_wp2
  all_goals go_returns
  all_goals exact ⟨ret_bool (by rw [Bool.eq_iff_iff]; simp; try omega), rfl⟩
end Go.Proofs.Ytjlniinahfgakaa
