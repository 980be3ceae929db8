/- The number that a job is ranked by: its rule's; jobs compared by their numbers. -/
import Derived.Test.YtogolmbgboihdaaFe
import Derived.WalkLawsBesides
import Derived.Outline
import Derived.Laws.MakeOwn
import Derived.BigQuiet
import Derived.Deep.RegionHeld3
import Derived.Deep.RegionHeldLaw
import Derived.Deep.QuietTactic
import Derived.Deep.RegionWith
import Derived.Deep.DeepFit
namespace Go.Proofs.Ytogolmbgboihdaa
open Go Go.ChangeShapes Go.WideShapes Go.ChangeAt Go.RowKit
set_option linter.unusedVariables false
set_option linter.unusedSimpArgs false

theorem isNaN_any (x : Int) (w : World) : Calls Try.prog 109 #[.int .i64 x] w fun e w' => e = .returned (.bool false) ∧ w' = w := by
  go_enter Try.func109, Try.ntmps109
  go_wp2
  all_goals go_returns
  all_goals exact ⟨ret_bool (by simp), rfl⟩

/-- What cmp.Compare tells. -/
def cm (a b : Int) : Int := if a < b then -1 else if b < a then 1 else 0
theorem cm_l {a b : Int} (h : a < b) : cm a b = -1 := if_pos h
theorem cm_g {a b : Int} (h : b < a) : cm a b = 1 := by unfold cm; rw [if_neg (by omega), if_pos h]
theorem cm_e (a : Int) : cm a a = 0 := by unfold cm; rw [if_neg (by omega), if_neg (by omega)]

theorem compare_any (a b : Int) (w : World) : Calls Try.prog 92 #[.int .i64 a, .int .i64 b] w fun e w' => e = .returned (.int .i64 (cm a b)) ∧ w' = w := by
  by_cases h1 : a < b
  · rw [cm_l h1]
    go_enter Try.func92, Try.ntmps92
    go_wp2_with (go_at_call 109; refine (isNaN_any _ _).mono ?_; rintro e w1 ⟨rfl, rfl⟩)
    all_goals go_returns
    all_goals exact ⟨rfl, rfl⟩
  · by_cases h2 : b < a
    · rw [cm_g h2]
      go_enter Try.func92, Try.ntmps92
      go_wp2_with (go_at_call 109; refine (isNaN_any _ _).mono ?_; rintro e w1 ⟨rfl, rfl⟩)
      all_goals go_returns
      all_goals exact ⟨rfl, rfl⟩
    · obtain rfl : a = b := by omega
      rw [cm_e]
      go_enter Try.func92, Try.ntmps92
      go_wp2_with (go_at_call 109; refine (isNaN_any _ _).mono ?_; rintro e w1 ⟨rfl, rfl⟩)
      all_goals go_returns
      all_goals exact ⟨rfl, rfl⟩


/-- The hours of the first k tasks. -/
def hrS (z : Nat → TK3) : Nat → Int
  | 0 => 0
  | k + 1 => hrS z k + (z k).hrs
theorem hrS_bd {z : Nat → TK3} : ∀ {k : Nat}, (∀ j, j < k → tkB (z j) = true) → 0 ≤ hrS z k ∧ hrS z k ≤ 500 * (k : Int)
  | 0, _ => ⟨Int.le_refl 0, Int.le_refl 0⟩
  | k + 1, h => by
    have h1 := hrS_bd (k := k) fun j hj => h j (by omega)
    have h2 := tkB_p (h k (by omega))
    unfold hrS
    omega
/-- What a rule goes by. -/
def keyV (j : JB) (r : Int) : Int := if r = 2 then hrS j.rz j.rn else if r = 3 then -j.wgt else if r = 4 then j.due - hrS j.rz j.rn else j.due

set_option maxRecDepth 20000 in
set_option maxHeartbeats 4000000 in
theorem hours_eq (r : JB) (ra : Option Addr) (rc : Nat) (v : Int) (w : World) (hb : jbB r = true) (hR : TKr w ra r.rn r.rz) (h : hrS r.rz r.rn = v) : Calls Try.prog 110 #[r.val ra rc] w fun e w' => e = .returned (.int .i64 v) ∧ Below w.heap.size w w' := by
  subst h
  have HR : Hid (TKr w ra r.rn r.rz) := hR
  have HT : Hid (∀ j, j < r.rn → tkB (r.rz j) = true) := (jbB_p hb).2.2
  have hn8 : (r.rn : Int) ≤ 8 := by have := (jbB_p hb).2.1; omega
  have HBL : Hid (Below w.heap.size w (w.alloc (.cells #[.int .i64 r.rdy, .int .i64 r.due, .int .i64 r.wgt, .slice ra r.rn rc] 34 (0, 0)))) := (Below.refl _ _).alloc (Nat.le_refl _) _
  clear hR hb
  obtain ⟨x0, x1, x2, n, z⟩ := r
  unfold JB.val
  simp only at HR HT hn8 HBL
  go_enter Try.func110, Try.ntmps110
  go_wp2
  go_loopw [3, 9] (fun l i wr => ∃ (k : Nat) (L : Int), k ≤ n ∧ i = .int .i64 (k : Int) ∧ l = .int .i64 L ∧ 0 ≤ L ∧ L ≤ 500 * (k : Int) ∧ Hid (hrS z k = L ∧ Below w.heap.size w wr)) (fun _ i _ => n - (intOf i).toNat)
  case atStart => exact ⟨0, 0, Nat.zero_le _, rfl, rfl, by omega, by omega, rfl, HBL.out⟩
  case round =>
    obtain ⟨k, L, hk, rfl, rfl, hL0, hL1, HH⟩ := hrel
    by_cases hlt : k < n
    · have hlt2 : (k : Int) < (n : Int) := by omega
      obtain ⟨kb, off, rfl, _⟩ := HR.out.addr (by omega)
      obtain ⟨c0, c1, c2⟩ := (HR.out.below HH.out.2).cell hlt
      have ht := tkB_p (HT.out k hlt)
      generalize hz : z k = t at *
      have HZ : Hid (z k = t) := hz
      obtain ⟨y0, y1, y2⟩ := t
      simp only at c0 c1 c2 ht
      have HS : Hid (hrS z (k + 1) = L + y1) := hid (by show hrS z k + (z k).hrs = _; rw [HH.out.1, HZ.out])
      have HB : Hid (Below w.heap.size w (wr.alloc (.cells #[.int .i64 y0, .int .i64 y1, .int .i64 y2] 38 (0, 0)))) := bel_on HH.out.2 ((Below.refl _ _).alloc (Nat.le_refl _) _)
      clear hz
      go_wp2
      go_roundw
      case rel => exact ⟨k + 1, L + y1, by omega, by go_num, by go_num, by omega, by omega, HS.out, HB.out⟩
      case measure => simp [intOf]; omega
    · obtain rfl : k = n := by omega
      have lkk : ¬ (k : Int) < (k : Int) := by omega
      go_wp2
      go_returns
      exact ⟨ret_i HH.out.1.symm, HH.out.2⟩
set_option maxRecDepth 20000 in
set_option maxHeartbeats 4000000 in
theorem number_any (aj : Option Addr) (n jk : Nat) (d : Nat → JB) (r : Int) (i : Nat) (v : Int) (w : World) (hn : (n : Int) ≤ 40) (hi : i < n) (hb : ∀ j, j < n → jbB (d j) = true) (hJ : JBr w aj n d) (hr : 1 ≤ r ∧ r ≤ 4) (hv : keyV (d i) r = v) :
    Calls Try.prog 93 #[.agg #[.slice aj n jk, .int .i64 r], .int .i64 (i : Int)] w fun e w' => e = .returned (.int .i64 v) ∧ Below w.heap.size w w' := by
  subst hv
  have hi2 : (i : Int) < (n : Int) := by omega
  obtain ⟨kb, off, rfl, hkb⟩ := hJ.addr (by omega)
  obtain ⟨ra, rc, _, c0, c1, c2, c3, hT⟩ := hJ.cell hi
  have HT : Hid (TKr w ra (d i).rn (d i).rz) := hT
  have hj := jbB_p (hb i hi)
  have HJB : Hid (jbB (d i) = true) := hb i hi
  have hh := hrS_bd hj.2.2
  have hh8 := hj.2.1
  have hj1 := hj.1
  clear hJ hT hb hj
  obtain ⟨H, hH⟩ : ∃ H, hrS (d i).rz (d i).rn = H := ⟨_, rfl⟩
  have HH : Hid (hrS (d i).rz (d i).rn = H) := hH
  rw [hH] at hh
  have HK : Hid (keyV (d i) r = if r = 2 then H else if r = 3 then -(d i).wgt else if r = 4 then (d i).due - H else (d i).due) := hid (by unfold keyV; rw [hH])
  clear hH
  have HCA : ∀ W, Below w.heap.size w W → Calls Try.prog 110 #[.agg #[.int .i64 (d i).rdy, .int .i64 (d i).due, .int .i64 (d i).wgt, .slice ra (d i).rn rc]] W fun e w' => e = .returned (.int .i64 H) ∧ Below W.heap.size W w' := fun W b => hours_eq (d i) ra rc H W HJB.out (HT.out.below b) HH.out
  have HCH := hid HCA
  clear HCA
  generalize (d i).rdy = y0 at *
  generalize (d i).due = y1 at *
  generalize (d i).wgt = y2 at *
  generalize (d i).rn = y3 at *
  have HB1 : Hid (Below w.heap.size w ((w.alloc (.cells #[.slice (some ⟨kb, off, none⟩) n jk, .int .i64 r] 97 (0, 0))).alloc (.cells #[.int .i64 y0, .int .i64 y1, .int .i64 y2, .slice ra y3 rc] 34 (0, 0)))) := ((Below.refl _ _).alloc (Nat.le_refl _) _).alloc (by simp) _
  have HC2 : Hid (CB ((w.alloc (.cells #[.slice (some ⟨kb, off, none⟩) n jk, .int .i64 r] 97 (0, 0))).alloc (.cells #[.int .i64 y0, .int .i64 y1, .int .i64 y2, .slice ra y3 rc] 34 (0, 0))) (w.heap.size + 1) #[.int .i64 y0, .int .i64 y1, .int .i64 y2, .slice ra y3 rc] 34) := CB.newAt (by simp) _ _
  have hr4 : r = 1 ∨ r = 2 ∨ r = 3 ∨ r = 4 := by omega
  rcases hr4 with rfl | rfl | rfl | rfl
  · have HV : Hid (y1 = keyV (d i) 1) := hid (by rw [HK.out]; rfl)
    go_enter Try.func93, Try.ntmps93
    go_wp2
    go_returns
    exact ⟨ret_i HV.out, HB1.out⟩
  · have HV : Hid (H = keyV (d i) 2) := hid (by rw [HK.out]; rfl)
    go_enter Try.func93, Try.ntmps93
    go_wp2_with (go_at_call 110; refine (HCH.out _ HB1.out).mono ?_; rintro e w1 ⟨rfl, b1⟩; have HB2 : Hid (Below w.heap.size w w1) := bel_on HB1.out b1; clear b1)
    go_returns
    exact ⟨ret_i HV.out, HB2.out⟩
  · have HV : Hid (-y2 = keyV (d i) 3) := hid (by rw [HK.out]; rfl)
    go_enter Try.func93, Try.ntmps93
    go_wp2
    go_returns
    exact ⟨ret_i HV.out, HB1.out⟩
  · have HV : Hid (y1 - H = keyV (d i) 4) := hid (by rw [HK.out]; rfl)
    have hwr : IntKind.i64.wrap (y1 - H) = y1 - H := IntWalk.i64_in _ ⟨by omega, by omega⟩
    go_enter Try.func93, Try.ntmps93
    go_wp2
    have kd0 : ((w.alloc (.cells #[.slice (some ⟨kb, off, none⟩) n jk, .int .i64 4] 97 (0, 0))).alloc (.cells #[.int .i64 y0, .int .i64 y1, .int .i64 y2, .slice ra y3 rc] 34 (0, 0))).drew.cell? ⟨w.heap.size + 1, 0, none⟩ = some (.int .i64 y0) := (HC2.out.cell 0).trans rfl
    have kd1 : ((w.alloc (.cells #[.slice (some ⟨kb, off, none⟩) n jk, .int .i64 4] 97 (0, 0))).alloc (.cells #[.int .i64 y0, .int .i64 y1, .int .i64 y2, .slice ra y3 rc] 34 (0, 0))).drew.cell? ⟨w.heap.size + 1, 1, none⟩ = some (.int .i64 y1) := (HC2.out.cell 1).trans rfl
    have kd2 : ((w.alloc (.cells #[.slice (some ⟨kb, off, none⟩) n jk, .int .i64 4] 97 (0, 0))).alloc (.cells #[.int .i64 y0, .int .i64 y1, .int .i64 y2, .slice ra y3 rc] 34 (0, 0))).drew.cell? ⟨w.heap.size + 1, 2, none⟩ = some (.int .i64 y2) := (HC2.out.cell 2).trans rfl
    have kd3 : ((w.alloc (.cells #[.slice (some ⟨kb, off, none⟩) n jk, .int .i64 4] 97 (0, 0))).alloc (.cells #[.int .i64 y0, .int .i64 y1, .int .i64 y2, .slice ra y3 rc] 34 (0, 0))).drew.cell? ⟨w.heap.size + 1, 3, none⟩ = some (.slice ra y3 rc) := (HC2.out.cell 3).trans rfl
    have hbd : Below w.heap.size w ((w.alloc (.cells #[.slice (some ⟨kb, off, none⟩) n jk, .int .i64 4] 97 (0, 0))).alloc (.cells #[.int .i64 y0, .int .i64 y1, .int .i64 y2, .slice ra y3 rc] 34 (0, 0))).drew := HB1.out.drew
    go_region_held3 (fun w' => w'.cell? ⟨w.heap.size + 1, 0, none⟩ = some (.int .i64 y0) ∧ w'.cell? ⟨w.heap.size + 1, 1, none⟩ = some (.int .i64 y1) ∧ w'.cell? ⟨w.heap.size + 1, 2, none⟩ = some (.int .i64 y2) ∧ w'.cell? ⟨w.heap.size + 1, 3, none⟩ = some (.slice ra y3 rc) ∧ Below w.heap.size w w')
      (refine ⟨?_, ?_, ?_, ?_, ?_⟩ <;> first | assumption | (simp [*]; done))
      (first
      | (go_at_call 110; refine (HCH.out _ (by assumption)).mono ?_; rintro e w2 ⟨rfl, b2⟩; have qa0 : w2.cell? ⟨w.heap.size + 1, 0, none⟩ = some (.int .i64 y0) := keep_cell b2 (by simp [*]); have qa1 : w2.cell? ⟨w.heap.size + 1, 1, none⟩ = some (.int .i64 y1) := keep_cell b2 (by simp [*]); have qa2 : w2.cell? ⟨w.heap.size + 1, 2, none⟩ = some (.int .i64 y2) := keep_cell b2 (by simp [*]); have qa3 : w2.cell? ⟨w.heap.size + 1, 3, none⟩ = some (.slice ra y3 rc) := keep_cell b2 (by simp [*]); have qb2 : Below w.heap.size w w2 := bel_on (by assumption) b2))
    go_wp2
    go_returns
    exact ⟨ret_i (by first | exact HV.out | (rw [hwr]; exact HV.out)), by assumption⟩

set_option maxRecDepth 20000 in
set_option maxHeartbeats 4000000 in
theorem rcompare_any (aj : Option Addr) (n jk : Nat) (d : Nat → JB) (r : Int) (i j : Nat) (V : Int) (w : World) (hn : (n : Int) ≤ 40) (hi : i < n) (hj : j < n) (hb : ∀ j, j < n → jbB (d j) = true) (hJ : JBr w aj n d) (hr : 1 ≤ r ∧ r ≤ 4) (hv : cm (keyV (d i) r) (keyV (d j) r) = V) :
    Calls Try.prog 64 #[.agg #[.slice aj n jk, .int .i64 r], .int .i64 (i : Int), .int .i64 (j : Int)] w fun e w' => e = .returned (.int .i64 V) ∧ Below w.heap.size w w' := by
  subst hv
  have HNi : Hid (∀ W, Below w.heap.size w W → Calls Try.prog 93 #[.agg #[.slice aj n jk, .int .i64 r], .int .i64 (i : Int)] W fun e w' => e = .returned (.int .i64 (keyV (d i) r)) ∧ Below W.heap.size W w') := fun W b => number_any aj n jk d r i _ W hn hi hb (hJ.below b) hr rfl
  have HNj : Hid (∀ W, Below w.heap.size w W → Calls Try.prog 93 #[.agg #[.slice aj n jk, .int .i64 r], .int .i64 (j : Int)] W fun e w' => e = .returned (.int .i64 (keyV (d j) r)) ∧ Below W.heap.size W w') := fun W b => number_any aj n jk d r j _ W hn hj hb (hJ.below b) hr rfl
  generalize keyV (d i) r = p at HNi ⊢
  generalize keyV (d j) r = q at HNj ⊢
  have HB1 : Hid (Below w.heap.size w (w.alloc (.cells #[.slice aj n jk, .int .i64 r] 97 (0, 0)))) := (Below.refl _ _).alloc (Nat.le_refl _) _
  have HC1 : Hid (CB (w.alloc (.cells #[.slice aj n jk, .int .i64 r] 97 (0, 0))) w.heap.size #[.slice aj n jk, .int .i64 r] 97) := CB.new _ _
  clear hJ hb hn hi hj hr
  go_enter Try.func64, Try.ntmps64
  go_wp2
  have Q0 : Hid (((w.alloc (.cells #[.slice aj n jk, .int .i64 r] 97 (0, 0))).drew.cell? ⟨w.heap.size, 0, none⟩ = some (.slice aj n jk) ∧ (w.alloc (.cells #[.slice aj n jk, .int .i64 r] 97 (0, 0))).drew.cell? ⟨w.heap.size, 1, none⟩ = some (.int .i64 r)) ∧ Below w.heap.size w (w.alloc (.cells #[.slice aj n jk, .int .i64 r] 97 (0, 0))).drew) := hid ⟨⟨(HC1.out.cell 0).trans rfl, (HC1.out.cell 1).trans rfl⟩, HB1.out.drew⟩
  refine wp_region_noPanic ?_
  refine wp_region_held_drew (S := fun w' => w'.cell? ⟨w.heap.size, 0, none⟩ = some (.slice aj n jk) ∧ w'.cell? ⟨w.heap.size, 1, none⟩ = some (.int .i64 r)) (by kernel_rfl) (by exact Q0.out.1) (fun hHeld => ?_)
  generalize hVD : (w.alloc (.cells #[.slice aj n jk, .int .i64 r] 97 (0, 0))).drew = VD at Q0 hHeld ⊢
  clear hVD HC1 HB1
  refine wpAnyH_take (i := 0) (oi := { dst := some 7, op := Go.Op.load 97 (Go.Operand.tmp 3), type := 97, pos := "l19_load.go:226", after := #[], guard := none }) (v := ?_) rfl (by kernel_rfl) (by kernel_rfl) (by kernel_rfl) (fun _ _ _ h => h) (Or.inl ⟨by rfl, ?_⟩) (by assumption) ?_
  rotate_left
  · (intro w hSw; (try dsimp only at hSw); go_simp <;> try with_reducible rfl)
  try simp only [Act.put, List.setIfInBounds_toArray, List.set_cons_zero, List.set_cons_succ]
  refine wpAnyH_take (i := 1) (oi := { dst := some 8, op := Go.Op.move (Go.Operand.tmp 1), type := 3, pos := "l19_load.go:226", after := #[], guard := none }) (v := ?_) rfl (by kernel_rfl) (by kernel_rfl) (by kernel_rfl) (fun _ _ _ h => h) (Or.inl ⟨by rfl, ?_⟩) (by assumption) ?_
  rotate_left
  · (intro w hSw; (try dsimp only at hSw); go_simp <;> try with_reducible rfl)
  try simp only [Act.put, List.setIfInBounds_toArray, List.set_cons_zero, List.set_cons_succ]
  refine wpAnyH_take (i := 3) (oi := { dst := some 10, op := Go.Op.load 97 (Go.Operand.tmp 3), type := 97, pos := "l19_load.go:226", after := #[], guard := none }) (v := ?_) rfl (by kernel_rfl) (by kernel_rfl) (by kernel_rfl) (fun _ _ _ h => h) (Or.inl ⟨by rfl, ?_⟩) (by assumption) ?_
  rotate_left
  · (intro w hSw; (try dsimp only at hSw); go_simp <;> try with_reducible rfl)
  try simp only [Act.put, List.setIfInBounds_toArray, List.set_cons_zero, List.set_cons_succ]
  refine wpAnyH_take (i := 4) (oi := { dst := some 11, op := Go.Op.move (Go.Operand.tmp 2), type := 3, pos := "l19_load.go:226", after := #[], guard := none }) (v := ?_) rfl (by kernel_rfl) (by kernel_rfl) (by kernel_rfl) (fun _ _ _ h => h) (Or.inl ⟨by rfl, ?_⟩) (by assumption) ?_
  rotate_left
  · (intro w hSw; (try dsimp only at hSw); go_simp <;> try with_reducible rfl)
  try simp only [Act.put, List.setIfInBounds_toArray, List.set_cons_zero, List.set_cons_succ]
  refine wpAnyH_ready (rs := [2]) (by kernel_rfl) (by simp) ?_
  refine AllReadyH.cons (o := { dst := some 9, op := Go.Op.call { callee := Go.Callee.value (Go.Operand.func 93), args := #[Go.Operand.tmp 7, Go.Operand.tmp 8], argTypes := #[97, 3] }, type := 3, pos := "l19_load.go:226", after := #[{ on := 0, ground := Go.Ground.data }, { on := 1, ground := Go.Ground.data }], guard := none }) rfl (fun K hK => ?_) (AllReadyH.nil)
  go_simp
  refine (HNi.out _ Q0.out.2).mono ?_
  rintro e w2 ⟨rfl, b2⟩
  have Q2 : Hid ((w2.cell? ⟨w.heap.size, 0, none⟩ = some (.slice aj n jk) ∧ w2.cell? ⟨w.heap.size, 1, none⟩ = some (.int .i64 r)) ∧ Below w.heap.size w w2) := hid ⟨⟨keep_cell b2 Q0.out.1.1, keep_cell b2 Q0.out.1.2⟩, bel_on Q0.out.2 b2⟩
  clear b2
  first | refine hK.out _ _ (by exact Q2.out.1) (fun hHeld => ?_) | (go_wp2_with fail; refine hK.out _ _ (by exact Q2.out.1) (fun hHeld => ?_))
  clear hK K
  try simp only [Act.put, List.setIfInBounds_toArray, List.set_cons_zero, List.set_cons_succ]
  refine wpAnyH_ready (rs := [5]) (by kernel_rfl) (by simp) ?_
  refine AllReadyH.cons (o := { dst := some 12, op := Go.Op.call { callee := Go.Callee.value (Go.Operand.func 93), args := #[Go.Operand.tmp 10, Go.Operand.tmp 11], argTypes := #[97, 3] }, type := 3, pos := "l19_load.go:226", after := #[{ on := 3, ground := Go.Ground.data }, { on := 4, ground := Go.Ground.data }, { on := 2, ground := Go.Ground.chain }], guard := none }) rfl (fun K hK => ?_) (AllReadyH.nil)
  go_simp
  refine (HNj.out _ Q2.out.2).mono ?_
  rintro e w3 ⟨rfl, b3⟩
  have Q3 : Hid ((w3.cell? ⟨w.heap.size, 0, none⟩ = some (.slice aj n jk) ∧ w3.cell? ⟨w.heap.size, 1, none⟩ = some (.int .i64 r)) ∧ Below w.heap.size w w3) := hid ⟨⟨keep_cell b3 Q2.out.1.1, keep_cell b3 Q2.out.1.2⟩, bel_on Q2.out.2 b3⟩
  clear b3
  first | refine hK.out _ _ (by exact Q3.out.1) (fun hHeld => ?_) | (go_wp2_with fail; refine hK.out _ _ (by exact Q3.out.1) (fun hHeld => ?_))
  clear hK K
  try simp only [Act.put, List.setIfInBounds_toArray, List.set_cons_zero, List.set_cons_succ]
  refine wpAnyH_ready (rs := [6]) (by kernel_rfl) (by simp) ?_
  refine AllReadyH.cons (o := { dst := some 13, op := Go.Op.call { callee := Go.Callee.value (Go.Operand.func 92), args := #[Go.Operand.tmp 9, Go.Operand.tmp 12], argTypes := #[3, 3] }, type := 3, pos := "l19_load.go:226", after := #[{ on := 2, ground := Go.Ground.data }, { on := 5, ground := Go.Ground.data }, { on := 5, ground := Go.Ground.chain }], guard := none }) rfl (fun K hK => ?_) (AllReadyH.nil)
  go_simp
  refine (compare_any p q _).mono ?_
  rintro e w4 ⟨rfl, ew⟩
  replace ew := ew.symm
  subst ew
  first | refine hK.out _ _ (by exact Q3.out.1) (fun hHeld => ?_) | (go_wp2_with fail; refine hK.out _ _ (by exact Q3.out.1) (fun hHeld => ?_))
  clear hK K
  try simp only [Act.put, List.setIfInBounds_toArray, List.set_cons_zero, List.set_cons_succ]
  refine wpAnyH_take (i := 7) (oi := { dst := some 6, op := Go.Op.assign (Go.Operand.tmp 13), type := 3, pos := "l19_load.go:226", after := #[{ on := 6, ground := Go.Ground.data }, { on := 6, ground := Go.Ground.chain }, { on := 0, ground := Go.Ground.phase }, { on := 1, ground := Go.Ground.phase }, { on := 2, ground := Go.Ground.phase }, { on := 3, ground := Go.Ground.phase }, { on := 4, ground := Go.Ground.phase }, { on := 5, ground := Go.Ground.phase }, { on := 6, ground := Go.Ground.phase }], guard := none }) (v := ?_) rfl (by kernel_rfl) (by kernel_rfl) (by kernel_rfl) (fun _ _ _ h => h) (Or.inl ⟨by rfl, ?_⟩) (by assumption) ?_
  rotate_left
  · (intro w hSw; (try dsimp only at hSw); go_simp <;> try with_reducible rfl)
  try simp only [Act.put, List.setIfInBounds_toArray, List.set_cons_zero, List.set_cons_succ]
  refine wpAnyH_done (by kernel_rfl) ?_ _
  refine NoPanic.normal ?_
  clear hHeld
  go_wp2
  go_returns
  exact ⟨rfl, Q3.out.2⟩
end Go.Proofs.Ytogolmbgboihdaa
