/- What a way cost, spread over lays: plain; the weights of the program. -/
import Derived.Test.YtdgccdlaokbnhaaLo
import Derived.Test.YtdgccdlaokbnhaaLc
import Derived.Test.YtdgccdlaokbnhaaZW
namespace Go.Proofs.Ytdgccdlaokbnhaa
open Go Go.ChangeShapes Go.WideShapes Go.ChangeAt Go.RowKit
set_option linter.unusedVariables false
set_option linter.unusedSimpArgs false


/-- By what a way's cost is spread. -/
def wtF (b : Int) (c : Nat → LA2) (j : Nat) : Int := if b = 1 then (c j).cost else if b = 2 then (c j).qty else 1
def laF (T : Int) (n : Nat) (b : Int) (c : Nat → LA2) (j : Nat) : LA2 := ⟨(c j).qty, (c j).cost + Sh.shV T n (wtF b c) j⟩
structure LdP (n : Nat) (c : Nat → LA2) (T b : Int) : Prop where
  ar : ArP 200 n c
  ex : 0 ≤ T ∧ T ≤ 100000000000
  bb : 1 ≤ b ∧ b ≤ 3
  sh : Sh.ShOk T n (wtF b c)
  co : ∀ j, j < n → (laF T n b c j).cost ≤ 100000000000
open Classical in
noncomputable def ldB (n : Nat) (c : Nat → LA2) (T b : Int) : Bool := decide (LdP n c T b)
noncomputable def ldM (n : Nat) (c : Nat → LA2) (T b : Int) : Nat := if ldB n c T b = true then n else 0
section
variable {n : Nat} {c : Nat → LA2} {T b : Int}
open Classical in
theorem ldB_t (h : LdP n c T b) : ldB n c T b = true := by unfold ldB; exact decide_eq_true h
open Classical in
theorem ldB_f (h : ¬ LdP n c T b) : ldB n c T b = false := by unfold ldB; exact decide_eq_false h
open Classical in
theorem ldB_p (h : ldB n c T b = true) : LdP n c T b := by unfold ldB at h; exact of_decide_eq_true h
end
theorem le_sm {z : Nat → Int} : ∀ {n : Nat}, (∀ j, j < n → 0 ≤ z j) → ∀ j, j < n → z j ≤ Sh.sm z n
  | 0, _, j, hj => by omega
  | n + 1, h, j, hj => by
    have nn : ∀ m, m ≤ n → 0 ≤ Sh.sm z m := fun m => by
      induction m with
      | zero => intro _; exact Int.le_refl _
      | succ m ih => intro hm; rw [Sh.sm_succ]; have := ih (by omega); have := h m (by omega); omega
    rw [Sh.sm_succ]
    by_cases e : j = n
    · subst e; have := nn j (Nat.le_refl _); omega
    · have := le_sm (n := n) (fun j hj => h j (by omega)) j (by omega); have := h n (by omega); omega
theorem sh_bd {T : Int} {N : Nat} {z : Nat → Int} (h : Sh.ShOk T N z) (hT : 0 ≤ T) : ∀ j, j < N → 0 ≤ Sh.shV T N z j ∧ Sh.shV T N z j ≤ T := fun j hj => by
  obtain ⟨_, hf, _⟩ := Sh.shV_facts h
  obtain ⟨f1, f2⟩ := hf j hj
  obtain ⟨_, _, hz, hs⟩ := h
  have hzj := (hz j hj).1
  have hle := le_sm (fun j hj => (hz j hj).1) j hj
  generalize Sh.shV T N z j = V at f1 f2 ⊢
  generalize Sh.sm z N = S at f1 f2 hs hle
  generalize z j = x at *
  have g0 : 0 ≤ T * x := Int.mul_nonneg hT hzj
  have g1 : T * x ≤ T * S := Int.mul_le_mul_of_nonneg_left hle hT
  refine ⟨?_, ?_⟩
  · rcases (show V < 0 ∨ 0 ≤ V by omega) with q | q
    · have := Int.mul_le_mul_of_nonneg_right (show V ≤ -1 by omega) (show 0 ≤ S by omega)
      omega
    · exact q
  · rcases (show T < V ∨ V ≤ T by omega) with q | q
    · have := Int.mul_le_mul_of_nonneg_right (show T + 1 ≤ V by omega) (show 0 ≤ S by omega)
      rw [Int.add_mul, Int.one_mul] at this
      omega
    · exact q
theorem own_IR {w : World} {base m cap : Nat} {ad : Option Addr} {xs : List Value} {z : Nat → Int} (h : w.ownsRow base 3 1 (.slice ad m cap) m xs) (hz : ∀ j, j < m → xs[j]? = some (.int .i64 (z j))) : IR w ad m z := by
  rcases h.2 with ⟨_, e⟩ | ⟨g, cap', cur, e, hb, hg, h3, h4, h5, h6⟩
  · exact .inl e
  · simp only [Value.slice.injEq] at e
    obtain ⟨rfl, _, rfl⟩ := e
    refine IR.of_block hg m z (fun j hj => ?_)
    rw [← hz j hj, ← h6, List.getElem?_take, if_pos (by omega)]; simp
theorem madeI {w : World} {g base : Nat} (h : CB w g #[] 3) (hb : base ≤ g) : w.ownsRow base 3 1 (.slice (some ⟨g, 0, none⟩) 0 0) 0 [] := ⟨rfl, .inr ⟨g, 0, #[], rfl, hb, h, Nat.le_refl _, Nat.zero_le _, rfl, rfl⟩⟩

set_option maxRecDepth 20000 in
set_option maxHeartbeats 4000000 in
theorem spread_any (b : Int) (ad : Option Addr) (n cap : Nat) (c : Nat → LA2) (w : World) (h : n ≤ 200) (hb1 : 1 ≤ b) (hb3 : b ≤ 3) (hr : LAr w ad n c) :
    Calls Try.prog 73 #[.slice ad n cap, .int .i64 b] w (Sh.NewI n (Sh.intL (wtF b c) n) w) := by
  have HR : Hid (LAr w ad n c) := hr
  clear hr
  have hn : (n : Int) ≤ 200 := by omega
  obtain ⟨i0, hi, hz0, hz1, hz2⟩ := Sh.info3
  rcases (show b = 1 ∨ b = 2 ∨ b = 3 by omega) with rfl | rfl | rfl

  · obtain ⟨b, hb⟩ : ∃ b : Int, b = 1 := ⟨_, rfl⟩
    have HBB : Hid (b = 1) := hb
    rw [← hb]
    clear hb
    have e1 : (b == 1) = true := by rw [HBB.out]; rfl
    have e2 : (b == 2) = false := by rw [HBB.out]; rfl
    have e3 : (b == 3) = false := by rw [HBB.out]; rfl
    clear hb1 hb3
    go_enter Try.func73, Try.ntmps73
    go_wp2
    go_loopw [5, 11] (fun u i wr => ∃ (k : Nat) (adu : Option Addr) (cu : Nat), k ≤ n ∧ i = .int .i64 (k : Int) ∧ u = .slice adu k cu ∧ Hid (wr.ownsRow w.heap.size 3 1 (.slice adu k cu) k (Sh.intL (wtF b c) k)) ∧ Hid (Below w.heap.size w wr)) (fun u i _ => n - (intOf i).toNat)
    case atStart => exact ⟨0, _, _, Nat.zero_le _, rfl, rfl, madeI (CB.new _ _) (Nat.le_refl _), (Below.refl _ _).alloc (Nat.le_refl _) _⟩
    case round =>
      obtain ⟨k, adu, cu, hk, rfl, rfl, HW, HB⟩ := hrel
      have hsz := HB.out.size
      by_cases hlt : k < n
      · have hlt2 : (k : Int) < (n : Int) := by omega
        obtain ⟨kb, off, rfl, hkb⟩ := HR.out.addr (by omega)
        obtain ⟨c0, c1⟩ := (HR.out.below HB.out).cell hlt
        have HZ : Hid (wtF b c k = (c k).cost) := hid (by unfold wtF; rw [HBB.out]; rfl)
        generalize (c k).qty = x at c0 HZ
        generalize (c k).cost = y at c1 HZ
        go_wp2_with (at_builtin; go_loud (refine wpList_append_own_at _ rfl _ _ 27 rfl w.heap.size 3 i0 (.int .i64 0) 1 8 Try.underlying27 hi hz0 hz1 hz2 rfl (by decide) (.slice adu k cu) k (Sh.intL (wtF b c) k) rfl (Sh.row_below HW.out (((Below.refl _ _).alloc (Nat.le_refl _) _).alloc (by simp) _)) ⟨_, 0, none⟩ 1 1 [.int .i64 y] rfl rfl (ecells (by first | rfl | simp)) (fun u hu => by simp at hu; subst hu; rfl) (by unfold maxLen; omega) (by omega) (by simp; omega) ?_); intro v9 w9 hown hgr _ hloc; obtain ⟨ad9, cu9, rfl⟩ := Sh.row_form hown; have HW9 : Hid (w9.ownsRow w.heap.size 3 1 (.slice ad9 (k + 1) cu9) (k + 1) (Sh.intL (wtF b c) (k + 1))) := hid (by rw [Sh.intL_succ, HZ.out]; exact hown); have HB9 : Hid (Below w.heap.size w w9) := hid (Below.grown ((HB.out.alloc HB.out.size _).alloc (by simp; omega) _) hgr (by simp; omega) (fun j hj => (HW.out.lt _ hj).1)); clear hown hgr hloc)
        go_roundw
        case rel => exact ⟨k + 1, ad9, cu9, by omega, by go_num, rfl, HW9.out, HB9.out⟩
        case measure => simp [intOf]; omega
      · obtain rfl : k = n := by omega
        have lkk : ¬ (k : Int) < (k : Int) := by omega
        go_wp2
        go_returns
        exact ⟨adu, cu, rfl, HW.out, HB.out⟩

  · obtain ⟨b, hb⟩ : ∃ b : Int, b = 2 := ⟨_, rfl⟩
    have HBB : Hid (b = 2) := hb
    rw [← hb]
    clear hb
    have e1 : (b == 1) = false := by rw [HBB.out]; rfl
    have e2 : (b == 2) = true := by rw [HBB.out]; rfl
    have e3 : (b == 3) = false := by rw [HBB.out]; rfl
    clear hb1 hb3
    go_enter Try.func73, Try.ntmps73
    go_wp2
    go_loopw [5, 11] (fun u i wr => ∃ (k : Nat) (adu : Option Addr) (cu : Nat), k ≤ n ∧ i = .int .i64 (k : Int) ∧ u = .slice adu k cu ∧ Hid (wr.ownsRow w.heap.size 3 1 (.slice adu k cu) k (Sh.intL (wtF b c) k)) ∧ Hid (Below w.heap.size w wr)) (fun u i _ => n - (intOf i).toNat)
    case atStart => exact ⟨0, _, _, Nat.zero_le _, rfl, rfl, madeI (CB.new _ _) (Nat.le_refl _), (Below.refl _ _).alloc (Nat.le_refl _) _⟩
    case round =>
      obtain ⟨k, adu, cu, hk, rfl, rfl, HW, HB⟩ := hrel
      have hsz := HB.out.size
      by_cases hlt : k < n
      · have hlt2 : (k : Int) < (n : Int) := by omega
        obtain ⟨kb, off, rfl, hkb⟩ := HR.out.addr (by omega)
        obtain ⟨c0, c1⟩ := (HR.out.below HB.out).cell hlt
        have HZ : Hid (wtF b c k = (c k).qty) := hid (by unfold wtF; rw [HBB.out]; rfl)
        generalize (c k).qty = x at c0 HZ
        generalize (c k).cost = y at c1 HZ
        go_wp2_with (at_builtin; go_loud (refine wpList_append_own_at _ rfl _ _ 27 rfl w.heap.size 3 i0 (.int .i64 0) 1 8 Try.underlying27 hi hz0 hz1 hz2 rfl (by decide) (.slice adu k cu) k (Sh.intL (wtF b c) k) rfl (Sh.row_below HW.out (((Below.refl _ _).alloc (Nat.le_refl _) _).alloc (by simp) _)) ⟨_, 0, none⟩ 1 1 [.int .i64 x] rfl rfl (ecells (by first | rfl | simp)) (fun u hu => by simp at hu; subst hu; rfl) (by unfold maxLen; omega) (by omega) (by simp; omega) ?_); intro v9 w9 hown hgr _ hloc; obtain ⟨ad9, cu9, rfl⟩ := Sh.row_form hown; have HW9 : Hid (w9.ownsRow w.heap.size 3 1 (.slice ad9 (k + 1) cu9) (k + 1) (Sh.intL (wtF b c) (k + 1))) := hid (by rw [Sh.intL_succ, HZ.out]; exact hown); have HB9 : Hid (Below w.heap.size w w9) := hid (Below.grown ((HB.out.alloc HB.out.size _).alloc (by simp; omega) _) hgr (by simp; omega) (fun j hj => (HW.out.lt _ hj).1)); clear hown hgr hloc)
        go_roundw
        case rel => exact ⟨k + 1, ad9, cu9, by omega, by go_num, rfl, HW9.out, HB9.out⟩
        case measure => simp [intOf]; omega
      · obtain rfl : k = n := by omega
        have lkk : ¬ (k : Int) < (k : Int) := by omega
        go_wp2
        go_returns
        exact ⟨adu, cu, rfl, HW.out, HB.out⟩

  · obtain ⟨b, hb⟩ : ∃ b : Int, b = 3 := ⟨_, rfl⟩
    have HBB : Hid (b = 3) := hb
    rw [← hb]
    clear hb
    have e1 : (b == 1) = false := by rw [HBB.out]; rfl
    have e2 : (b == 2) = false := by rw [HBB.out]; rfl
    have e3 : (b == 3) = true := by rw [HBB.out]; rfl
    clear hb1 hb3
    go_enter Try.func73, Try.ntmps73
    go_wp2
    go_loopw [5, 11] (fun u i wr => ∃ (k : Nat) (adu : Option Addr) (cu : Nat), k ≤ n ∧ i = .int .i64 (k : Int) ∧ u = .slice adu k cu ∧ Hid (wr.ownsRow w.heap.size 3 1 (.slice adu k cu) k (Sh.intL (wtF b c) k)) ∧ Hid (Below w.heap.size w wr)) (fun u i _ => n - (intOf i).toNat)
    case atStart => exact ⟨0, _, _, Nat.zero_le _, rfl, rfl, madeI (CB.new _ _) (Nat.le_refl _), (Below.refl _ _).alloc (Nat.le_refl _) _⟩
    case round =>
      obtain ⟨k, adu, cu, hk, rfl, rfl, HW, HB⟩ := hrel
      have hsz := HB.out.size
      by_cases hlt : k < n
      · have hlt2 : (k : Int) < (n : Int) := by omega
        obtain ⟨kb, off, rfl, hkb⟩ := HR.out.addr (by omega)
        obtain ⟨c0, c1⟩ := (HR.out.below HB.out).cell hlt
        have HZ : Hid (wtF b c k = 1) := hid (by unfold wtF; rw [HBB.out]; rfl)
        generalize (c k).qty = x at c0 HZ
        generalize (c k).cost = y at c1 HZ
        go_wp2_with (at_builtin; go_loud (refine wpList_append_own_at _ rfl _ _ 27 rfl w.heap.size 3 i0 (.int .i64 0) 1 8 Try.underlying27 hi hz0 hz1 hz2 rfl (by decide) (.slice adu k cu) k (Sh.intL (wtF b c) k) rfl (Sh.row_below HW.out (((Below.refl _ _).alloc (Nat.le_refl _) _).alloc (by simp) _)) ⟨_, 0, none⟩ 1 1 [.int .i64 1] rfl rfl (ecells (by first | rfl | simp)) (fun u hu => by simp at hu; subst hu; rfl) (by unfold maxLen; omega) (by omega) (by simp; omega) ?_); intro v9 w9 hown hgr _ hloc; obtain ⟨ad9, cu9, rfl⟩ := Sh.row_form hown; have HW9 : Hid (w9.ownsRow w.heap.size 3 1 (.slice ad9 (k + 1) cu9) (k + 1) (Sh.intL (wtF b c) (k + 1))) := hid (by rw [Sh.intL_succ, HZ.out]; exact hown); have HB9 : Hid (Below w.heap.size w w9) := hid (Below.grown ((HB.out.alloc HB.out.size _).alloc (by simp; omega) _) hgr (by simp; omega) (fun j hj => (HW.out.lt _ hj).1)); clear hown hgr hloc)
        go_roundw
        case rel => exact ⟨k + 1, ad9, cu9, by omega, by go_num, rfl, HW9.out, HB9.out⟩
        case measure => simp [intOf]; omega
      · obtain rfl : k = n := by omega
        have lkk : ¬ (k : Int) < (k : Int) := by omega
        go_wp2
        go_returns
        exact ⟨adu, cu, rfl, HW.out, HB.out⟩

set_option maxRecDepth 20000 in
set_option maxHeartbeats 4000000 in
theorem spread_no (b : Int) (ad : Option Addr) (n cap : Nat) (c : Nat → LA2) (w : World) (h : n ≤ 200) (hb : ¬ (1 ≤ b ∧ b ≤ 3)) (hr : LAr w ad n c) :
    Calls Try.prog 73 #[.slice ad n cap, .int .i64 b] w (Sh.NewI 0 [] w) := by
  have HR : Hid (LAr w ad n c) := hr
  clear hr
  have hn : (n : Int) ≤ 200 := by omega
  have e1 : (b == 1) = false := by simp; omega
  have e2 : (b == 2) = false := by simp; omega
  have e3 : (b == 3) = false := by simp; omega
  clear hb
  go_enter Try.func73, Try.ntmps73
  go_wp2
  go_loopw [5, 11] (fun u i wr => ∃ (k : Nat), k ≤ n ∧ i = .int .i64 (k : Int) ∧ u = .slice (some ⟨w.heap.size, 0, none⟩) 0 0 ∧ Hid (CB wr w.heap.size #[] 3) ∧ Hid (Below w.heap.size w wr)) (fun u i _ => n - (intOf i).toNat)
  case atStart => exact ⟨0, Nat.zero_le _, rfl, rfl, CB.new _ _, (Below.refl _ _).alloc (Nat.le_refl _) _⟩
  case round =>
    obtain ⟨k, hk, rfl, rfl, HC, HB⟩ := hrel
    by_cases hlt : k < n
    · have hlt2 : (k : Int) < (n : Int) := by omega
      obtain ⟨kb, off, rfl, hkb⟩ := HR.out.addr (by omega)
      obtain ⟨c0, c1⟩ := (HR.out.below HB.out).cell hlt
      go_wp2
      go_roundw
      case rel => exact ⟨k + 1, by omega, by go_num, rfl, HC.out.alloc _, HB.out.alloc HB.out.size _⟩
      case measure => simp [intOf]; omega
    · obtain rfl : k = n := by omega
      have lkk : ¬ (k : Int) < (k : Int) := by omega
      go_wp2
      go_returns
      exact ⟨_, _, rfl, madeI HC.out (Nat.le_refl _), HB.out⟩
end Go.Proofs.Ytdgccdlaokbnhaa
