/- Needs of less are told wherever needs of more are; two items as they stand in the program's text. -/
import Derived.Test.YtmbdeafpfdeigaaLx
import Derived.Test.YtmbdeafpfdeigaaLr
import Derived.Test.YtmbdeafpfdeigaaDh
import Derived.Deep.QuietTactic
import Derived.BigQuiet
namespace Go.Proofs.Ytmbdeafpfdeigaa
open Go Go.ChangeShapes Go.WideShapes Go.ChangeAt Go.RowKit
set_option linter.unusedVariables false
set_option linter.unusedSimpArgs false

/-- One row is from 0 to the other. -/
def Dn (a f : Nat → Int) : Prop := ∀ j, 0 ≤ a j ∧ a j ≤ f j
theorem Dn.q {a f : Nat → Int} (h : Dn a f) (hf : FQ f) : FQ a := fun j => ⟨(h j).1, Int.le_trans (h j).2 (hf j).2⟩
theorem ex_dn {na nf : Int} {c : Nat → PA6} (h0 : 0 ≤ na) (hn : na ≤ nf) : ∀ k, (∀ j, j < k → CP (c j)) → ∀ f a : Nat → Int, Dn a f → FQ f → exB f nf c k = true → exB a na c k = true ∧ Dn (exF a na c k) (exF f nf c k)
  | 0, _, _, _, h, _, _ => ⟨rfl, h⟩
  | k + 1, hc, f, a, h, hf, e => by
    simp only [exB, Bool.and_eq_true] at e ⊢
    obtain ⟨ih1, ih2⟩ := ex_dn h0 hn k (fun j hj => hc j (by omega)) f a h hf e.1
    have q1 := exF_q hf k e.1
    obtain ⟨hq, hs0, hs1⟩ := hc k (by omega)
    have s1 := e.2
    simp only [stB, Bool.and_eq_true] at s1 ⊢
    have i1 := inB_t s1.1; have i2 := inB_t s1.2
    have m0 : 0 ≤ na * (c k).qty := Int.mul_nonneg h0 (by omega)
    have m1 : na * (c k).qty ≤ nf * (c k).qty := Int.mul_le_mul_of_nonneg_right hn (by omega)
    have m2 : na * (c k).qty * (100 + (c k).scr) ≤ nf * (c k).qty * (100 + (c k).scr) := Int.mul_le_mul_of_nonneg_right m1 (by omega)
    have m3 : 0 ≤ na * (c k).qty * (100 + (c k).scr) := Int.mul_nonneg m0 (by omega)
    have t1 := tk_val m0 (by omega) ⟨hs0, hs1⟩
    have t2 := tk_val i1.1 i1.2 ⟨hs0, hs1⟩
    have g := ih2 (c k).item.toNat
    rw [t2] at i2
    have bd : 0 ≤ tk na (c k) ∧ tk na (c k) ≤ tk nf (c k) := by
      rw [t1, t2]
      generalize na * (c k).qty * (100 + (c k).scr) = X at *
      generalize nf * (c k).qty * (100 + (c k).scr) = Y at *
      omega
    rw [← t2] at i2
    refine ⟨⟨ih1, inB_y m0 (by omega), inB_y (by omega) (by omega)⟩, fun j => ?_⟩
    show 0 ≤ upI _ _ _ j ∧ upI _ _ _ j ≤ upI _ _ _ j
    by_cases q : j = (c k).item.toNat
    · subst q; rw [upI_eq, upI_eq]; omega
    · rw [upI_ne q, upI_ne q]; exact ih2 j
theorem xp_dn {n : Nat} {c : Nat → IT} {d : Int} {f a : Nat → Int} {i : Nat} {q q1 : Int} (hI : isB n c = true) (hi : i < n) (h : Dn a f) (hf : FQ f) (h0 : 0 ≤ q1) (hm : q1 ≤ q) (e : xpB c d f i q = true) : xpB c d a i q1 = true ∧ Dn (xpF c d a i q1) (xpF c d f i q) := by
  obtain ⟨g1, _⟩ := isB_it hI hi
  unfold xpB at e ⊢
  simp only [Bool.and_eq_true] at e ⊢
  have b0 := (bat_bd h0 g1.1).1
  have bm := bat_mono g1.1 hm
  have p0 := inB_t e.1
  have p1 : bat q1 (c i).batch * (c i).batch ≤ bat q (c i).batch * (c i).batch := Int.mul_le_mul_of_nonneg_right bm (by omega)
  have p2 : 0 ≤ bat q1 (c i).batch * (c i).batch := Int.mul_nonneg b0 (by omega)
  have x := ex_dn b0 bm _ (cp_of hI hi) f a h hf e.2
  exact ⟨⟨inB_y p2 (by omega), x.1⟩, x.2⟩
theorem sn_dn {n : Nat} {c : Nat → IT} {d : Int} {p : Nat} (hI : isB n c = true) {f a : Nat → Int} (h : Dn a f) (ff : FQ f) : ∀ k, p + k ≤ n → snB c d p f k = true → snB c d p a k = true ∧ Dn (snF c d p a k) (snF c d p f k)
  | 0, _, _ => ⟨rfl, h⟩
  | k + 1, hk, e1 => by
    simp only [snB, Bool.and_eq_true] at e1 ⊢
    obtain ⟨i1, i2⟩ := sn_dn hI h ff k (by omega) e1.1
    have qf := snF_q ff k e1.1
    have qa := i2.q qf
    have s1 := e1.2
    show (_ ∧ _) ∧ Dn (nS c d (snF c d p a k) (p + k)) (nS c d (snF c d p f k) (p + k))
    generalize snF c d p f k = F at *
    generalize snF c d p a k = A at *
    cases hph : (c (p + k)).pha
    · obtain ⟨y1, y2⟩ := nS_no (c := c) (d := d) (f := F) (i := p + k) (fun q => by rw [hph] at q; cases q.1)
      obtain ⟨z1, z2⟩ := nS_no (c := c) (d := d) (f := A) (i := p + k) (fun q => by rw [hph] at q; cases q.1)
      rw [y1, z1]
      exact ⟨⟨i1, z2⟩, i2⟩
    · obtain ⟨x1, y1⟩ := nS_xp (d := d) hI (show p + k < n by omega) qf hph
      obtain ⟨x2, y2⟩ := nS_xp (d := d) hI (show p + k < n by omega) qa hph
      rw [x1, x2, y2]
      have l0 : Dn (upI A (p + k) 0) (upI F (p + k) 0) := fun j => by
        by_cases e : j = p + k
        · subst e; rw [upI_eq, upI_eq]; omega
        · rw [upI_ne e, upI_ne e]; exact i2 j
      have x := xp_dn (d := d) hI (show p + k < n by omega) l0 (qf.up _ (Int.le_refl _) (by omega)) (i2 (p + k)).1 (i2 (p + k)).2 (y1 ▸ s1)
      exact ⟨⟨i1, x.1⟩, x.2⟩
theorem ne_dn {n : Nat} {c : Nat → IT} {d : Int} {i : Nat} {q q1 : Int} (hI : isB n c = true) (hi : i < n) (h0 : 0 ≤ q1) (hm : q1 ≤ q) (e : neB n c d i q = true) : neB n c d i q1 = true := by
  unfold neB at e ⊢
  rw [(nd_sn c d _ _ _).2, Bool.and_eq_true] at e ⊢
  have x := xp_dn (d := d) hI hi (f := z0) (a := z0) (fun j => ⟨Int.le_refl _, Int.le_refl _⟩) z0_q h0 hm e.1
  exact ⟨x.1, (sn_dn hI x.2 (xpF_q (n := 0) z0_q e.1) _ (by omega) e.2).1⟩
theorem rk_dn {n : Nat} {c : Nat → IT} {a q q1 d : Int} (h : rkB neB n c a q d = true) (h0 : 0 ≤ q1) (hm : q1 ≤ q) : rkB neB n c a q1 d = true := by
  unfold rkB at h ⊢
  rw [Bool.and_eq_true] at h ⊢
  obtain ⟨hI, ha, hq, hd⟩ := akB_p h.1
  refine ⟨?_, ne_dn hI (by omega) h0 hm h.2⟩
  unfold akB
  rw [hI, inB_y ha.1 ha.2, inB_y h0 (by omega), inB_y hd.1 hd.2]; rfl
theorem ne_q {n : Nat} {c : Nat → IT} {a q d : Int} (h : rkB neB n c a q d = true) : FQ (neF n c d a.toNat q) := by
  unfold rkB at h
  rw [Bool.and_eq_true] at h
  have e := h.2
  unfold neB at e
  unfold neF
  rw [(nd_sn c d _ _ _).2, Bool.and_eq_true] at e
  rw [(nd_sn c d _ _ _).1]
  exact snF_q (xpF_q (n := 0) z0_q e.1) _ e.2
theorem rk_m {X : Nat → (Nat → IT) → Int → Nat → Int → Bool} {n : Nat} {c : Nat → IT} {a q d : Int} (h : rkB X n c a q d = true) : rkM X n c a q d = n := if_pos h
theorem rk_hv {n : Nat} {c : Nat → IT} {a q p d : Int} (h : rkB neB n c a q d = true) (h0 : 0 ≤ p) (h1 : p ≤ q) : Hv (neF n c d a.toNat q) (neF n c d a.toNat p) (neF n c d a.toNat (q - p)) := by
  have h2 := rk_dn h h0 h1
  have h3 := rk_dn (q1 := q - p) h (by omega) (by omega)
  unfold rkB at h h2 h3
  rw [Bool.and_eq_true] at h h2 h3
  obtain ⟨hI, ha, hq, hd⟩ := akB_p h.1
  exact ne_halves hI (by omega) (by omega) h1 h0 (by omega) h.2 h2.2 h3.2
theorem rk_qty {X : Nat → (Nat → IT) → Int → Nat → Int → Bool} {n : Nat} {c : Nat → IT} {a q d : Int} (h : rkB X n c a q d = true) : 0 ≤ q ∧ q ≤ 1000000 := by
  unfold rkB at h
  rw [Bool.and_eq_true] at h
  exact (akB_p h.1).2.2.1

/-- The two items of the example. -/
def litC : Nat → IT := fun j => if j = 0 then ⟨⟨#[97]⟩, 5, false, 1, fun _ => ⟨1, 3, 10, 0, 9, 0⟩, 0, fun _ => ⟨0, 0, 0, 0, 0, 0⟩⟩ else ⟨⟨#[98]⟩, 1, false, 0, fun _ => ⟨0, 0, 0, 0, 0, 0⟩, 0, fun _ => ⟨0, 0, 0, 0, 0, 0⟩⟩
theorem lit_is : isB 2 litC = true := isB_t ⟨by omega, fun j hj => by
    have ap0 : ∀ (T : PA6 → Bool) (z : Nat → PA6), apB T 0 z = true := fun T z => apB_t ⟨by omega, fun j hj => by omega⟩
    have ap1 : apB (paB ((0 : Nat) : Int) ((2 : Nat) : Int)) 1 (litC 0).parz = true := apB_t ⟨by omega, fun j hj => by show paB 0 2 ⟨1, 3, 10, 0, 9, 0⟩ = true; decide⟩
    rcases (show j = 0 ∨ j = 1 by omega) with rfl | rfl
    · show (nameB _ && _ && _ && apB _ 1 _ && apB _ 0 _) = true
      rw [ap1, ap0]; decide
    · show (nameB _ && _ && _ && apB _ 0 _ && apB _ 0 _) = true
      rw [ap0, ap0]; decide,
  fun i j h1 h2 => by
    obtain ⟨rfl, rfl⟩ : i = 0 ∧ j = 1 := ⟨by omega, by omega⟩
    decide,
  fun j hj => by
    rcases (show j = 0 ∨ j = 1 by omega) with rfl | rfl <;> decide⟩
theorem lit_ne : neB 2 litC 4 0 7 = true := by kernel_rfl
theorem lit_nf : neF 2 litC 4 0 7 1 = 7 := by kernel_rfl
theorem lit_rk : rkB neB 2 litC 0 7 4 = true := by
  unfold rkB akB
  rw [lit_is, show neB 2 litC 4 (0 : Int).toNat 7 = true from lit_ne]; decide
theorem lit_IZ : IZ 2 litC := fun j hj => by
  rcases (show j = 0 ∨ j = 1 by omega) with rfl | rfl
  · exact ⟨by show (1 : Nat) ≤ maxLen; unfold maxLen; omega, by decide, by decide⟩
  · exact ⟨by show (1 : Nat) ≤ maxLen; unfold maxLen; omega, by decide, by decide⟩
def litP : Array Value := #[.int .i64 1, .int .i64 3, .int .i64 10, .int .i64 0, .int .i64 9, .int .i64 0]
def litI (b : Nat) : Array Value := #[.string ⟨#[97]⟩, .int .i64 5, .bool false, .slice (some ⟨b, 0, none⟩) 1 1, .slice none 0 0, .string ⟨#[98]⟩, .int .i64 1, .bool false, .slice none 0 0, .slice none 0 0]
theorem lit_ITr (w : World) : ITr ((w.alloc (.cells litP 28 (0, 0))).alloc (.cells (litI w.heap.size) 31 (0, 0))) (some ⟨w.heap.size + 1, 0, none⟩) 2 litC := by
  have hP : CB ((w.alloc (.cells litP 28 (0, 0))).alloc (.cells (litI w.heap.size) 31 (0, 0))) w.heap.size litP 28 := (CB.new _ _).alloc _
  have hI : CB ((w.alloc (.cells litP 28 (0, 0))).alloc (.cells (litI w.heap.size) 31 (0, 0))) (w.heap.size + 1) (litI w.heap.size) 31 := CB.newAt (by simp) _ _
  refine .inr ⟨w.heap.size + 1, 0, rfl, hI.lt, fun j hj => ?_⟩
  rcases (show j = 0 ∨ j = 1 by omega) with rfl | rfl
  · refine ⟨some ⟨w.heap.size, 0, none⟩, 1, none, 0, Nat.le_refl _, Nat.le_refl _, (hI.cell 0).trans rfl, (hI.cell 1).trans rfl, (hI.cell 2).trans rfl, (hI.cell 3).trans rfl, (hI.cell 4).trans rfl, .inr ⟨w.heap.size, 0, rfl, hP.lt, fun k hk => ?_⟩, .inl rfl⟩
    obtain rfl : k = 0 := by have : k < 1 := hk; omega
    exact ⟨(hP.cell 0).trans rfl, (hP.cell 1).trans rfl, (hP.cell 2).trans rfl, (hP.cell 3).trans rfl, (hP.cell 4).trans rfl, (hP.cell 5).trans rfl⟩
  · exact ⟨none, 0, none, 0, Nat.le_refl _, Nat.le_refl _, (hI.cell 5).trans rfl, (hI.cell 6).trans rfl, (hI.cell 7).trans rfl, (hI.cell 8).trans rfl, (hI.cell 9).trans rfl, .inl rfl, .inl rfl⟩
set_option maxRecDepth 20000 in
theorem at_any (b : Nat) (ad : Option Addr) (len cap i : Nat) (w : World) (hl : (len : Int) ≤ 1048576) (hi : (i : Int) ≤ 1048576) (hr : ByteRow w b ad len) :
    Calls Try.prog 20 #[.slice ad len cap, .int .i64 (i : Int)] w fun e w' => ∃ x : Int, e = .returned (.int .i64 x) ∧ 0 ≤ x ∧ x ≤ 255 ∧ w' = w := by
  by_cases hlt : i < len
  · rcases hr with h | ⟨k, off, rfl, hb, hk, hcc⟩
    · omega
    · obtain ⟨c, c0, c1, hcell⟩ := hcc i hlt
      have hlt2 : (i : Int) < (len : Int) := by omega
      have HCC := hid hcc
      clear hcc
      go_enter Try.func20, Try.ntmps20
      go_wp2
      go_returns
      exact ⟨_, rfl, by first | exact c0 | omega, by first | exact c1 | omega, rfl⟩
  · have hlt2 : ¬ (i : Int) < (len : Int) := by omega
    go_enter Try.func20, Try.ntmps20
    go_wp2
    go_returns
    exact ⟨0, rfl, by omega, by omega, rfl⟩
end Go.Proofs.Ytmbdeafpfdeigaa
