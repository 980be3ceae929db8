/- The program's table of the least ways. -/
import Derived.Test.YtmbdeafpfdeigaaQh
import Derived.Test.YtmbdeafpfdeigaaQc
import Derived.Test.YtmbdeafpfdeigaaRz
namespace Go.Proofs.Ytmbdeafpfdeigaa
open Go Go.ChangeShapes Go.WideShapes Go.ChangeAt Go.RowKit
set_option linter.unusedVariables false
set_option linter.unusedSimpArgs false

theorem kF_bd {m : Nat → Int} {f : Nat} : ∀ e, e ≤ 40 → (∀ j, j < e → 0 ≤ m j ∧ m j ≤ 1000000) → 0 ≤ kF m f e ∧ kF m f e ≤ 40000000 * (e : Int)
  | 0, _, _ => by simp [kF]
  | e + 1, h, hm => by
    have ih := kF_bd (f := f) e (by omega) (fun j hj => hm j (by omega))
    by_cases g : f ≤ e
    · have h1 := hm e (by omega)
      rw [kF_s m g]
      have p0 : 0 ≤ ((e : Int) - (f : Int)) * m e := Int.mul_nonneg (by omega) h1.1
      have p1 : ((e : Int) - (f : Int)) * m e ≤ 40 * 1000000 := Int.le_trans (Int.mul_le_mul_of_nonneg_right (show (e : Int) - (f : Int) ≤ 40 by omega) h1.1) (Int.mul_le_mul_of_nonneg_left h1.2 (by omega))
      omega
    · rw [kF_z m (e + 1) (by omega)]; omega
theorem hk_bd {H : Int} {m : Nat → Int} {f e : Nat} (hH : 0 ≤ H ∧ H ≤ 1000) (he : e ≤ 40) (hm : ∀ j, j < e → 0 ≤ m j ∧ m j ≤ 1000000) : 0 ≤ H * kF m f e ∧ H * kF m f e ≤ 1600000000000 := by
  have a := kF_bd (f := f) e he hm
  have b : H * kF m f e ≤ 1000 * kF m f e := Int.mul_le_mul_of_nonneg_right hH.2 a.1
  have c := Int.mul_nonneg hH.1 a.1
  omega
theorem wT_bd {S H : Int} {m : Nat → Int} {n : Nat} (hn : n ≤ 40) (hS : 0 ≤ S ∧ S ≤ 10000000) (hH : 0 ≤ H ∧ H ≤ 1000) (hm : ∀ j, j < n → 0 ≤ m j ∧ m j ≤ 1000000) : ∀ F e, F ≤ n → e ≤ n → 0 ≤ (wT S H m F e).1 ∧ (wT S H m F e).1 ≤ 2000000000000 * (F : Int)
  | 0, e, _, _ => by simp [wT]
  | F + 1, e, h1, h2 => by
    have ih := wT_bd hn hS hH hm F e (by omega) h2
    have ihF := wT_bd hn hS hH hm F F (by omega) (by omega)
    have hk := hk_bd (f := F) (e := e) hH (by omega) (fun j hj => hm j (by omega))
    by_cases g : m F = 0 ∨ e ≤ F
    · rw [wT_s0 S H g]; omega
    · rw [wT_s S H (by omega) (by omega)]
      split
      · show 0 ≤ (wT S H m F F).1 + S + H * kF m F e ∧ (wT S H m F F).1 + S + H * kF m F e ≤ _
        omega
      · omega
section
variable {W W' : World} {g n : Nat} {T T' : Nat → Int × Int}
theorem WW.lt (h : WW W g n T) : g < W.heap.size := by obtain ⟨cs, h1, _⟩ := h; exact h1.lt
theorem WW.cell (h : WW W g n T) {e : Nat} (he : e ≤ n) : W.cell? ⟨g, e * 2, none⟩ = some (.int .i64 (T e).1) ∧ W.cell? ⟨g, e * 2 + 1, none⟩ = some (.int .i64 (T e).2) ∧ W.frozen? ⟨g, e * 2, none⟩ = false ∧ W.frozen? ⟨g, e * 2 + 1, none⟩ = false := by
  obtain ⟨cs, h1, h2, h3⟩ := h
  obtain ⟨a, b⟩ := h3 e he
  exact ⟨by rw [h1.cell]; exact a, by rw [h1.cell]; exact b, h1.fr _, h1.fr _⟩
theorem WW.below (h : WW W g n T) (b : Below W.heap.size W W') : WW W' g n T := by
  obtain ⟨cs, h1, h2, h3⟩ := h
  exact ⟨cs, h1.below b h1.lt, h2, h3⟩
theorem WW.congr (h : WW W g n T) (e : ∀ j, j ≤ n → T j = T' j) : WW W g n T' := by
  obtain ⟨cs, h1, h2, h3⟩ := h
  exact ⟨cs, h1, h2, fun j hj => by rw [← e j hj]; exact h3 j hj⟩
theorem WW.put (h : WW W g n T) {k : Nat} (hk : k ≤ n) (x y : Int) : WW ((W.setCell ⟨g, k * 2, none⟩ (.int .i64 x)).setCell ⟨g, k * 2 + 1, none⟩ (.int .i64 y)) g n (fun j => if j = k then (x, y) else T j) := by
  obtain ⟨cs, h1, h2, h3⟩ := h
  refine ⟨_, (h1.set _ _).set _ _, by simpa using h2, fun j hj => ?_⟩
  by_cases e : j = k
  · subst e
    rw [get_set_ne (by omega), get_set_eq (by omega), get_set_eq (by simp; omega)]
    simp
  · rw [get_set_ne (by omega), get_set_ne (by omega), get_set_ne (by omega), get_set_ne (by omega)]
    simp only [if_neg e]
    exact h3 j hj
theorem WW.other (h : WW W g n T) {b o : Nat} (u : Value) (hb : b ≠ g) : WW (W.setCell ⟨b, o, none⟩ u) g n T := by
  obtain ⟨cs, h1, h2, h3⟩ := h
  refine ⟨cs, ?_, h2, h3⟩
  unfold CB at *
  rw [Below.heap_setCell _ _ _ _ (by show g ≠ b; omega)]; exact h1
end
theorem cb_other {W : World} {b : Nat} {cs : Array Value} {t : TypeId} (h : CB W b cs t) {c o : Nat} (u : Value) (hb : b ≠ c) : CB (W.setCell ⟨c, o, none⟩ u) b cs t := by
  unfold CB at *
  rw [Below.heap_setCell _ _ _ _ (by show b ≠ c; exact hb)]; exact h
set_option maxRecDepth 20000 in
set_option maxHeartbeats 2000000 in
theorem leastWays_any (ki sz su ho : Int) (ad : Option Addr) (n cap : Nat) (m : Nat → Int) (w : World) (hn : n ≤ 40) (hS : 0 ≤ su ∧ su ≤ 10000000) (hH : 0 ≤ ho ∧ ho ≤ 1000) (hm : ∀ j, j < n → 0 ≤ m j ∧ m j ≤ 1000000) (hr : IR w ad n m) :
    Calls Try.prog 142 #[.agg #[.int .i64 ki, .int .i64 sz, .int .i64 su, .int .i64 ho], .slice ad n cap] w fun e w' => ∃ g, e = .returned (.slice (some ⟨g, 0, none⟩) (n + 1) (n + 1)) ∧ WW w' g n (wT su ho m n) ∧ Below w.heap.size w w' := by
  have HR : Hid (IR w ad n m) := hr
  have hn1 : (n : Int) ≤ 40 := by omega
  have HQ : Hid ((0 ≤ su ∧ su ≤ 10000000) ∧ (0 ≤ ho ∧ ho ≤ 1000) ∧ ∀ j, j < n → 0 ≤ m j ∧ m j ≤ 1000000) := hid ⟨hS, hH, hm⟩
  have hc1 : (n : Int) + 1 = ((n + 1 : Nat) : Int) := by omega
  clear hr hS hH hm hc1
  have HB0 : Hid (Below w.heap.size w (((w.alloc (.cells #[.int .i64 ki, .int .i64 sz, .int .i64 su, .int .i64 ho] 48 (0, 0))).alloc (.cells #[.int .i64 0, .int .i64 (-1)] 139 (0, 0))).alloc (.cells #[.int .i64 0, .int .i64 (-1)] 139 (0, 0)))) := (((Below.refl _ _).alloc (Nat.le_refl _) _).alloc (by simp) _).alloc (by simp; omega) _
  have HC0 : Hid (CB (((w.alloc (.cells #[.int .i64 ki, .int .i64 sz, .int .i64 su, .int .i64 ho] 48 (0, 0))).alloc (.cells #[.int .i64 0, .int .i64 (-1)] 139 (0, 0))).alloc (.cells #[.int .i64 0, .int .i64 (-1)] 139 (0, 0))) w.heap.size #[.int .i64 ki, .int .i64 sz, .int .i64 su, .int .i64 ho] 48 ∧ CB (((w.alloc (.cells #[.int .i64 ki, .int .i64 sz, .int .i64 su, .int .i64 ho] 48 (0, 0))).alloc (.cells #[.int .i64 0, .int .i64 (-1)] 139 (0, 0))).alloc (.cells #[.int .i64 0, .int .i64 (-1)] 139 (0, 0))) (w.heap.size + 1) #[.int .i64 0, .int .i64 (-1)] 139 ∧ CB (((w.alloc (.cells #[.int .i64 ki, .int .i64 sz, .int .i64 su, .int .i64 ho] 48 (0, 0))).alloc (.cells #[.int .i64 0, .int .i64 (-1)] 139 (0, 0))).alloc (.cells #[.int .i64 0, .int .i64 (-1)] 139 (0, 0))) (w.heap.size + 1 + 1) #[.int .i64 0, .int .i64 (-1)] 139) := hid ⟨((CB.new _ _).alloc _).alloc _, (CB.newAt (by simp) _ _).alloc _, CB.newAt (by simp) _ _⟩
  have HRP : Hid (∀ u : Int, u = ((n + 1 : Nat) : Int) → Calls Try.prog 152 #[.slice (some ⟨w.heap.size + 1 + 1, 0, none⟩) 1 1, .int .i64 u] (((w.alloc (.cells #[.int .i64 ki, .int .i64 sz, .int .i64 su, .int .i64 ho] 48 (0, 0))).alloc (.cells #[.int .i64 0, .int .i64 (-1)] 139 (0, 0))).alloc (.cells #[.int .i64 0, .int .i64 (-1)] 139 (0, 0))) fun e w' => e = .returned (.slice (some ⟨(((w.alloc (.cells #[.int .i64 ki, .int .i64 sz, .int .i64 su, .int .i64 ho] 48 (0, 0))).alloc (.cells #[.int .i64 0, .int .i64 (-1)] 139 (0, 0))).alloc (.cells #[.int .i64 0, .int .i64 (-1)] 139 (0, 0))).heap.size, 0, none⟩) (n + 1) (n + 1)) ∧ WW w' (((w.alloc (.cells #[.int .i64 ki, .int .i64 sz, .int .i64 su, .int .i64 ho] 48 (0, 0))).alloc (.cells #[.int .i64 0, .int .i64 (-1)] 139 (0, 0))).alloc (.cells #[.int .i64 0, .int .i64 (-1)] 139 (0, 0))).heap.size n (fun _ => (0, -1)) ∧ Below (((w.alloc (.cells #[.int .i64 ki, .int .i64 sz, .int .i64 su, .int .i64 ho] 48 (0, 0))).alloc (.cells #[.int .i64 0, .int .i64 (-1)] 139 (0, 0))).alloc (.cells #[.int .i64 0, .int .i64 (-1)] 139 (0, 0))).heap.size (((w.alloc (.cells #[.int .i64 ki, .int .i64 sz, .int .i64 su, .int .i64 ho] 48 (0, 0))).alloc (.cells #[.int .i64 0, .int .i64 (-1)] 139 (0, 0))).alloc (.cells #[.int .i64 0, .int .i64 (-1)] 139 (0, 0))) w') := hid (fun u hu => by
    subst hu
    exact repeat_any (n + 1) (by omega) (by omega) (w.heap.size + 1 + 1) 1 (((w.alloc (.cells #[.int .i64 ki, .int .i64 sz, .int .i64 su, .int .i64 ho] 48 (0, 0))).alloc (.cells #[.int .i64 0, .int .i64 (-1)] 139 (0, 0))).alloc (.cells #[.int .i64 0, .int .i64 (-1)] 139 (0, 0))) ((HC0.out.2.2.cell 0).trans rfl) ((HC0.out.2.2.cell 1).trans rfl))
  go_enter Try.func142, Try.ntmps142
  go_wp2_with (go_at_call 152; refine (HRP.out _ (by omega)).mono ?_; rintro e w1 ⟨rfl, hw1, b1⟩; have HB1 : Hid (Below w.heap.size w w1) := hid (bel_on HB0.out b1); have HC1 : Hid (CB w1 w.heap.size #[.int .i64 ki, .int .i64 sz, .int .i64 su, .int .i64 ho] 48 ∧ CB w1 (w.heap.size + 1) #[.int .i64 0, .int .i64 (-1)] 139) := hid ⟨HC0.out.1.below b1 HC0.out.1.lt, HC0.out.2.1.below b1 HC0.out.2.1.lt⟩; have HW1 : Hid (WW w1 (w.heap.size + 1 + 1 + 1) n (fun _ => (0, -1))) := hid (by simpa using hw1); clear b1 hw1 HRP HC0 HB0)
  obtain ⟨lb, hlb⟩ : ∃ x, x = w.heap.size := ⟨_, rfl⟩
  have HLB : Hid (lb = w.heap.size) := hlb
  rw [← hlb] at HC1 HW1 ⊢
  clear hlb
  go_loopw [20] (fun u wr => ∃ F : Nat, F ≤ n ∧ u = .int .i64 (F : Int) ∧ Hid (Below w.heap.size w wr ∧ CB wr lb #[.int .i64 ki, .int .i64 sz, .int .i64 su, .int .i64 ho] 48 ∧ CB wr (lb + 1) #[.int .i64 0, .int .i64 (-1)] 139 ∧ WW wr (lb + 1 + 1 + 1) n (wT su ho m F))) (fun u _ => n - (intOf u).toNat)
  case atStart => exact ⟨0, Nat.zero_le _, rfl, hid ⟨HB1.out, HC1.out.1, HC1.out.2, HW1.out⟩⟩
  case round =>
    clear HB1 HC1 HW1
    obtain ⟨F, hF, rfl, HH⟩ := hrel
    obtain ⟨wo, rfl⟩ : ∃ x, x = wr := ⟨wr, rfl⟩
    by_cases hlt : F < n
    · have hlt2 : (F : Int) < (n : Int) := by omega
      obtain ⟨kb, off, rfl, hkb⟩ := HR.out.addr (by omega)
      have c0 := (HR.out.below HH.out.1).cell hlt
      by_cases h0 : m F = 0
      · have HN : Hid (WW wo (lb + 1 + 1 + 1) n (wT su ho m (F + 1))) := hid (HH.out.2.2.2.congr (fun e he => (wT_s0 su ho (.inl h0)).symm))
        rw [h0] at c0
        clear h0
        go_wp2
        go_roundw
        case rel => exact ⟨F + 1, by omega, by go_num, hid ⟨HH.out.1, HH.out.2.1, HH.out.2.2.1, HN.out⟩⟩
        case measure => simp [intOf]; omega
      · have hx0 : (m F == 0) = false := by simpa using h0
        have HM0 : Hid (m F ≠ 0) := h0
        have W1 := (HH.out.2.2.2.cell (e := F) (by omega)).1
        have S1 : wo.cell? ⟨lb, 2, none⟩ = some (.int .i64 su) := (HH.out.2.1.cell 2).trans rfl
        have W2 : wo.drew.cell? ⟨lb + 1 + 1 + 1, F * 2, none⟩ = some (.int .i64 (wT su ho m F F).1) := W1
        have S2 : wo.drew.cell? ⟨lb, 2, none⟩ = some (.int .i64 su) := S1
        have bd := wT_bd hn HQ.out.1 HQ.out.2.1 HQ.out.2.2 F F (by omega) (by omega)
        have s1 := HQ.out.1
        have hw1 : IntKind.i64.wrap ((wT su ho m F F).1 + su) = (wT su ho m F F).1 + su := IntWalk.i64_in _ ⟨by omega, by omega⟩
        have hF1 : (F : Int) < (n : Int) + 1 := by omega
        have W3 : (wo.alloc (.cells #[.int .i64 0, .int .i64 0] 139)).drew.cell? ⟨lb + 1 + 1 + 1, F * 2, none⟩ = some (.int .i64 (wT su ho m F F).1) := keep_cell (W := wo) ((Below.refl _ _).alloc (Nat.le_refl _) _).drew W1
        have S3 : (wo.alloc (.cells #[.int .i64 0, .int .i64 0] 139)).drew.cell? ⟨lb, 2, none⟩ = some (.int .i64 su) := keep_cell (W := wo) ((Below.refl _ _).alloc (Nat.le_refl _) _).drew S1
        clear bd s1
        obtain ⟨WF, hWF⟩ : ∃ x, (wT su ho m F F).1 = x := ⟨_, rfl⟩
        have HWF : Hid ((wT su ho m F F).1 = WF ∧ 0 ≤ WF ∧ WF ≤ 2000000000000 * (F : Int)) := hid (by have := wT_bd hn HQ.out.1 HQ.out.2.1 HQ.out.2.2 F F (by omega) (by omega); rw [hWF] at this; exact ⟨hWF, this⟩)
        rw [hWF] at W1 W2 W3 hw1
        clear hWF
        go_wp2
        go_region
        go_wp2
        clear W1 W2 W3 S1 S2 S3 hx0 c0 hw1
        have HST : Hid (Below w.heap.size w (wo.alloc (.cells #[.int .i64 (WF + su), .int .i64 (F : Int)] 139)).drew ∧ CB (wo.alloc (.cells #[.int .i64 (WF + su), .int .i64 (F : Int)] 139)).drew lb #[.int .i64 ki, .int .i64 sz, .int .i64 su, .int .i64 ho] 48 ∧ CB (wo.alloc (.cells #[.int .i64 (WF + su), .int .i64 (F : Int)] 139)).drew (lb + 1) #[.int .i64 0, .int .i64 (-1)] 139 ∧ CB (wo.alloc (.cells #[.int .i64 (WF + su), .int .i64 (F : Int)] 139)).drew wo.heap.size #[.int .i64 (WF + su + ho * kF m F F), .int .i64 (F : Int)] 139 ∧ WW (wo.alloc (.cells #[.int .i64 (WF + su), .int .i64 (F : Int)] 139)).drew (lb + 1 + 1 + 1) n (fun e => if e ≤ F then wT su ho m (F + 1) e else wT su ho m F e)) := hid ⟨(HH.out.1.alloc HH.out.1.size _).drew, HH.out.2.1.alloc _, HH.out.2.2.1.alloc _, by rw [kF_z m F (Nat.le_refl _), Int.mul_zero, Int.add_zero]; exact CB.new _ _, ((HH.out.2.2.2.below ((Below.refl _ _).alloc (Nat.le_refl _) _)).congr (fun e he => by
          by_cases q : e ≤ F
          · rw [if_pos q, wT_s0 su ho (.inr q)]
          · rw [if_neg q]))⟩
        generalize hWV : (wo.alloc (.cells #[.int .i64 (WF + su), .int .i64 (F : Int)] 139)).drew = WV at HST ⊢
        obtain ⟨vb, hvb⟩ : ∃ x, wo.heap.size = x := ⟨_, rfl⟩
        have HVB : Hid (wo.heap.size = vb ∧ lb + 1 + 1 + 1 < vb ∧ w.heap.size ≤ vb) := hid ⟨hvb, by rw [← hvb]; exact HH.out.2.2.2.lt, by rw [← hvb]; exact HH.out.1.size⟩
        rw [hvb] at HST ⊢
        clear hWV hvb HH
        go_loopw [10] (fun u wr => ∃ A : Nat, F ≤ A ∧ A ≤ n ∧ u = .int .i64 (A : Int) ∧ Hid (Below w.heap.size w wr ∧ CB wr lb #[.int .i64 ki, .int .i64 sz, .int .i64 su, .int .i64 ho] 48 ∧ CB wr (lb + 1) #[.int .i64 0, .int .i64 (-1)] 139 ∧ CB wr vb #[.int .i64 (WF + su + ho * kF m F A), .int .i64 (F : Int)] 139 ∧ WW wr (lb + 1 + 1 + 1) n (fun e => if e ≤ A then wT su ho m (F + 1) e else wT su ho m F e))) (fun u _ => n - (intOf u).toNat)
        case atStart => exact ⟨F, Nat.le_refl _, by omega, rfl, HST⟩
        case round =>
          clear HST
          obtain ⟨A, hA1, hA2, rfl, HK⟩ := hrel
          obtain ⟨wi, rfl⟩ : ∃ x, x = wr := ⟨wr, rfl⟩
          by_cases hat : A < n
          · have hat2 : (A : Int) < (n : Int) := by omega
            have hat3 : (A : Int) + 1 < (n : Int) + 1 := by omega
            have m1 : wi.cell? ⟨kb, off + A, none⟩ = some (.int .i64 (m A)) := (HR.out.below HK.out.1).cell hat
            have x1 : wi.cell? ⟨vb, 0, none⟩ = some (.int .i64 (WF + su + ho * kF m F A)) := (HK.out.2.2.2.1.cell 0).trans rfl
            have o1 : wi.cell? ⟨lb, 3, none⟩ = some (.int .i64 ho) := (HK.out.2.1.cell 3).trans rfl
            have f1 : wi.frozen? ⟨vb, 0, none⟩ = false := HK.out.2.2.2.1.fr 0
            have m2 : wi.drew.cell? ⟨kb, off + A, none⟩ = some (.int .i64 (m A)) := m1
            have x2 : wi.drew.cell? ⟨vb, 0, none⟩ = some (.int .i64 (WF + su + ho * kF m F A)) := x1
            have o2 : wi.drew.cell? ⟨lb, 3, none⟩ = some (.int .i64 ho) := o1
            have f2 : wi.drew.frozen? ⟨vb, 0, none⟩ = false := f1
            have q1 := HQ.out.2.2 A hat
            have q2 := HQ.out.1
            have q3 := HQ.out.2.1
            have k1 := hk_bd (f := F) (e := A) q3 (by omega) (fun j hj => HQ.out.2.2 j (by omega))
            have k2 := hk_bd (f := F) (e := A + 1) q3 (by omega) (fun j hj => HQ.out.2.2 j (by omega))
            have wf := HWF.out.2
            have HKE : Hid (ho * kF m F (A + 1) = ho * kF m F A + ho * ((A : Int) - (F : Int)) * m A) := hid (by rw [kF_s m hA1, Int.mul_add, Int.mul_assoc])
            have ke := HKE.out
            have p0 : 0 ≤ ho * ((A : Int) - (F : Int)) := Int.mul_nonneg q3.1 (by omega)
            have p1 : ho * ((A : Int) - (F : Int)) ≤ 1000 * 40 := Int.le_trans (Int.mul_le_mul_of_nonneg_right q3.2 (by omega)) (Int.mul_le_mul_of_nonneg_left (by omega) (by omega))
            have hwa : IntKind.i64.wrap ((A : Int) - (F : Int)) = (A : Int) - (F : Int) := IntWalk.i64_in _ ⟨by omega, by omega⟩
            have hwb : IntKind.i64.wrap (ho * ((A : Int) - (F : Int))) = ho * ((A : Int) - (F : Int)) := IntWalk.i64_in _ ⟨by omega, by omega⟩
            have hwc : IntKind.i64.wrap (ho * ((A : Int) - (F : Int)) * m A) = ho * ((A : Int) - (F : Int)) * m A := IntWalk.i64_in _ ⟨by omega, by omega⟩
            have hwd : IntKind.i64.wrap (WF + su + ho * kF m F A + ho * ((A : Int) - (F : Int)) * m A) = WF + su + ho * kF m F A + ho * ((A : Int) - (F : Int)) * m A := IntWalk.i64_in _ ⟨by omega, by omega⟩
            clear q1 q2 q3 k1 k2 wf ke p0 p1
            go_wp2
            go_region
            go_wp2
            obtain ⟨C, hC⟩ : ∃ x, WF + su + ho * kF m F A + ho * ((A : Int) - (F : Int)) * m A = x := ⟨_, rfl⟩
            have HCE : Hid (C = WF + su + ho * kF m F (A + 1)) := hid (by rw [HKE.out, ← hC]; omega)
            have HV1 : Hid (Below w.heap.size w (wi.setCell ⟨vb, 0, none⟩ (.int .i64 C)).drew ∧ CB (wi.setCell ⟨vb, 0, none⟩ (.int .i64 C)).drew lb #[.int .i64 ki, .int .i64 sz, .int .i64 su, .int .i64 ho] 48 ∧ CB (wi.setCell ⟨vb, 0, none⟩ (.int .i64 C)).drew (lb + 1) #[.int .i64 0, .int .i64 (-1)] 139 ∧ CB (wi.setCell ⟨vb, 0, none⟩ (.int .i64 C)).drew vb #[.int .i64 C, .int .i64 (F : Int)] 139 ∧ WW (wi.setCell ⟨vb, 0, none⟩ (.int .i64 C)).drew (lb + 1 + 1 + 1) n (fun e => if e ≤ A then wT su ho m (F + 1) e else wT su ho m F e)) := hid ⟨(HK.out.1.setCell HVB.out.2.2 _).drew, cb_other HK.out.2.1 _ (by have := HVB.out.2.1; omega), cb_other HK.out.2.2.1 _ (by have := HVB.out.2.1; omega), HK.out.2.2.2.1.set 0 (.int .i64 C), HK.out.2.2.2.2.other _ (by have := HVB.out.2.1; omega)⟩
            rw [hC]
            clear hC m1 x1 o1 f1 m2 x2 o2 f2 hwa hwb hwc hwd HK
            generalize (wi.setCell ⟨vb, 0, none⟩ (.int .i64 C)).drew = V1 at HV1 ⊢
            obtain ⟨t1, t2, t3, t4⟩ := HV1.out.2.2.2.2.cell (e := A + 1) (by omega)
            rw [if_neg (by omega)] at t1 t2
            have n1 : V1.cell? ⟨lb + 1, 0, none⟩ = some (.int .i64 0) := (HV1.out.2.2.1.cell 0).trans rfl
            have n2 : V1.cell? ⟨lb + 1, 1, none⟩ = some (.int .i64 (-1)) := (HV1.out.2.2.1.cell 1).trans rfl
            have y1 : V1.cell? ⟨vb, 0, none⟩ = some (.int .i64 C) := (HV1.out.2.2.2.1.cell 0).trans rfl
            have y2 : V1.cell? ⟨vb, 1, none⟩ = some (.int .i64 (F : Int)) := (HV1.out.2.2.2.1.cell 1).trans rfl
            have HTK : Hid (∀ W, Below w.heap.size w W → CB W lb #[.int .i64 ki, .int .i64 sz, .int .i64 su, .int .i64 ho] 48 → CB W (lb + 1) #[.int .i64 0, .int .i64 (-1)] 139 → CB W vb #[.int .i64 C, .int .i64 (F : Int)] 139 → WW W (lb + 1 + 1 + 1) n (fun e => if e ≤ A + 1 then wT su ho m (F + 1) e else wT su ho m F e) → (Below w.heap.size w W ∧ CB W lb #[.int .i64 ki, .int .i64 sz, .int .i64 su, .int .i64 ho] 48 ∧ CB W (lb + 1) #[.int .i64 0, .int .i64 (-1)] 139 ∧ CB W vb #[.int .i64 (WF + su + ho * kF m F (A + 1)), .int .i64 (F : Int)] 139 ∧ WW W (lb + 1 + 1 + 1) n (fun e => if e ≤ A + 1 then wT su ho m (F + 1) e else wT su ho m F e))) := hid (fun W h1 h2 h3 h4 h5 => ⟨h1, h2, h3, by rw [← HCE.out]; exact h4, h5⟩)
            by_cases hnone : (wT su ho m F (A + 1)).2 = -1
            · have hz := (wT_none su ho m (A + 1) F hnone).1
              rw [hz] at t1 t2
              have HNX : Hid (wT su ho m (F + 1) (A + 1) = (C, (F : Int))) := hid (by rw [wT_s su ho HM0.out (by omega), if_pos (.inl hnone), HWF.out.1, HCE.out])
              clear hz hnone
              go_wp2
              go_quiet (fail)
              go_wp2
              go_roundw
              case rel => exact ⟨A + 1, by omega, by omega, by go_num, hid (HTK.out _ (((bd_N HV1.out.1 _).setCell (by have := HLB.out; show _ ≤ lb + 1 + 1 + 1; omega) _).setCell (by have := HLB.out; show _ ≤ lb + 1 + 1 + 1; omega) _) (cb_other (cb_other (W := V1.drewN _) HV1.out.2.1 _ (by omega)) _ (by omega)) (cb_other (cb_other (W := V1.drewN _) HV1.out.2.2.1 _ (by omega)) _ (by omega)) (cb_other (cb_other (W := V1.drewN _) HV1.out.2.2.2.1 _ (by have := HVB.out.2.1; omega)) _ (by have := HVB.out.2.1; omega)) ((WW.put (W := V1.drewN _) HV1.out.2.2.2.2 (k := A + 1) (by omega) C (F : Int)).congr (fun e he => by
                by_cases q : e = A + 1
                · subst q; rw [if_pos rfl, if_pos (Nat.le_refl _), HNX.out]
                · rw [if_neg q]
                  by_cases q2 : e ≤ A
                  · rw [if_pos q2, if_pos (by omega)]
                  · rw [if_neg q2, if_neg (by omega)])))⟩
              case measure => first | (simp [intOf]; done) | (simp [intOf]; omega)
            · obtain ⟨f, hf, hf2, _, _⟩ := (wT_last su ho m F (A + 1)).resolve_left hnone
              rw [hf] at t2
              have hne : ¬ ((f : Int) = -1) := by omega
              have hne2 : ((f : Int) == -1) = false := by first | (simp; done) | (simp; omega)
              obtain ⟨a, ha⟩ : ∃ x, (wT su ho m F (A + 1)).1 = x := ⟨_, rfl⟩
              rw [ha] at t1
              by_cases hless : C < a
              · have HNX : Hid (wT su ho m (F + 1) (A + 1) = (C, (F : Int))) := hid (by rw [wT_s su ho HM0.out (by omega), if_pos (.inr (by rw [ha, HWF.out.1]; have := HCE.out; omega)), HWF.out.1, HCE.out])
                have hd : decide (C < a) = true := decide_eq_true hless
                clear hnone hf ha hless
                go_wp2
                go_quiet (fail)
                go_wp2
                go_roundw
                case rel => exact ⟨A + 1, by omega, by omega, by go_num, hid (HTK.out _ (((bd_N HV1.out.1 _).setCell (by have := HLB.out; show _ ≤ lb + 1 + 1 + 1; omega) _).setCell (by have := HLB.out; show _ ≤ lb + 1 + 1 + 1; omega) _) (cb_other (cb_other (W := V1.drewN _) HV1.out.2.1 _ (by omega)) _ (by omega)) (cb_other (cb_other (W := V1.drewN _) HV1.out.2.2.1 _ (by omega)) _ (by omega)) (cb_other (cb_other (W := V1.drewN _) HV1.out.2.2.2.1 _ (by have := HVB.out.2.1; omega)) _ (by have := HVB.out.2.1; omega)) ((WW.put (W := V1.drewN _) HV1.out.2.2.2.2 (k := A + 1) (by omega) C (F : Int)).congr (fun e he => by
                  by_cases q : e = A + 1
                  · subst q; rw [if_pos rfl, if_pos (Nat.le_refl _), HNX.out]
                  · rw [if_neg q]
                    by_cases q2 : e ≤ A
                    · rw [if_pos q2, if_pos (by omega)]
                    · rw [if_neg q2, if_neg (by omega)])))⟩
                case measure => first | (simp [intOf]; done) | (simp [intOf]; omega)
              · have HNX : Hid (wT su ho m (F + 1) (A + 1) = wT su ho m F (A + 1)) := hid (by rw [wT_s su ho HM0.out (by omega), if_neg (by rw [ha, HWF.out.1]; have := HCE.out; omega)])
                have hd : decide (C < a) = false := decide_eq_false hless
                clear hnone hf ha hless
                go_wp2
                go_quiet (fail)
                go_wp2
                go_roundw
                case rel => exact ⟨A + 1, by omega, by omega, by go_num, hid (HTK.out _ (bd_N HV1.out.1 _) HV1.out.2.1 HV1.out.2.2.1 HV1.out.2.2.2.1 (WW.congr (W := V1.drewN _) HV1.out.2.2.2.2 (fun e he => by
                  by_cases q : e = A + 1
                  · subst q; rw [if_neg (by omega), if_pos (Nat.le_refl _), HNX.out]
                  · by_cases q2 : e ≤ A
                    · rw [if_pos q2, if_pos (by omega)]
                    · rw [if_neg q2, if_neg (by omega)])))⟩
                case measure => first | (simp [intOf]; done) | (simp [intOf]; omega)
          · obtain rfl : A = n := by omega
            have laa : ¬ (A : Int) < (A : Int) := by omega
            have HN : Hid (Below w.heap.size w wi ∧ CB wi lb #[.int .i64 ki, .int .i64 sz, .int .i64 su, .int .i64 ho] 48 ∧ CB wi (lb + 1) #[.int .i64 0, .int .i64 (-1)] 139 ∧ WW wi (lb + 1 + 1 + 1) A (wT su ho m (F + 1))) := hid ⟨HK.out.1, HK.out.2.1, HK.out.2.2.1, HK.out.2.2.2.2.congr (fun e he => by rw [if_pos he])⟩
            clear HK
            go_wp2
            go_roundw
            case rel => exact ⟨F + 1, by omega, by go_num, HN⟩
            case measure => first | (simp [intOf]; done) | (simp [intOf]; omega)
    · obtain rfl : F = n := by omega
      have lkk : ¬ (F : Int) < (F : Int) := by omega
      go_wp2
      go_returns
      exact ⟨_, rfl, HH.out.2.2.2, HH.out.1⟩
end Go.Proofs.Ytmbdeafpfdeigaa
