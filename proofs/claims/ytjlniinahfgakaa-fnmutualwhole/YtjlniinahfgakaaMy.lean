/- The program's determinants. -/
import Derived.Test.YtjlniinahfgakaaMx
import Derived.Test.YtjlniinahfgakaaSr
namespace Go.Proofs.Ytjlniinahfgakaa
open Go.ChangeShapes Go.WideShapes Go.ChangeAt Go.RowKit
set_option linter.unusedVariables false
set_option linter.unusedSimpArgs false

/-- The cells of a matrix. -/
def mcs (f : Nat → Nat → Int) : Array Value := #[.int .i64 (f 0 0), .int .i64 (f 0 1), .int .i64 (f 0 2), .int .i64 (f 1 0), .int .i64 (f 1 1), .int .i64 (f 1 2), .int .i64 (f 2 0), .int .i64 (f 2 1), .int .i64 (f 2 2)]
def MB (w : World) (b : Nat) (f : Nat → Nat → Int) : Prop := CB w b (mcs f) 104
theorem mcs_get {f : Nat → Nat → Int} {i j : Nat} (hi : i < 3) (hj : j < 3) : (mcs f)[i * 3 + j]? = some (.int .i64 (f i j)) := by
  match i, j, hi, hj with
  | 0, 0, _, _ => rfl
  | 0, 1, _, _ => rfl
  | 0, 2, _, _ => rfl
  | 1, 0, _, _ => rfl
  | 1, 1, _, _ => rfl
  | 1, 2, _, _ => rfl
  | 2, 0, _, _ => rfl
  | 2, 1, _, _ => rfl
  | 2, 2, _, _ => rfl
  | i + 3, _, h, _ => omega
  | 0, j + 3, _, h => omega
  | 1, j + 3, _, h => omega
  | 2, j + 3, _, h => omega
def kI : Nat → Int
  | 0 => 0
  | 1 => 1
  | 2 => 2
  | _ => 3
def oF (a b c : Bool) : Nat → Bool
  | 0 => a
  | 1 => b
  | _ => c
theorem oF_upd0 (a b c : Bool) : updB (oF a b c) 0 = oF true b c := by funext k; unfold updB; match k with | 0 => rfl | 1 => rfl | k + 2 => rfl
theorem oF_upd1 (a b c : Bool) : updB (oF a b c) 1 = oF a true c := by funext k; unfold updB; match k with | 0 => rfl | 1 => rfl | k + 2 => rfl
/-- Of three columns. -/
theorem dl_congr {f : Nat → Nat → Int} : ∀ (n : Nat) {o o' : Nat → Bool}, (∀ k, k < 3 → o k = o' k) → dl f n o = dl f n o'
  | 0, _, _, _ => rfl
  | n + 1, o, o', h => by
    have e : ∀ k, k < 3 → dl f n (updB o k) = dl f n (updB o' k) := fun k hk => dl_congr n (fun j hj => by unfold updB; split <;> simp_all)
    simp only [dl, dlS]
    rw [h 0 (by omega), h 1 (by omega), h 2 (by omega), e 0 (by omega), e 1 (by omega), e 2 (by omega)]
/-- What stands by while a row is gone through. -/
def BW (f : Nat → Nat → Int) (bm bf : Nat) (a b c : Bool) (B n : Nat) (wr w : World) : Prop :=
  CB wr B #[.bool a, .bool b, .bool c] 115 ∧ MB wr bm f ∧ CB wr bf #[.func (Fn.func 87) #[] #[.pointer (some ⟨bm, 0, none⟩), .pointer (some ⟨bf, 0, none⟩)]] 114 ∧ Below w.heap.size w wr
theorem BW.below {f : Nat → Nat → Int} {bm bf B n : Nat} {a b c : Bool} {wr w W : World} (h : BW f bm bf a b c B n wr w) (k : Below wr.heap.size wr W) : BW f bm bf a b c B n W w := ⟨h.1.below k h.1.lt, h.2.1.below k (CB.lt h.2.1), h.2.2.1.below k h.2.2.1.lt, bel_on h.2.2.2 k⟩
theorem BW.alloc {f : Nat → Nat → Int} {bm bf B n : Nat} {a b c : Bool} {wr w : World} (h : BW f bm bf a b c B n wr w) (o : Obj) : BW f bm bf a b c B n (wr.alloc o) w := h.below ((Below.refl _ _).alloc (Nat.le_refl _) o)

set_option maxRecDepth 20000 in
set_option maxHeartbeats 4000000 in
theorem detBelow_any (f : Nat → Nat → Int) (hf : ∀ i j, -100 ≤ f i j ∧ f i j ≤ 100) (bm bf : Nat) : ∀ (n : Nat), n ≤ 3 → ∀ (a b c : Bool) (w : World), MB w bm f → CB w bf #[.func (Fn.func 87) #[] #[.pointer (some ⟨bm, 0, none⟩), .pointer (some ⟨bf, 0, none⟩)]] 114 →
    Calls Try.prog 87 #[.int .i64 ((3 - n : Nat) : Int), .agg #[.bool a, .bool b, .bool c], .pointer (some ⟨bm, 0, none⟩), .pointer (some ⟨bf, 0, none⟩)] w fun e w' => e = .returned (.int .i64 (dl f n (oF a b c))) ∧ Below w.heap.size w w' := by
  intro n
  induction n with
  | zero =>
    intro _ a b c w hm hc
    clear hm hc
    go_enter Try.func87, Try.ntmps87
    go_wp2
    go_returns
    exact ⟨rfl, (Below.refl _ _).alloc (Nat.le_refl _) _⟩
  | succ n ih =>
    intro hn a b c w hm hc
    obtain ⟨r, hr⟩ : ∃ r, 3 - (n + 1) = r := ⟨_, rfl⟩
    rw [hr]
    have hr2 : 2 - n = r := by omega
    have hr3 : r < 3 := by omega
    have hr4 : (r : Int) < 3 := by omega
    have hr5 : ((r : Int) == 3) = false := by simpa using (by omega : ¬ (r : Int) = 3)
    have HDL : Hid (dl f (n + 1) (oF a b c) = (dlS (f r) (fun j => dl f n (updB (oF a b c) j)) (oF a b c) 3).1) := by rw [← hr2]; exact rfl
    have HDB : Hid (dB n ≤ 90000) := by
      show dB n ≤ 90000
      have : n = 0 ∨ n = 1 ∨ n = 2 := by omega
      rcases this with rfl | rfl | rfl <;> decide
    have hmA := hm.alloc (.cells #[.bool a, .bool b, .bool c] 115 (0, 0))
    have c0 := (CB.cell hmA (r * 3)).trans (mcs_get (i := r) (j := 0) hr3 (by omega))
    have c1 := (CB.cell hmA (r * 3 + 1)).trans (mcs_get hr3 (by omega))
    have c2 := (CB.cell hmA (r * 3 + 2)).trans (mcs_get hr3 (by omega))
    have HW0 : Hid (BW f bm bf a b c w.heap.size n (w.alloc (.cells #[.bool a, .bool b, .bool c] 115 (0, 0))) w) := ⟨CB.new _ _, hmA, hc.alloc _, (Below.refl _ _).alloc (Nat.le_refl _) _⟩
    clear hmA hm hc hr2
    go_enter Try.func87, Try.ntmps87
    go_wp2
    go_loopw [7, 8, 9, 10, 11, 17] (fun v7 v8 _ _ _ v17 wr => ∃ (k : Nat), k ≤ 3 ∧ v17 = .int .i64 (kI k) ∧ v7 = .int .i64 (dlS (f r) (fun j => dl f n (updB (oF a b c) j)) (oF a b c) k).1 ∧ v8 = .int .i64 (dlS (f r) (fun j => dl f n (updB (oF a b c) j)) (oF a b c) k).2 ∧ Hid (BW f bm bf a b c w.heap.size n wr w)) (fun _ _ _ _ _ v17 _ => 3 - (intOf v17).toNat)
    case atStart => exact ⟨0, by omega, rfl, rfl, rfl, HW0⟩
    case round =>
      clear HW0 c0 c1 c2
      obtain ⟨k, hk, rfl, rfl, rfl, HW⟩ := hrel
      by_cases hlt : k < 3
      · have hsb := dlS_bound (M := f r) (D := fun j => dl f n (updB (oF a b c) j)) (o := oF a b c) (B := dB n) (by have := dB_pos n; omega) (fun k => hf _ _) (fun k => dl_bound hf n _) k
        obtain ⟨s1, h1⟩ : ∃ s1, (dlS (f r) (fun j => dl f n (updB (oF a b c) j)) (oF a b c) k).1 = s1 := ⟨_, rfl⟩
        obtain ⟨s2, h2⟩ : ∃ s2, (dlS (f r) (fun j => dl f n (updB (oF a b c) j)) (oF a b c) k).2 = s2 := ⟨_, rfl⟩
        rw [h1, h2] at hsb ⊢
        have HS : Hid (dlS (f r) (fun j => dl f n (updB (oF a b c) j)) (oF a b c) k = (s1, s2)) := by show _ = _; rw [← h1, ← h2]
        have HS2 : Hid (s2 = 1 ∨ s2 = -1) := hsb.1
        have hs3 : -1 ≤ s2 := by omega
        have hs4 : s2 ≤ 1 := by omega
        have hs5 : -27000000 ≤ s1 ∧ s1 ≤ 27000000 := by
          have e1 := HDB.out
          have e2 := hsb.2
          have e3 := dB_pos n
          have e4 : 100 * dB n * (k : Int) ≤ 27000000 := by
            have : k = 0 ∨ k = 1 ∨ k = 2 := by omega
            rcases this with rfl | rfl | rfl <;> omega
          omega
        obtain ⟨hs6, hs7⟩ := hs5
        clear h1 h2 hsb
        rcases (by omega : k = 0 ∨ k = 1 ∨ k = 2) with rfl | rfl | rfl
        · clear hlt hk
          rw [show kI 0 = 0 from rfl]
          have hix : ∀ W : World, (Instr.index 102 (.agg #[.int .i64 (f r 0), .int .i64 (f r 1), .int .i64 (f r 2)]) (.int .i64 0)).run Try.prog W = .ok (.int .i64 (f r 0)) W := fun W => by rfl
          have HD : Hid (updB (oF a b c) 0 = oF true b c) := oF_upd0 a b c
          obtain ⟨D, hD⟩ : ∃ D, dl f n (oF true b c) = D := ⟨_, rfl⟩
          obtain ⟨x, hx⟩ : ∃ x, f r 0 = x := ⟨_, rfl⟩
          have hbd := dl_bound hf n (oF true b c)
          rw [hD] at hbd
          have hxb := hf r 0
          rw [hx] at hxb hix ⊢
          have hml := mul_in (s := s2) (x := x) (d := D) (B := dB n) HS2.out hxb.1 hxb.2 (by have := dB_pos n; omega) hbd.1 hbd.2
          obtain ⟨⟨hm1, hm2⟩, hm3, hm4⟩ := hml
          have hdb2 := HDB.out
          have hm5 : -9000000 ≤ s2 * x * D := by omega
          have hm6 : s2 * x * D ≤ 9000000 := by omega
          cases a with
          | true =>
            have hst : dlS (f r) (fun j => dl f n (updB (oF true b c) j)) (oF true b c) (0 + 1) = (s1, s2) := by
              show (if oF true b c 0 = true then _ else _) = _
              rw [if_pos (by rfl)]; exact HS.out
            have HST : Hid (dlS (f r) (fun j => dl f n (updB (oF true b c) j)) (oF true b c) (0 + 1) = (s1, s2)) := hst
            have y0 := (HW.out.1.cell 0).trans rfl
            clear hst hbd hm1 hm2 hm3 hm4 hdb2 hD hx
            go_wp2
            go_roundw
            case rel => exact ⟨0 + 1, by omega, rfl, by rw [HST.out], by rw [HST.out], HW⟩
            case measure => simp [intOf]
          | false =>
            have hst : dlS (f r) (fun j => dl f n (updB (oF false b c) j)) (oF false b c) (0 + 1) = (s1 + s2 * x * D, -s2) := by
              show (if oF false b c 0 = true then _ else _) = _
              rw [if_neg (by simp [oF]), HS.out]
              show (s1 + s2 * f r 0 * dl f n (updB (oF false b c) 0), -s2) = _
              rw [HD.out, hD, hx]
            have HST : Hid (dlS (f r) (fun j => dl f n (updB (oF false b c) j)) (oF false b c) (0 + 1) = (s1 + s2 * x * D, -s2)) := hst
            have HDD : Hid (dl f n (oF true b c) = D) := hD
            have y0 := (HW.out.1.cell 0).trans rfl
            have y1 := (HW.out.1.cell 1).trans rfl
            have y2 := (HW.out.1.cell 2).trans rfl
            have yf := (HW.out.2.2.1.cell 0).trans rfl
            have hbf := HW.out.2.2.1.lt
            have HWN : Hid (BW f bm bf false b c w.heap.size n (wr.alloc (.cells #[.bool true, .bool b, .bool c] 115 (0, 0))) w) := HW.out.alloc _
            have hrn : (r : Int) + 1 = ((3 - n : Nat) : Int) := by omega
            have HIH : Hid (Calls Try.prog 87 #[.int .i64 ((r : Int) + 1), .agg #[.bool true, .bool b, .bool c], .pointer (some ⟨bm, 0, none⟩), .pointer (some ⟨bf, 0, none⟩)] (wr.alloc (.cells #[.bool true, .bool b, .bool c] 115 (0, 0))) fun e w' => e = .returned (.int .i64 D) ∧ Below (wr.alloc (.cells #[.bool true, .bool b, .bool c] 115 (0, 0))).heap.size (wr.alloc (.cells #[.bool true, .bool b, .bool c] 115 (0, 0))) w') := by rw [hrn, ← hD]; exact ih (by omega) true b c _ HWN.out.2.1 HWN.out.2.2.1
            clear hst hbd hm3 hm4 hdb2 hD hx hrn
            go_wp2_with (go_at_call 87; go_loud (refine HIH.out.mono ?_; rintro e w2 ⟨rfl, b2⟩; have HW2 : Hid (BW f bm bf false b c w.heap.size n w2 w) := HWN.out.below b2; clear b2))
            go_roundw
            case rel => exact ⟨0 + 1, by omega, rfl, by rw [HST.out], by rw [HST.out], HW2⟩
            case measure => simp [intOf]
        · clear hlt hk
          rw [show kI 1 = 1 from rfl]
          have hix : ∀ W : World, (Instr.index 102 (.agg #[.int .i64 (f r 0), .int .i64 (f r 1), .int .i64 (f r 2)]) (.int .i64 1)).run Try.prog W = .ok (.int .i64 (f r 1)) W := fun W => by rfl
          have HD : Hid (updB (oF a b c) 1 = oF a true c) := oF_upd1 a b c
          obtain ⟨D, hD⟩ : ∃ D, dl f n (oF a true c) = D := ⟨_, rfl⟩
          obtain ⟨x, hx⟩ : ∃ x, f r 1 = x := ⟨_, rfl⟩
          have hbd := dl_bound hf n (oF a true c)
          rw [hD] at hbd
          have hxb := hf r 1
          rw [hx] at hxb hix ⊢
          have hml := mul_in (s := s2) (x := x) (d := D) (B := dB n) HS2.out hxb.1 hxb.2 (by have := dB_pos n; omega) hbd.1 hbd.2
          obtain ⟨⟨hm1, hm2⟩, hm3, hm4⟩ := hml
          have hdb2 := HDB.out
          have hm5 : -9000000 ≤ s2 * x * D := by omega
          have hm6 : s2 * x * D ≤ 9000000 := by omega
          cases b with
          | true =>
            have hst : dlS (f r) (fun j => dl f n (updB (oF a true c) j)) (oF a true c) (1 + 1) = (s1, s2) := by
              show (if oF a true c 1 = true then _ else _) = _
              rw [if_pos (by rfl)]; exact HS.out
            have HST : Hid (dlS (f r) (fun j => dl f n (updB (oF a true c) j)) (oF a true c) (1 + 1) = (s1, s2)) := hst
            have y1 := (HW.out.1.cell 1).trans rfl
            clear hst hbd hm1 hm2 hm3 hm4 hdb2 hD hx
            go_wp2
            go_roundw
            case rel => exact ⟨1 + 1, by omega, rfl, by rw [HST.out], by rw [HST.out], HW⟩
            case measure => simp [intOf]
          | false =>
            have hst : dlS (f r) (fun j => dl f n (updB (oF a false c) j)) (oF a false c) (1 + 1) = (s1 + s2 * x * D, -s2) := by
              show (if oF a false c 1 = true then _ else _) = _
              rw [if_neg (by simp [oF]), HS.out]
              show (s1 + s2 * f r 1 * dl f n (updB (oF a false c) 1), -s2) = _
              rw [HD.out, hD, hx]
            have HST : Hid (dlS (f r) (fun j => dl f n (updB (oF a false c) j)) (oF a false c) (1 + 1) = (s1 + s2 * x * D, -s2)) := hst
            have HDD : Hid (dl f n (oF a true c) = D) := hD
            have y0 := (HW.out.1.cell 0).trans rfl
            have y1 := (HW.out.1.cell 1).trans rfl
            have y2 := (HW.out.1.cell 2).trans rfl
            have yf := (HW.out.2.2.1.cell 0).trans rfl
            have hbf := HW.out.2.2.1.lt
            have HWN : Hid (BW f bm bf a false c w.heap.size n (wr.alloc (.cells #[.bool a, .bool true, .bool c] 115 (0, 0))) w) := HW.out.alloc _
            have hrn : (r : Int) + 1 = ((3 - n : Nat) : Int) := by omega
            have HIH : Hid (Calls Try.prog 87 #[.int .i64 ((r : Int) + 1), .agg #[.bool a, .bool true, .bool c], .pointer (some ⟨bm, 0, none⟩), .pointer (some ⟨bf, 0, none⟩)] (wr.alloc (.cells #[.bool a, .bool true, .bool c] 115 (0, 0))) fun e w' => e = .returned (.int .i64 D) ∧ Below (wr.alloc (.cells #[.bool a, .bool true, .bool c] 115 (0, 0))).heap.size (wr.alloc (.cells #[.bool a, .bool true, .bool c] 115 (0, 0))) w') := by rw [hrn, ← hD]; exact ih (by omega) a true c _ HWN.out.2.1 HWN.out.2.2.1
            clear hst hbd hm3 hm4 hdb2 hD hx hrn
            go_wp2_with (go_at_call 87; go_loud (refine HIH.out.mono ?_; rintro e w2 ⟨rfl, b2⟩; have HW2 : Hid (BW f bm bf a false c w.heap.size n w2 w) := HWN.out.below b2; clear b2))
            go_roundw
            case rel => exact ⟨1 + 1, by omega, rfl, by rw [HST.out], by rw [HST.out], HW2⟩
            case measure => simp [intOf]
        · clear hlt hk
          rw [show kI 2 = 2 from rfl]
          have hix : ∀ W : World, (Instr.index 102 (.agg #[.int .i64 (f r 0), .int .i64 (f r 1), .int .i64 (f r 2)]) (.int .i64 2)).run Try.prog W = .ok (.int .i64 (f r 2)) W := fun W => by rfl
          have HD : Hid (dl f n (updB (oF a b c) 2) = dl f n (oF a b true)) := dl_congr n (fun k hk => by unfold updB; match k, hk with | 0, _ => rfl | 1, _ => rfl | 2, _ => rfl)
          obtain ⟨D, hD⟩ : ∃ D, dl f n (oF a b true) = D := ⟨_, rfl⟩
          obtain ⟨x, hx⟩ : ∃ x, f r 2 = x := ⟨_, rfl⟩
          have hbd := dl_bound hf n (oF a b true)
          rw [hD] at hbd
          have hxb := hf r 2
          rw [hx] at hxb hix ⊢
          have hml := mul_in (s := s2) (x := x) (d := D) (B := dB n) HS2.out hxb.1 hxb.2 (by have := dB_pos n; omega) hbd.1 hbd.2
          obtain ⟨⟨hm1, hm2⟩, hm3, hm4⟩ := hml
          have hdb2 := HDB.out
          have hm5 : -9000000 ≤ s2 * x * D := by omega
          have hm6 : s2 * x * D ≤ 9000000 := by omega
          cases c with
          | true =>
            have hst : dlS (f r) (fun j => dl f n (updB (oF a b true) j)) (oF a b true) (2 + 1) = (s1, s2) := by
              show (if oF a b true 2 = true then _ else _) = _
              rw [if_pos (by rfl)]; exact HS.out
            have HST : Hid (dlS (f r) (fun j => dl f n (updB (oF a b true) j)) (oF a b true) (2 + 1) = (s1, s2)) := hst
            have y2 := (HW.out.1.cell 2).trans rfl
            clear hst hbd hm1 hm2 hm3 hm4 hdb2 hD hx
            go_wp2
            go_roundw
            case rel => exact ⟨2 + 1, by omega, rfl, by rw [HST.out], by rw [HST.out], HW⟩
            case measure => simp [intOf]
          | false =>
            have hst : dlS (f r) (fun j => dl f n (updB (oF a b false) j)) (oF a b false) (2 + 1) = (s1 + s2 * x * D, -s2) := by
              show (if oF a b false 2 = true then _ else _) = _
              rw [if_neg (by simp [oF]), HS.out]
              show (s1 + s2 * f r 2 * dl f n (updB (oF a b false) 2), -s2) = _
              rw [HD.out, hD, hx]
            have HST : Hid (dlS (f r) (fun j => dl f n (updB (oF a b false) j)) (oF a b false) (2 + 1) = (s1 + s2 * x * D, -s2)) := hst
            have HDD : Hid (dl f n (oF a b true) = D) := hD
            have y0 := (HW.out.1.cell 0).trans rfl
            have y1 := (HW.out.1.cell 1).trans rfl
            have y2 := (HW.out.1.cell 2).trans rfl
            have yf := (HW.out.2.2.1.cell 0).trans rfl
            have hbf := HW.out.2.2.1.lt
            have HWN : Hid (BW f bm bf a b false w.heap.size n (wr.alloc (.cells #[.bool a, .bool b, .bool true] 115 (0, 0))) w) := HW.out.alloc _
            have hrn : (r : Int) + 1 = ((3 - n : Nat) : Int) := by omega
            have HIH : Hid (Calls Try.prog 87 #[.int .i64 ((r : Int) + 1), .agg #[.bool a, .bool b, .bool true], .pointer (some ⟨bm, 0, none⟩), .pointer (some ⟨bf, 0, none⟩)] (wr.alloc (.cells #[.bool a, .bool b, .bool true] 115 (0, 0))) fun e w' => e = .returned (.int .i64 D) ∧ Below (wr.alloc (.cells #[.bool a, .bool b, .bool true] 115 (0, 0))).heap.size (wr.alloc (.cells #[.bool a, .bool b, .bool true] 115 (0, 0))) w') := by rw [hrn, ← hD]; exact ih (by omega) a b true _ HWN.out.2.1 HWN.out.2.2.1
            clear hst hbd hm3 hm4 hdb2 hD hx hrn
            go_wp2_with (go_at_call 87; go_loud (refine HIH.out.mono ?_; rintro e w2 ⟨rfl, b2⟩; have HW2 : Hid (BW f bm bf a b false w.heap.size n w2 w) := HWN.out.below b2; clear b2))
            go_roundw
            case rel => exact ⟨2 + 1, by omega, rfl, by rw [HST.out], by rw [HST.out], HW2⟩
            case measure => simp [intOf]
      · obtain rfl : k = 3 := by omega
        rw [show kI 3 = 3 from rfl]
        have HF := HDL
        go_wp2
        go_returns
        exact ⟨by rw [HF.out]; rfl, HW.out.2.2.2⟩
end Go.Proofs.Ytjlniinahfgakaa
