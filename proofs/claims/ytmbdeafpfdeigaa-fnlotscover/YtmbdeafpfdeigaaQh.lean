/- Lots that top up: what falls short is ordered, by a lot's size or for a span: the program's closures and topUp over them. -/
import Derived.Test.YtmbdeafpfdeigaaQe
import Derived.Test.YtmbdeafpfdeigaaTi
import Derived.Test.YtmbdeafpfdeigaaKb
namespace Go.Proofs.Ytmbdeafpfdeigaa
open Go Go.ChangeShapes Go.WideShapes Go.ChangeAt Go.RowKit
set_option linter.unusedVariables false
set_option linter.unusedSimpArgs false

/-- Orders by which nothing grows beyond bounds. -/
def GB (n : Nat) (g : Nat → Int → Int) : Prop := ∀ k s, k < n → 0 < s → s ≤ 1000000 → s ≤ g k s ∧ g k s ≤ s + 40000000
theorem gb_tS {n : Nat} {g : Nat → Int → Int} {m : Nat → Int} (hg : GB n g) (hm : ∀ j, j < n → 0 ≤ m j ∧ m j ≤ 1000000) : ∀ k, k ≤ n → 0 ≤ tS g m k ∧ tS g m k ≤ 40000000
  | 0, _ => by simp [tS]
  | k + 1, h => by
    have ih := gb_tS hg hm k (by omega)
    have h1 := hm k (by omega)
    rw [tS_s]
    unfold tO
    split
    · have := hg k (-(tS g m k - m k)) (by omega) (by omega) (by omega)
      omega
    · omega
theorem gb_tO {n : Nat} {g : Nat → Int → Int} {m : Nat → Int} (hg : GB n g) (hm : ∀ j, j < n → 0 ≤ m j ∧ m j ≤ 1000000) {k : Nat} (hk : k < n) : 0 ≤ tO g m k ∧ tO g m k ≤ 41000000 := by
  have a := gb_tS hg hm k (by omega)
  have h1 := hm k hk
  unfold tO
  split
  · have := hg k (-(tS g m k - m k)) hk (by omega) (by omega)
    omega
  · omega
def fxG (size : Int) (_ : Nat) (s : Int) : Int := bat s size * size
def spG (m : Nat → Int) (size : Int) (n k : Nat) (s : Int) : Int := s + (smQ m (min (k + size.toNat) n) - smQ m (k + 1))
theorem gb_fx {n : Nat} {size : Int} (h : 1 ≤ size ∧ size ≤ 1000000) : GB n (fxG size) := fun k s _ h0 h1 => by
  have e := Int.lt_ediv_add_one_mul_self (s + size - 1) (show 0 < size by omega)
  have e2 := Int.ediv_mul_le (s + size - 1) (show size ≠ 0 by omega)
  unfold fxG bat
  rw [Int.add_mul, Int.one_mul] at e
  omega
theorem gb_sp {n : Nat} {m : Nat → Int} {size : Int} (hn : n ≤ 40) (h : 1 ≤ size ∧ size ≤ 1000000) (hm : ∀ j, j < n → 0 ≤ m j ∧ m j ≤ 1000000) : GB n (spG m size n) := fun k s hk h0 h1 => by
  have a : smQ m (k + 1) ≤ smQ m (min (k + size.toNat) n) := smq_mono (k := k + 1) _ (by omega) (fun j hj => (hm j (by omega)).1)
  have b := smq_bd (z := m) (M := 1000000) (k + 1) (fun j hj => hm j (by omega))
  have c := smq_bd (z := m) (M := 1000000) (min (k + size.toNat) n) (fun j hj => hm j (by omega))
  unfold spG
  omega
set_option maxRecDepth 20000 in
set_option maxHeartbeats 2000000 in
theorem fixed_any (pb k : Nat) (s ki sz su ho : Int) (w : World) (h0 : 0 < s) (h1 : s ≤ 1000000) (hz : 1 ≤ sz ∧ sz ≤ 1000000) (hC : CB w pb #[.int .i64 ki, .int .i64 sz, .int .i64 su, .int .i64 ho] 48) :
    Calls Try.prog 139 #[.int .i64 (k : Int), .int .i64 s, .pointer (some ⟨pb, 0, none⟩)] w fun e w' => e = .returned (.int .i64 (fxG sz k s)) ∧ Below w.heap.size w w' := by
  have c1 : w.cell? ⟨pb, 1, none⟩ = some (.int .i64 sz) := (hC.cell 1).trans rfl
  have hd := fun W => divUp_any s sz W (by omega) h1 hz.1 hz.2
  have HD : Hid (∀ W, Calls Try.prog 140 #[.int .i64 s, .int .i64 sz] W fun e w' => e = .returned (.int .i64 (bat s sz)) ∧ w' = W) := hd
  have gb := gb_fx hz 0 s (by omega : 0 < 1) h0 h1
  have hw : IntKind.i64.wrap (bat s sz * sz) = bat s sz * sz := IntWalk.i64_in _ (by show _ ≤ fxG sz 0 s ∧ fxG sz 0 s ≤ _; omega)
  have HV : Hid (bat s sz * sz = fxG sz k s) := rfl
  clear hd gb hC
  go_enter Try.func139, Try.ntmps139
  go_wp2
  go_quiet (first | (go_at_call 140; exact Calls.quiet_of_same (HD.out _)))
  go_wp2
  go_returns
  exact ⟨ret_i HV.out, bd_N (Below.refl _ _) _⟩
theorem slice_IR {w : World} {b off n : Nat} {z : Nat → Int} {i j : Nat} (H : IR w (some ⟨b, off, none⟩) n z) (hi : i ≤ j) (hj : j ≤ n) : IR w (some ⟨b, off + i, none⟩) (j - i) (fun q => z (i + q)) := by
  rcases Nat.eq_zero_or_pos n with h0 | h0
  · exact .inl (by omega)
  · obtain ⟨k, o2, e, hk⟩ := H.addr h0
    cases e
    refine .inr ⟨b, off + i, rfl, hk, fun q hq => ?_⟩
    rw [show off + i + q = off + (i + q) by omega]
    exact H.cell (by omega)
theorem smq_cut (z : Nat → Int) (i : Nat) : ∀ q, smQ (fun q => z (i + q)) q = smQ z (i + q) - smQ z i
  | 0 => by show (0 : Int) = _; simp
  | q + 1 => by rw [smQ_s, smq_cut z i q, show i + (q + 1) = (i + q) + 1 by omega, smQ_s]; omega
set_option maxRecDepth 20000 in
set_option maxHeartbeats 2000000 in
theorem span_any (pb qb k n cap : Nat) (b off : Nat) (m : Nat → Int) (s ki sz su ho : Int) (w : World) (hk : k < n) (hn : n ≤ 40) (hcap : n ≤ cap) (h0 : 0 < s) (h1 : s ≤ 1000000) (hz : 1 ≤ sz ∧ sz ≤ 1000000) (hm : ∀ j, j < n → 0 ≤ m j ∧ m j ≤ 1000000) (hr : IR w (some ⟨b, off, none⟩) n m) (hC : CB w pb #[.int .i64 ki, .int .i64 sz, .int .i64 su, .int .i64 ho] 48) (hQ : w.cell? ⟨qb, 0, none⟩ = some (.slice (some ⟨b, off, none⟩) n cap)) :
    Calls Try.prog 141 #[.int .i64 (k : Int), .int .i64 s, .pointer (some ⟨pb, 0, none⟩), .pointer (some ⟨qb, 0, none⟩)] w fun e w' => e = .returned (.int .i64 (spG m sz n k s)) ∧ Below w.heap.size w w' := by
  have c1 : w.cell? ⟨pb, 1, none⟩ = some (.int .i64 sz) := (hC.cell 1).trans rfl
  obtain ⟨Z, rfl⟩ : ∃ Z : Nat, sz = (Z : Int) := ⟨sz.toNat, by omega⟩
  obtain ⟨E, hE⟩ : ∃ E : Nat, min (k + Z) n = E := ⟨_, rfl⟩
  have hE1 : k + 1 ≤ E ∧ E ≤ n := by omega
  have hw0 : IntKind.i64.wrap ((k : Int) + (Z : Int)) = (k : Int) + (Z : Int) := IntWalk.i64_in _ ⟨by omega, by omega⟩
  have hmin : min ((k : Int) + (Z : Int)) (n : Int) = (E : Int) := by omega
  have HS : Hid (∀ o2 L C : Nat, L = E - (k + 1) → (L = 0 ∨ o2 = off + (k + 1)) → Calls Try.prog 87 #[.slice (some ⟨b, o2, none⟩) L C] w fun e w' => e = .returned (.int .i64 (smQ m E - smQ m (k + 1))) ∧ w' = w) := hid (fun o2 L C hL ho => by
    subst hL
    have hir : IR w (some ⟨b, o2, none⟩) (E - (k + 1)) (fun q => m (k + 1 + q)) := by
      rcases ho with h | h
      · exact .inl h
      · rw [h]; exact slice_IR hr hE1.1 hE1.2
    have := sum_any (some ⟨b, o2, none⟩) (E - (k + 1)) C (fun q => m (k + 1 + q)) w ⟨by omega, fun j hj => by have := hm (k + 1 + j) (by omega); show -100000000 ≤ m (k + 1 + j) ∧ m (k + 1 + j) ≤ 100000000; omega⟩ hir
    rw [smq_cut, show k + 1 + (E - (k + 1)) = E by omega] at this; exact this)
  have b1 := smq_bd (z := m) (M := 1000000) E (fun j hj => hm j (by omega))
  have b2 := smq_bd (z := m) (M := 1000000) (k + 1) (fun j hj => hm j (by omega))
  have hw2 : IntKind.i64.wrap (s + (smQ m E - smQ m (k + 1))) = s + (smQ m E - smQ m (k + 1)) := IntWalk.i64_in _ ⟨by omega, by omega⟩
  have HV : Hid (s + (smQ m E - smQ m (k + 1)) = spG m (Z : Int) n k s) := hid (by unfold spG; rw [show ((Z : Int)).toNat = Z by simp, hE])
  have hk1 : (k : Int) + 1 ≤ (n : Int) := by omega
  have hk2 : (k : Int) + 1 ≤ (k : Int) + (Z : Int) := by omega
  clear hC b1 b2 hr
  generalize smQ m E - smQ m (k + 1) = SU at *
  by_cases hmn : (n : Int) < (k : Int) + (Z : Int)
  · have hcn : (n : Int) ≤ (cap : Int) := by omega
    by_cases hcp : cap = k + 1
    · have H1 : Hid (Calls Try.prog 87 #[.slice (some ⟨b, off, none⟩) (n - (k + 1)) 0] w fun e w' => e = .returned (.int .i64 SU) ∧ w' = w) := hid (HS.out off _ 0 (by omega) (by omega))
      clear HS hE hmin hE1 hm
      go_enter Try.func141, Try.ntmps141
      go_wp2_with (go_at_call 87; refine H1.out.mono ?_; rintro e w1 ⟨rfl, ew⟩; replace ew := ew.symm; subst ew)
      go_returns
      exact ⟨ret_i HV.out, Below.refl _ _⟩
    · have H1 : Hid (Calls Try.prog 87 #[.slice (some ⟨b, off + (k + 1), none⟩) (n - (k + 1)) (cap - (k + 1))] w fun e w' => e = .returned (.int .i64 SU) ∧ w' = w) := hid (HS.out (off + (k + 1)) _ _ (by omega) (by omega))
      clear HS hE hmin hE1 hm
      go_enter Try.func141, Try.ntmps141
      go_wp2_with (go_at_call 87; refine H1.out.mono ?_; rintro e w1 ⟨rfl, ew⟩; replace ew := ew.symm; subst ew)
      go_returns
      exact ⟨ret_i HV.out, Below.refl _ _⟩
  · have hcn : (k : Int) + (Z : Int) ≤ (cap : Int) := by omega
    by_cases hcp : cap = k + 1
    · have H1 : Hid (Calls Try.prog 87 #[.slice (some ⟨b, off, none⟩) (((k : Int) + (Z : Int)).toNat - (k + 1)) 0] w fun e w' => e = .returned (.int .i64 SU) ∧ w' = w) := hid (HS.out off _ 0 (by omega) (by omega))
      clear HS hE hmin hE1 hm
      go_enter Try.func141, Try.ntmps141
      go_wp2_with (go_at_call 87; refine H1.out.mono ?_; rintro e w1 ⟨rfl, ew⟩; replace ew := ew.symm; subst ew)
      go_returns
      exact ⟨ret_i HV.out, Below.refl _ _⟩
    · have H1 : Hid (Calls Try.prog 87 #[.slice (some ⟨b, off + (k + 1), none⟩) (((k : Int) + (Z : Int)).toNat - (k + 1)) (cap - (k + 1))] w fun e w' => e = .returned (.int .i64 SU) ∧ w' = w) := hid (HS.out (off + (k + 1)) _ _ (by omega) (by omega))
      clear HS hE hmin hE1 hm
      go_enter Try.func141, Try.ntmps141
      go_wp2_with (go_at_call 87; refine H1.out.mono ?_; rintro e w1 ⟨rfl, ew⟩; replace ew := ew.symm; subst ew)
      go_returns
      exact ⟨ret_i HV.out, Below.refl _ _⟩
set_option maxRecDepth 20000 in
set_option maxHeartbeats 2000000 in
theorem topUpF_any (ad : Option Addr) (n cap : Nat) (m : Nat → Int) (pb : Nat) (g : Nat → Int → Int) (w : World) (hn : n ≤ 40) (hm : ∀ j, j < n → 0 ≤ m j ∧ m j ≤ 1000000) (hg : GB n g) (hr : IR w ad n m)
    (hF : ∀ (W : World) (k : Nat) (s : Int), Below w.heap.size w W → k < n → 0 < s → s ≤ 1000000 → Calls Try.prog 139 #[.int .i64 (k : Int), .int .i64 s, .pointer (some ⟨pb, 0, none⟩)] W fun e w' => e = .returned (.int .i64 (g k s)) ∧ Below W.heap.size W w') :
    Calls Try.prog 138 #[.slice ad n cap, .func (.func 139) #[] #[.pointer (some ⟨pb, 0, none⟩)]] w fun e w' => e = .returned (.slice (some ⟨w.heap.size, 0, none⟩) n n) ∧ TI w' w.heap.size n (tO g m) ∧ Below w.heap.size w w' := by
  have HR : Hid (IR w ad n m) := hr
  have HF := hid hF
  have HG : Hid (GB n g ∧ ∀ j, j < n → 0 ≤ m j ∧ m j ≤ 1000000) := hid ⟨hg, hm⟩
  have hn1 : (n : Int) ≤ 40 := by omega
  have hmk := mkI n (by omega)
  clear hr hF hg hm
  go_enter Try.func138, Try.ntmps138
  go_wp2
  go_loopw [6, 14] (fun u i wr => ∃ k : Nat, k ≤ n ∧ u = .int .i64 (tS g m k) ∧ i = .int .i64 (k : Int) ∧ Hid (TI wr w.heap.size n (fun j => if j < k then tO g m j else 0) ∧ Below w.heap.size w wr)) (fun _ i _ => n - (intOf i).toNat)
  case atStart => exact ⟨0, Nat.zero_le _, rfl, rfl, hid ⟨(TI.made w n).congr (fun j hj => by simp), (Below.refl _ _).alloc (Nat.le_refl _) _⟩⟩
  case round =>
    obtain ⟨k, hk, rfl, rfl, HH⟩ := hrel
    obtain ⟨wo, rfl⟩ : ∃ x, x = wr := ⟨wr, rfl⟩
    by_cases hlt : k < n
    · have hlt2 : (k : Int) < (n : Int) := by omega
      obtain ⟨kb, off, rfl, hkb⟩ := HR.out.addr (by omega)
      have c1 := (HR.out.below HH.out.2).cell hlt
      have m1 := HG.out.2 k hlt
      have t1 := gb_tS HG.out.1 HG.out.2 k (by omega)
      have t2 := gb_tS HG.out.1 HG.out.2 (k + 1) (by omega)
      have HE1 : Hid (tS g m (k + 1) = tS g m k - m k + tO g m k) := hid (tS_s g m k)
      have hw1 : IntKind.i64.wrap (tS g m k - m k) = tS g m k - m k := IntWalk.i64_in _ ⟨by omega, by omega⟩
      have f1 := HH.out.1.fr k
      have q1 := HH.out.1.cell hlt
      rw [if_neg (by omega)] at q1
      by_cases hs : tS g m k - m k < 0
      · have HO : Hid (tO g m k = g k (-(tS g m k - m k))) := hid (if_pos hs)
        have g1 := HG.out.1 k (-(tS g m k - m k)) hlt (by omega) (by omega)
        have hw2 : IntKind.i64.wrap (-(tS g m k - m k)) = -(tS g m k - m k) := IntWalk.i64_in _ ⟨by omega, by omega⟩
        have hw3 : IntKind.i64.wrap (tS g m k - m k + g k (-(tS g m k - m k))) = tS g m k - m k + g k (-(tS g m k - m k)) := IntWalk.i64_in _ ⟨by omega, by omega⟩
        have HC := hid (HF.out wo k (-(tS g m k - m k)) HH.out.2 hlt (by omega) (by omega))
        rw [HO.out] at HE1
        clear m1 t1 t2 g1
        generalize g k (-(tS g m k - m k)) = G at *
        generalize tS g m k = L at *
        generalize m k = x at *
        go_wp2_with (go_at_call 139; refine HC.out.mono ?_; rintro e w5 ⟨rfl, b5⟩; have H5 : Hid (TI w5 w.heap.size n (fun j => if j < k then tO g m j else 0) ∧ Below w.heap.size w w5) := hid ⟨HH.out.1.below b5, bel_on HH.out.2 b5⟩; have f5 := H5.out.1.fr k; have q5 := H5.out.1.cell hlt; rw [if_neg (by omega)] at q5; have H6 : Hid (TI (w5.setCell ⟨w.heap.size, k, none⟩ (.int .i64 G)) w.heap.size n (fun j => if j < k + 1 then tO g m j else 0) ∧ Below w.heap.size w (w5.setCell ⟨w.heap.size, k, none⟩ (.int .i64 G))) := hid ⟨(H5.out.1.set hlt G).congr (fun j hj => by
            by_cases e : j = k
            · subst e; rw [if_pos rfl, if_pos (by omega), HO.out]
            · rw [if_neg e]
              by_cases e2 : j < k
              · rw [if_pos e2, if_pos (by omega)]
              · rw [if_neg e2, if_neg (by omega)]), H5.out.2.setCell (Nat.le_refl _) _⟩; clear b5)
        go_roundw
        case rel => exact ⟨k + 1, by omega, by rw [HE1.out], by go_num, H6⟩
        case measure => simp [intOf]; omega
      · have HO : Hid (tO g m k = 0) := hid (if_neg hs)
        rw [HO.out] at HE1
        have H6 : Hid (TI wo w.heap.size n (fun j => if j < k + 1 then tO g m j else 0) ∧ Below w.heap.size w wo) := hid ⟨HH.out.1.congr (fun j hj => by
            by_cases e : j = k
            · subst e; rw [if_neg (by omega), if_pos (by omega), HO.out]
            · by_cases e2 : j < k
              · rw [if_pos e2, if_pos (by omega)]
              · rw [if_neg e2, if_neg (by omega)]), HH.out.2⟩
        have HE2 : Hid (tS g m (k + 1) = tS g m k - m k) := hid (by have := HE1.out; omega)
        clear m1 t1 t2 HE1
        generalize tS g m k = L at *
        generalize m k = x at *
        go_wp2
        go_roundw
        case rel => exact ⟨k + 1, by omega, by rw [HE2.out], by go_num, H6⟩
        case measure => simp [intOf]; omega
    · obtain rfl : k = n := by omega
      have lkk : ¬ (k : Int) < (k : Int) := by omega
      have H6 : Hid (TI wo w.heap.size k (tO g m) ∧ Below w.heap.size w wo) := hid ⟨HH.out.1.congr (fun j hj => by rw [if_pos hj]), HH.out.2⟩
      go_wp2
      go_returns
      exact ⟨rfl, H6.out.1, H6.out.2⟩
set_option maxRecDepth 20000 in
set_option maxHeartbeats 2000000 in
theorem topUpS_any (ad : Option Addr) (n cap : Nat) (m : Nat → Int) (pb qb : Nat) (g : Nat → Int → Int) (w : World) (hn : n ≤ 40) (hm : ∀ j, j < n → 0 ≤ m j ∧ m j ≤ 1000000) (hg : GB n g) (hr : IR w ad n m)
    (hF : ∀ (W : World) (k : Nat) (s : Int), Below w.heap.size w W → k < n → 0 < s → s ≤ 1000000 → Calls Try.prog 141 #[.int .i64 (k : Int), .int .i64 s, .pointer (some ⟨pb, 0, none⟩), .pointer (some ⟨qb, 0, none⟩)] W fun e w' => e = .returned (.int .i64 (g k s)) ∧ Below W.heap.size W w') :
    Calls Try.prog 138 #[.slice ad n cap, .func (.func 141) #[] #[.pointer (some ⟨pb, 0, none⟩), .pointer (some ⟨qb, 0, none⟩)]] w fun e w' => e = .returned (.slice (some ⟨w.heap.size, 0, none⟩) n n) ∧ TI w' w.heap.size n (tO g m) ∧ Below w.heap.size w w' := by
  have HR : Hid (IR w ad n m) := hr
  have HF := hid hF
  have HG : Hid (GB n g ∧ ∀ j, j < n → 0 ≤ m j ∧ m j ≤ 1000000) := hid ⟨hg, hm⟩
  have hn1 : (n : Int) ≤ 40 := by omega
  have hmk := mkI n (by omega)
  clear hr hF hg hm
  go_enter Try.func138, Try.ntmps138
  go_wp2
  go_loopw [6, 14] (fun u i wr => ∃ k : Nat, k ≤ n ∧ u = .int .i64 (tS g m k) ∧ i = .int .i64 (k : Int) ∧ Hid (TI wr w.heap.size n (fun j => if j < k then tO g m j else 0) ∧ Below w.heap.size w wr)) (fun _ i _ => n - (intOf i).toNat)
  case atStart => exact ⟨0, Nat.zero_le _, rfl, rfl, hid ⟨(TI.made w n).congr (fun j hj => by simp), (Below.refl _ _).alloc (Nat.le_refl _) _⟩⟩
  case round =>
    obtain ⟨k, hk, rfl, rfl, HH⟩ := hrel
    obtain ⟨wo, rfl⟩ : ∃ x, x = wr := ⟨wr, rfl⟩
    by_cases hlt : k < n
    · have hlt2 : (k : Int) < (n : Int) := by omega
      obtain ⟨kb, off, rfl, hkb⟩ := HR.out.addr (by omega)
      have c1 := (HR.out.below HH.out.2).cell hlt
      have m1 := HG.out.2 k hlt
      have t1 := gb_tS HG.out.1 HG.out.2 k (by omega)
      have t2 := gb_tS HG.out.1 HG.out.2 (k + 1) (by omega)
      have HE1 : Hid (tS g m (k + 1) = tS g m k - m k + tO g m k) := hid (tS_s g m k)
      have hw1 : IntKind.i64.wrap (tS g m k - m k) = tS g m k - m k := IntWalk.i64_in _ ⟨by omega, by omega⟩
      have f1 := HH.out.1.fr k
      have q1 := HH.out.1.cell hlt
      rw [if_neg (by omega)] at q1
      by_cases hs : tS g m k - m k < 0
      · have HO : Hid (tO g m k = g k (-(tS g m k - m k))) := hid (if_pos hs)
        have g1 := HG.out.1 k (-(tS g m k - m k)) hlt (by omega) (by omega)
        have hw2 : IntKind.i64.wrap (-(tS g m k - m k)) = -(tS g m k - m k) := IntWalk.i64_in _ ⟨by omega, by omega⟩
        have hw3 : IntKind.i64.wrap (tS g m k - m k + g k (-(tS g m k - m k))) = tS g m k - m k + g k (-(tS g m k - m k)) := IntWalk.i64_in _ ⟨by omega, by omega⟩
        have HC := hid (HF.out wo k (-(tS g m k - m k)) HH.out.2 hlt (by omega) (by omega))
        rw [HO.out] at HE1
        clear m1 t1 t2 g1
        generalize g k (-(tS g m k - m k)) = G at *
        generalize tS g m k = L at *
        generalize m k = x at *
        go_wp2_with (go_at_call 141; refine HC.out.mono ?_; rintro e w5 ⟨rfl, b5⟩; have H5 : Hid (TI w5 w.heap.size n (fun j => if j < k then tO g m j else 0) ∧ Below w.heap.size w w5) := hid ⟨HH.out.1.below b5, bel_on HH.out.2 b5⟩; have f5 := H5.out.1.fr k; have q5 := H5.out.1.cell hlt; rw [if_neg (by omega)] at q5; have H6 : Hid (TI (w5.setCell ⟨w.heap.size, k, none⟩ (.int .i64 G)) w.heap.size n (fun j => if j < k + 1 then tO g m j else 0) ∧ Below w.heap.size w (w5.setCell ⟨w.heap.size, k, none⟩ (.int .i64 G))) := hid ⟨(H5.out.1.set hlt G).congr (fun j hj => by
            by_cases e : j = k
            · subst e; rw [if_pos rfl, if_pos (by omega), HO.out]
            · rw [if_neg e]
              by_cases e2 : j < k
              · rw [if_pos e2, if_pos (by omega)]
              · rw [if_neg e2, if_neg (by omega)]), H5.out.2.setCell (Nat.le_refl _) _⟩; clear b5)
        go_roundw
        case rel => exact ⟨k + 1, by omega, by rw [HE1.out], by go_num, H6⟩
        case measure => simp [intOf]; omega
      · have HO : Hid (tO g m k = 0) := hid (if_neg hs)
        rw [HO.out] at HE1
        have H6 : Hid (TI wo w.heap.size n (fun j => if j < k + 1 then tO g m j else 0) ∧ Below w.heap.size w wo) := hid ⟨HH.out.1.congr (fun j hj => by
            by_cases e : j = k
            · subst e; rw [if_neg (by omega), if_pos (by omega), HO.out]
            · by_cases e2 : j < k
              · rw [if_pos e2, if_pos (by omega)]
              · rw [if_neg e2, if_neg (by omega)]), HH.out.2⟩
        have HE2 : Hid (tS g m (k + 1) = tS g m k - m k) := hid (by have := HE1.out; omega)
        clear m1 t1 t2 HE1
        generalize tS g m k = L at *
        generalize m k = x at *
        go_wp2
        go_roundw
        case rel => exact ⟨k + 1, by omega, by rw [HE2.out], by go_num, H6⟩
        case measure => simp [intOf]; omega
    · obtain rfl : k = n := by omega
      have lkk : ¬ (k : Int) < (k : Int) := by omega
      have H6 : Hid (TI wo w.heap.size k (tO g m) ∧ Below w.heap.size w wo) := hid ⟨HH.out.1.congr (fun j hj => by rw [if_pos hj]), HH.out.2⟩
      go_wp2
      go_returns
      exact ⟨rfl, H6.out.1, H6.out.2⟩
end Go.Proofs.Ytmbdeafpfdeigaa
