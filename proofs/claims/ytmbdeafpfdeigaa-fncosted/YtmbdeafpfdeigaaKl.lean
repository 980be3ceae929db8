/- Needs and Explode of the model. -/
import Derived.Test.YtmbdeafpfdeigaaKk
namespace Go.Proofs.Ytmbdeafpfdeigaa
open Go Go.ChangeShapes Go.WideShapes Go.ChangeAt Go.RowKit
set_option linter.unusedVariables false
set_option linter.unusedSimpArgs false

def snF (c : Nat → IT) (d : Int) (p : Nat) (f : Nat → Int) : Nat → (Nat → Int)
  | 0 => f
  | k + 1 => nS c d (snF c d p f k) (p + k)
def snB (c : Nat → IT) (d : Int) (p : Nat) (f : Nat → Int) : Nat → Bool
  | 0 => true
  | k + 1 => snB c d p f k && nO c d (snF c d p f k) (p + k)
theorem sn_front (c : Nat → IT) (d : Int) (p : Nat) (f : Nat → Int) : ∀ r, snF c d p f (r + 1) = snF c d (p + 1) (nS c d f p) r ∧ snB c d p f (r + 1) = (nO c d f p && snB c d (p + 1) (nS c d f p) r)
  | 0 => ⟨rfl, by show (true && _) = (_ && true); rw [Bool.true_and, Bool.and_true]; rfl⟩
  | r + 1 => by
    obtain ⟨e1, e2⟩ := sn_front c d p f r
    refine ⟨?_, ?_⟩
    · show nS c d (snF c d p f (r + 1)) (p + (r + 1)) = nS c d (snF c d (p + 1) (nS c d f p) r) (p + 1 + r)
      rw [e1, show p + (r + 1) = p + 1 + r by omega]
    · show (snB c d p f (r + 1) && nO c d (snF c d p f (r + 1)) (p + (r + 1))) = (nO c d f p && (snB c d (p + 1) (nS c d f p) r && nO c d (snF c d (p + 1) (nS c d f p) r) (p + 1 + r)))
      rw [e1, e2, show p + (r + 1) = p + 1 + r by omega, Bool.and_assoc]
theorem nd_sn (c : Nat → IT) (d : Int) : ∀ r p f, ndF c d r p f = snF c d p f r ∧ ndB c d r p f = snB c d p f r
  | 0, _, _ => ⟨rfl, rfl⟩
  | r + 1, p, f => by
    obtain ⟨e1, e2⟩ := nd_sn c d r (p + 1) (nS c d f p)
    obtain ⟨g1, g2⟩ := sn_front c d p f r
    exact ⟨by rw [g1]; exact e1, by rw [g2, ← e2]; rfl⟩
theorem snF_q {c : Nat → IT} {d : Int} {p : Nat} {f : Nat → Int} (hf : FQ f) : ∀ k, snB c d p f k = true → FQ (snF c d p f k)
  | 0, _ => hf
  | k + 1, h => by
    simp only [snB, Bool.and_eq_true] at h
    exact nS_q (snF_q hf k h.1) h.2
theorem snB_mono {c : Nat → IT} {d : Int} {p : Nat} {f : Nat → Int} {k : Nat} : ∀ m, k ≤ m → snB c d p f k = false → snB c d p f m = false
  | 0, h, h1 => by obtain rfl : k = 0 := by omega
                   exact h1
  | m + 1, h, h1 => by
    by_cases e : k = m + 1
    · subst e; exact h1
    · show (snB c d p f m && _) = false
      rw [snB_mono m (by omega) h1]; rfl
set_option maxRecDepth 20000 in
set_option maxHeartbeats 4000000 in
theorem l17Asked_eq (ad : Option Addr) (n cap : Nat) (c : Nat → IT) (a q d : Int) (v : Bool) (w : World) (h : (n : Int) ≤ 1048576) (hz : IZ n c) (hr : ITr w ad n c) (hv : akB n c a q d = v) :
    Calls Try.prog 56 #[.slice ad n cap, .int .i64 a, .int .i64 q, .int .i64 d] w fun e w' => e = .returned (.bool v) ∧ Below w.heap.size w w' := by
  have HR : Hid (ITr w ad n c) := hr
  have HZ : Hid (IZ n c) := hz
  subst hv
  clear hr hz
  cases h1 : isB n c
  · skip
    have HV : Hid (false = akB n c a q d) := hid (by simp [akB, h1])
    go_enter Try.func56, Try.ntmps56
    go_wp2_with (first | (go_at_call 31; refine (specItems_eq ad n cap c _ _ h HZ.out HR.out h1).mono ?_; rintro e w1 ⟨rfl, b1⟩; have HB1 : Hid (Below w.heap.size w w1) := b1; clear b1) | (go_at_call 67; refine (l1In_eq _ _ _ _ _ h2).mono ?_; rintro e w2 ⟨rfl, ew⟩; replace ew := ew.symm; subst ew) | (go_at_call 96; refine (l12Qty_eq _ _ _ h3).mono ?_; rintro e w3 ⟨rfl, ew⟩; replace ew := ew.symm; subst ew) | (go_at_call 106; refine (l2Day_eq _ _ _ h4).mono ?_; rintro e w4 ⟨rfl, ew⟩; replace ew := ew.symm; subst ew))
    go_returns
    exact ⟨ret_bool HV.out, HB1.out⟩
  cases h2 : inB a 0 ((n : Int) - 1)
  · skip
    have HV : Hid (false = akB n c a q d) := hid (by simp [akB, h1, h2])
    go_enter Try.func56, Try.ntmps56
    go_wp2_with (first | (go_at_call 31; refine (specItems_eq ad n cap c _ _ h HZ.out HR.out h1).mono ?_; rintro e w1 ⟨rfl, b1⟩; have HB1 : Hid (Below w.heap.size w w1) := b1; clear b1) | (go_at_call 67; refine (l1In_eq _ _ _ _ _ h2).mono ?_; rintro e w2 ⟨rfl, ew⟩; replace ew := ew.symm; subst ew) | (go_at_call 96; refine (l12Qty_eq _ _ _ h3).mono ?_; rintro e w3 ⟨rfl, ew⟩; replace ew := ew.symm; subst ew) | (go_at_call 106; refine (l2Day_eq _ _ _ h4).mono ?_; rintro e w4 ⟨rfl, ew⟩; replace ew := ew.symm; subst ew))
    go_returns
    exact ⟨ret_bool HV.out, HB1.out⟩
  cases h3 : inB q 0 1000000
  · skip
    have HV : Hid (false = akB n c a q d) := hid (by simp [akB, h1, h2, h3])
    go_enter Try.func56, Try.ntmps56
    go_wp2_with (first | (go_at_call 31; refine (specItems_eq ad n cap c _ _ h HZ.out HR.out h1).mono ?_; rintro e w1 ⟨rfl, b1⟩; have HB1 : Hid (Below w.heap.size w w1) := b1; clear b1) | (go_at_call 67; refine (l1In_eq _ _ _ _ _ h2).mono ?_; rintro e w2 ⟨rfl, ew⟩; replace ew := ew.symm; subst ew) | (go_at_call 96; refine (l12Qty_eq _ _ _ h3).mono ?_; rintro e w3 ⟨rfl, ew⟩; replace ew := ew.symm; subst ew) | (go_at_call 106; refine (l2Day_eq _ _ _ h4).mono ?_; rintro e w4 ⟨rfl, ew⟩; replace ew := ew.symm; subst ew))
    go_returns
    exact ⟨ret_bool HV.out, HB1.out⟩
  cases h4 : inB d 0 40000
  · skip
    have HV : Hid (false = akB n c a q d) := hid (by simp [akB, h1, h2, h3, h4])
    go_enter Try.func56, Try.ntmps56
    go_wp2_with (first | (go_at_call 31; refine (specItems_eq ad n cap c _ _ h HZ.out HR.out h1).mono ?_; rintro e w1 ⟨rfl, b1⟩; have HB1 : Hid (Below w.heap.size w w1) := b1; clear b1) | (go_at_call 67; refine (l1In_eq _ _ _ _ _ h2).mono ?_; rintro e w2 ⟨rfl, ew⟩; replace ew := ew.symm; subst ew) | (go_at_call 96; refine (l12Qty_eq _ _ _ h3).mono ?_; rintro e w3 ⟨rfl, ew⟩; replace ew := ew.symm; subst ew) | (go_at_call 106; refine (l2Day_eq _ _ _ h4).mono ?_; rintro e w4 ⟨rfl, ew⟩; replace ew := ew.symm; subst ew))
    go_returns
    exact ⟨ret_bool HV.out, HB1.out⟩
  skip
  have HV : Hid (true = akB n c a q d) := hid (by simp [akB, h1, h2, h3, h4])
  go_enter Try.func56, Try.ntmps56
  go_wp2_with (first | (go_at_call 31; refine (specItems_eq ad n cap c _ _ h HZ.out HR.out h1).mono ?_; rintro e w1 ⟨rfl, b1⟩; have HB1 : Hid (Below w.heap.size w w1) := b1; clear b1) | (go_at_call 67; refine (l1In_eq _ _ _ _ _ h2).mono ?_; rintro e w2 ⟨rfl, ew⟩; replace ew := ew.symm; subst ew) | (go_at_call 96; refine (l12Qty_eq _ _ _ h3).mono ?_; rintro e w3 ⟨rfl, ew⟩; replace ew := ew.symm; subst ew) | (go_at_call 106; refine (l2Day_eq _ _ _ h4).mono ?_; rintro e w4 ⟨rfl, ew⟩; replace ew := ew.symm; subst ew))
  go_returns
  exact ⟨ret_bool HV.out, HB1.out⟩
set_option maxRecDepth 20000 in
set_option maxHeartbeats 8000000 in
theorem specNeeds_any (ad : Option Addr) (n cap : Nat) (c : Nat → IT) (a q d : Int) (w : World) (h : (n : Int) ≤ 1048576) (hz : IZ n c) (hr : ITr w ad n c) :
    Calls Try.prog 19 #[.slice ad n cap, .int .i64 a, .int .i64 q, .int .i64 d] w fun e w' => ∃ ad cap, e = .returned (.tuple #[.slice ad (rkM neB n c a q d) cap, .bool (rkB neB n c a q d)]) ∧ OwnI w' w.heap.size ad (rkM neB n c a q d) (neF n c d a.toNat q) ∧ Below w.heap.size w w' := by
  have HR : Hid (ITr w ad n c) := hr
  have HZ : Hid (IZ n c) := hz
  have HFA : Hid (rkB neB n c a q d = false → rkM neB n c a q d = 0) := hid (fun q => by unfold rkM; rw [q]; rfl)
  clear hr hz
  cases hak : akB n c a q d
  · have HV : Hid (rkB neB n c a q d = false ∧ rkM neB n c a q d = 0) := hid (by
      have e : rkB neB n c a q d = false := by simp [rkB, hak]
      exact ⟨e, HFA.out e⟩)
    have HAK : Hid (akB n c a q d = false) := hak
    rw [HV.out.1, HV.out.2]
    clear hak
    go_enter Try.func19, Try.ntmps19
    go_wp2_with (go_at_call 56; refine (l17Asked_eq ad n cap c a q d _ _ h HZ.out HR.out HAK.out).mono ?_; rintro e w1 ⟨rfl, b1⟩; have HB1 : Hid (Below w.heap.size w w1) := b1; clear b1)
    go_returns
    exact ⟨_, _, rfl, .inl rfl, bel_on HB1.out ((Below.refl _ _).alloc (Nat.le_refl _) _)⟩
  have HAK : Hid (akB n c a q d = true) := hak
  obtain ⟨hI, ⟨ha0, ha1⟩, ⟨hq0, hq1⟩, _⟩ := akB_p hak
  obtain ⟨i, rfl⟩ : ∃ i : Nat, a = (i : Int) := ⟨a.toNat, by omega⟩
  have hi : i < n := by omega
  have hi2 : (i : Int) < (n : Int) := by omega
  have hn60 : (n : Int) ≤ 60 := by have := (isB_p hI).1; omega
  have hmk := mkI n (by omega)
  simp only [Int.toNat_natCast]
  have HRB : Hid (rkB neB n c (i : Int) q d = neB n c d i q ∧ rkM neB n c (i : Int) q d = if neB n c d i q = true then n else 0) := hid (by
    have e : rkB neB n c (i : Int) q d = neB n c d i q := by unfold rkB; rw [hak, Int.toNat_natCast]; rfl
    exact ⟨e, by unfold rkM; rw [e]⟩)
  rw [HRB.out.1, HRB.out.2]
  have HMK : Hid (∀ w1 : World, Below w.heap.size w w1 → IB (w1.alloc (.cells (zeros n) 3)) w1.heap.size n z0 ∧ ItS w1.heap.size (w1.alloc (.cells (zeros n) 3)) ad n c) := hid (fun w1 b => ⟨⟨zeros n, CB.new _ _, fun j hj => zeros_get hj⟩, ⟨w, b.size, HR.out, bel_on b ((Below.refl _ _).alloc (Nat.le_refl _) _)⟩⟩)
  have HEND : Hid (∀ w1 W : World, Below w.heap.size w w1 → Bt w1.heap.size (w1.alloc (.cells (zeros n) 3)) W → Below w.heap.size w W) := hid (fun w1 W b k => (bel_on b ((Below.refl _ _).alloc (Nat.le_refl _) _)).trans (k.2.mono b.size))
  clear hak ha0 ha1 HRB HFA
  unfold neB neF
  obtain ⟨e1, e2⟩ := nd_sn c d (n - (i + 1)) (i + 1) (xpF c d z0 i q)
  rw [e1, e2]
  clear e1 e2
  have HXQ : Hid (xpB c d z0 i q = true → FQ (xpF c d z0 i q)) := hid (fun h => xpF_q (n := 0) z0_q h)
  have HX1 : Hid (∀ w1 : World, Below w.heap.size w w1 → Calls Try.prog 57 #[.slice (some ⟨w1.heap.size, 0, none⟩) n n, .slice ad n cap, .int .i64 (i : Int), .int .i64 q, .int .i64 d] (w1.alloc (.cells (zeros n) 3)) (XpP n w1.heap.size (xpF c d z0 i q) (xpB c d z0 i q) (w1.alloc (.cells (zeros n) 3)))) := hid (fun w1 b => l17Expand_any ad n cap n c d _ z0 i q _ hI (HMK.out w1 b).1 (HMK.out w1 b).2 z0_q hi hq0 hq1)
  generalize xpF c d z0 i q = G at *
  generalize xpB c d z0 i q = B at *
  have hw1 : IntKind.i64.wrap ((i : Int) + 1) = ((i + 1 : Nat) : Int) := by rw [IntWalk.i64_in _ ⟨by omega, by omega⟩]; omega
  have HII : Hid (isB n c = true) := hI
  clear hI hq0 hq1
  obtain ⟨TV, hTV⟩ : ∃ b, (B && snB c d (i + 1) G (n - (i + 1))) = b := ⟨_, rfl⟩
  obtain ⟨FR, hFR⟩ : ∃ f, snF c d (i + 1) G (n - (i + 1)) = f := ⟨_, rfl⟩
  rw [hTV, hFR]
  obtain ⟨M, hM⟩ : ∃ m, (if TV = true then n else 0) = m := ⟨_, rfl⟩
  rw [hM]
  have HTV : Hid ((B && snB c d (i + 1) G (n - (i + 1))) = TV) := hTV
  have HFR : Hid (snF c d (i + 1) G (n - (i + 1)) = FR) := hFR
  have HMM : Hid ((if TV = true then n else 0) = M) := hM
  clear hTV hFR hM
  go_enter Try.func19, Try.ntmps19
  go_wp2_with (first
    | (go_at_call 56; refine (l17Asked_eq ad n cap c (i : Int) q d _ _ h HZ.out HR.out HAK.out).mono ?_; rintro e w1 ⟨rfl, b1⟩; have HB1 : Hid (Below w.heap.size w w1) := b1; clear b1)
    | (go_at_call 57; refine (HX1.out w1 HB1.out).mono ?_; rintro e w2 ⟨rfl, b2, g2⟩; have H2 : Hid (Bt w1.heap.size (w1.alloc (.cells (zeros n) 3)) w2 ∧ (B = true → IB w2 w1.heap.size n G)) := hid ⟨b2, g2⟩; clear b2 g2))
  have HIT : Hid (∀ W, Bt w1.heap.size (w1.alloc (.cells (zeros n) 3)) W → ItS w1.heap.size W ad n c ∧ Below w.heap.size w W) := hid (fun W b => ⟨((HMK.out w1 HB1.out).2).on b, HEND.out w1 W HB1.out b⟩)
  have HLW : Hid (w.heap.size ≤ w1.heap.size) := HB1.out.size
  clear HX1 HMK HEND HB1
  generalize w1.alloc (.cells (zeros n) 3) = WA at H2 HIT
  generalize w1.heap.size = LB at H2 HIT HLW ⊢
  have H3 : Hid ((B = true → IB w2 LB n (snF c d (i + 1) G 0)) ∧ Bt LB WA w2) := hid ⟨H2.out.2, H2.out.1⟩
  clear H2
  go_loopw [11, 12] (fun o v wr => ∃ (k : Nat) (b : Bool), i + 1 + k ≤ n ∧ v = .int .i64 ((i + 1 + k : Nat) : Int) ∧ o = .bool b ∧ Hid ((B && snB c d (i + 1) G k) = b ∧ (b = true → IB wr LB n (snF c d (i + 1) G k)) ∧ Bt LB WA wr)) (fun _ v _ => n - (intOf v).toNat)
  case atStart => exact ⟨0, B, by omega, by go_num, rfl, hid ⟨by show (B && true) = B; rw [Bool.and_true], H3.out.1, H3.out.2⟩⟩
  case round =>
    clear H3
    obtain ⟨k, b, hk, rfl, rfl, HH⟩ := hrel
    obtain ⟨wo, rfl⟩ : ∃ x, x = wr := ⟨wr, rfl⟩
    obtain ⟨p, hp⟩ : ∃ p, i + 1 + k = p := ⟨_, rfl⟩
    have HPP : Hid (i + 1 + k = p) := hp
    rw [hp] at hk ⊢
    clear hp
    cases b
    · have HV : Hid ((B && snB c d (i + 1) G (n - (i + 1))) = false) := hid (by
        have e := HH.out.1
        cases B
        · rfl
        · rw [Bool.true_and] at e ⊢; exact snB_mono _ (by have := HPP.out; omega) e)
      obtain rfl : TV = false := HTV.out.symm.trans HV.out
      obtain rfl : M = 0 := HMM.out.symm
      have HBW := hid (HIT.out wo HH.out.2.2).2
      by_cases hlt : p < n
      · have hlt2 : (p : Int) < (n : Int) := by omega
        go_wp2
        go_returns
        first | exact ⟨_, ⟨_, rfl⟩, .inl rfl, bel_on HBW.out ((Below.refl _ _).alloc (Nat.le_refl _) _)⟩ | exact ⟨_, _, rfl, .inl rfl, bel_on HBW.out ((Below.refl _ _).alloc (Nat.le_refl _) _)⟩ | exact ⟨_, _, .inl rfl, bel_on HBW.out ((Below.refl _ _).alloc (Nat.le_refl _) _)⟩
      · have hlt2 : ¬ (p : Int) < (n : Int) := by omega
        go_wp2
        go_returns
        first | exact ⟨_, ⟨_, rfl⟩, .inl rfl, bel_on HBW.out ((Below.refl _ _).alloc (Nat.le_refl _) _)⟩ | exact ⟨_, _, rfl, .inl rfl, bel_on HBW.out ((Below.refl _ _).alloc (Nat.le_refl _) _)⟩ | exact ⟨_, _, .inl rfl, bel_on HBW.out ((Below.refl _ _).alloc (Nat.le_refl _) _)⟩
    · obtain ⟨hB, hsb⟩ : B = true ∧ snB c d (i + 1) G k = true := by have := HH.out.1; simpa using this
      have HSB : Hid (snB c d (i + 1) G k = true) := hsb
      have HBt : Hid (B = true) := hB
      have HIB : Hid (IB wo LB n (snF c d (i + 1) G k) ∧ Bt LB WA wo) := hid ⟨HH.out.2.1 rfl, HH.out.2.2⟩
      have HFQ : Hid (FQ (snF c d (i + 1) G k)) := hid (snF_q (HXQ.out hB) k hsb)
      clear hB hsb HH
      by_cases hlt : p < n
      · have hlt2 : (p : Int) < (n : Int) := by omega
        have hIT := (HIT.out wo HIB.out.2).1
        have HITS := hid hIT
        obtain ⟨w0, hw0, hI0, hBw0⟩ := hIT
        obtain ⟨kb, off, rfl, hkb⟩ := hI0.addr (by omega)
        obtain ⟨ra, rc, sa, sc, _, _, c0, c1, c2, c3, c4, r5, r6⟩ := hI0.cell hlt
        have d2 := keep_cell hBw0 c2
        have HN1 : Hid (∀ (W : World) (b : Bool), nO c d (snF c d (i + 1) G k) p = b → (b = true → IB W LB n (nS c d (snF c d (i + 1) G k) p)) → Bt LB WA W → ((B && snB c d (i + 1) G (k + 1)) = b ∧ (b = true → IB W LB n (snF c d (i + 1) G (k + 1))) ∧ Bt LB WA W)) := hid (fun W b e1 e2 e3 => ⟨by
          rw [HBt.out]
          show (snB c d (i + 1) G k && nO c d (snF c d (i + 1) G k) (i + 1 + k)) = b
          rw [HSB.out, HPP.out, e1]; rfl, fun h => by show IB W LB n (nS c d (snF c d (i + 1) G k) (i + 1 + k)); rw [HPP.out]; exact e2 h, e3⟩)
        clear c0 c1 c2 c3 c4 r5 r6 hw0 hI0 hBw0 hkb HIT
        generalize snF c d (i + 1) G k = g at HIB HFQ HN1
        have cl := HIB.out.1.cell hlt
        have fl := HIB.out.1.fr p
        have hg := HFQ.out p
        by_cases hy : (c p).pha = true ∧ 0 < g p
        · obtain ⟨y1, y2⟩ := nS_yes (c := c) (d := d) hy
          have HST : Hid (IB (wo.setCell ⟨LB, p, none⟩ (.int .i64 0)) LB n (upI g p 0) ∧ Bt LB WA (wo.setCell ⟨LB, p, none⟩ (.int .i64 0)) ∧ ItS LB (wo.setCell ⟨LB, p, none⟩ (.int .i64 0)) (some ⟨kb, off, none⟩) n c) := hid ⟨HIB.out.1.set hlt 0, HIB.out.2.set _ _, (HITS.out).on ((Bt.refl _ _).set _ _)⟩
          have HXE : Hid (Calls Try.prog 57 #[.slice (some ⟨LB, 0, none⟩) n n, .slice (some ⟨kb, off, none⟩) n cap, .int .i64 (p : Int), .int .i64 (g p), .int .i64 d] (wo.setCell ⟨LB, p, none⟩ (.int .i64 0)) (XpP n LB (nS c d g p) (nO c d g p) (wo.setCell ⟨LB, p, none⟩ (.int .i64 0)))) := hid (by rw [y1, y2]; exact l17Expand_any _ n cap n c d LB _ p _ _ HII.out HST.out.1 HST.out.2.2 (HFQ.out.up p (Int.le_refl _) (by omega)) hlt hg.1 hg.2)
          have hph := hy.1
          have hgp := hy.2
          rw [hph] at d2
          clear y1 y2 hy hph
          generalize nS c d g p = G2 at HXE HN1
          generalize nO c d g p = O2 at HXE HN1
          generalize g p = X at cl hg HXE hgp
          have d0 : decide (0 < X) = true := decide_eq_true hgp
          go_wp2_with (go_at_call 57; refine HXE.out.mono ?_; rintro e w5 ⟨rfl, b5, g5⟩; have H5 : Hid (Bt LB WA w5 ∧ (O2 = true → IB w5 LB n G2)) := hid ⟨HST.out.2.1.trans b5, g5⟩; clear b5 g5)
          cases O2
          · go_roundw
            case rel => exact ⟨k + 1, false, by have := HPP.out; omega, by have := HPP.out; go_num, rfl, hid (HN1.out w5 false rfl (fun h => by cases h) H5.out.1)⟩
            case measure => simp [intOf]; omega
          · go_roundw
            case rel => exact ⟨k + 1, true, by have := HPP.out; omega, by have := HPP.out; go_num, rfl, hid (HN1.out w5 true rfl (fun _ => H5.out.2 (by trivial)) H5.out.1)⟩
            case measure => simp [intOf]; omega
        · obtain ⟨y1, y2⟩ := nS_no (c := c) (d := d) hy
          rw [y1, y2] at HN1
          replace HN1 := hid (HN1.out wo true rfl (fun _ => HIB.out.1) HIB.out.2)
          clear y1 y2
          cases hph : (c p).pha
          · rw [hph] at d2
            clear hy hph
            go_wp2
            go_roundw
            case rel => exact ⟨k + 1, true, by have := HPP.out; omega, by have := HPP.out; go_num, rfl, HN1⟩
            case measure => simp [intOf]; omega
          · rw [hph] at d2
            have hx : ¬ 0 < g p := fun q => hy ⟨hph, q⟩
            clear hy hph
            generalize g p = X at cl hx hg
            have d0 : decide (0 < X) = false := decide_eq_false hx
            go_wp2
            go_roundw
            case rel => exact ⟨k + 1, true, by have := HPP.out; omega, by have := HPP.out; go_num, rfl, HN1⟩
            case measure => simp [intOf]; omega
      · obtain rfl : p = n := by omega
        have hkn : p - (i + 1) = k := by have := HPP.out; omega
        have lpp : ¬ (p : Int) < (p : Int) := by omega
        obtain rfl : TV = true := by rw [← HTV.out, hkn, HBt.out, HSB.out]; rfl
        obtain rfl : p = M := HMM.out
        obtain rfl : snF c d (i + 1) G k = FR := by rw [← HFR.out, hkn]
        have HFI := hid (HIB.out.1.own HLW.out)
        have HBW := hid (HIT.out wo HIB.out.2).2
        clear hkn
        go_wp2
        go_returns
        first | exact ⟨_, ⟨_, rfl⟩, HFI.out, HBW.out⟩ | exact ⟨_, _, rfl, HFI.out, HBW.out⟩
end Go.Proofs.Ytmbdeafpfdeigaa
