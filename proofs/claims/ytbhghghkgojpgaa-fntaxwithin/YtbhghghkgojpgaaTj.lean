/- Weights, and Net with what is within: withinWeights, takeOut. -/
import Derived.Test.YtbhghghkgojpgaaTi
import Derived.Test.YtbhghghkgojpgaaTh
import Derived.BigRegion
namespace Go.Proofs.Ytbhghghkgojpgaa
open Go.ChangeShapes Go.WideShapes Go.ChangeAt Go.RowKit
set_option linter.unusedVariables false
set_option linter.unusedSimpArgs false

set_option maxRecDepth 20000 in
set_option maxHeartbeats 4000000 in
theorem weights_any (ad : Option Addr) (m cap : Nat) (u : Nat → T5) (w : World) (hm : (m : Int) ≤ 1048576) (hr : TR w ad m u) :
    Calls Try.prog 104 #[.slice ad m cap] w fun e w' => e = .returned (.slice (some ⟨w.heap.size, 0, none⟩) m m) ∧ IR w' (some ⟨w.heap.size, 0, none⟩) m (wsW u) ∧ Below w.heap.size w w' := by
  have HR : Hid (TR w ad m u) := hr
  have hmk := Sh.mkI m hm
  clear hr
  go_enter Try.func104, Try.ntmps104
  go_wp2
  go_loopw [11] (fun i wr => ∃ (k : Nat) (ce : Array Value), k ≤ m ∧ i = .int .i64 (k : Int) ∧ CB wr w.heap.size ce 3 ∧ Hid (ce.size = m ∧ (∀ j, j < k → ce[j]? = some (.int .i64 (wsW u j))) ∧ (∀ j, k ≤ j → j < m → ce[j]? = some (.int .i64 0)) ∧ Below w.heap.size w wr)) (fun i _ => m - (intOf i).toNat)
  case atStart => exact ⟨0, Sh.zeros m, Nat.zero_le _, rfl, CB.new _ _, ⟨Sh.zeros_size _, fun j hj => by omega, fun j _ hj => Sh.zeros_get m j hj, (Below.refl _ _).alloc (Nat.le_refl _) _⟩⟩
  case round =>
    obtain ⟨k, ce, hk, rfl, hC, HH⟩ := hrel
    obtain ⟨wo, rfl⟩ : ∃ x, x = wr := ⟨wr, rfl⟩
    by_cases hlt : k < m
    · have hlt2 : (k : Int) < (m : Int) := by omega
      obtain ⟨kb, off, rfl, hkb⟩ := HR.out.addr (by omega)
      obtain ⟨c0, c1, c2, c3, c4⟩ := (HR.out.below HH.out.2.2.2).cell hlt
      have d0 := (hC.cell k).trans (HH.out.2.2.1 k (by omega) hlt)
      have f0 := hC.fr k
      have hlw := hC.lt
      have HC : Hid (CB wo w.heap.size ce 3) := hC
      clear hC
      obtain ⟨r, hr⟩ : ∃ r, u k = r := ⟨_, rfl⟩
      have HK : Hid (u k = r) := hr
      rw [hr] at c0 c1 c2 c3 c4
      clear hr
      obtain ⟨q0, q1, q2, q3, q4⟩ := r
      simp only at c0 c1 c2 c3 c4
      by_cases h3 : q4 = 3
      · have e3 := eq_t h3
        have HW : Hid (wsW u k = q3) := hid (by unfold wsW; rw [HK.out]; exact if_pos h3)
        clear h3
        go_wp2
        go_roundw
        case rel =>
          have hsz := HH.out.1
          refine ⟨k + 1, _, by omega, by go_num, (HC.out.set k (.int .i64 q3)).alloc _, ⟨by simp [hsz], fun j hj => ?_, fun j h1 h2 => ?_, (HH.out.2.2.2.setCell (by simp) _).alloc (by simp; omega) _⟩⟩
          · by_cases e : j = k
            · subst e; rw [get_set_eq (by omega), HW.out]
            · rw [get_set_ne (by omega)]; exact HH.out.2.1 j (by omega)
          · rw [get_set_ne (by omega)]; exact HH.out.2.2.1 j (by omega) h2
        case measure => simp [intOf]; omega
      · have e3 := eq_f h3
        have HW : Hid (wsW u k = 0) := hid (by unfold wsW; rw [HK.out]; exact if_neg h3)
        clear h3
        go_wp2
        go_roundw
        case rel =>
          refine ⟨k + 1, ce, by omega, by go_num, HC.out.alloc _, ⟨HH.out.1, fun j hj => ?_, fun j h1 h2 => HH.out.2.2.1 j (by omega) h2, HH.out.2.2.2.alloc (by omega) _⟩⟩
          by_cases e : j = k
          · subst e; rw [HW.out]; exact HH.out.2.2.1 j (by omega) hlt
          · exact HH.out.2.1 j (by omega)
        case measure => simp [intOf]; omega
    · obtain rfl : k = m := by omega
      have lkk : ¬ (k : Int) < (k : Int) := by omega
      have HI : Hid (IR wo (some ⟨w.heap.size, 0, none⟩) k (wsW u)) := .inr ⟨w.heap.size, 0, rfl, hC.lt, fun j hj => by rw [Nat.zero_add, hC.cell]; exact HH.out.2.1 j hj⟩
      clear hC
      go_wp2
      go_returns
      exact ⟨rfl, HI.out, HH.out.2.2.2⟩

theorem smb {u : Nat → T5} {m : Nat} (hU : UOk u m) (hm : m ≤ 6) : Sh.SmB (wsW u) m := fun k hk => by
  have := Sh.sm_le (n := k) (fun j hj => ws_bd hU j (by omega))
  omega

/-- What takeOut leaves. -/
def ToP (u : Nat → T5) (m : Nat) (p : Int) (w : World) (e : Ending) (w' : World) : Prop :=
  Below w.heap.size w w' ∧ ∃ ia il ic, e = .returned (.tuple #[.int .i64 (netV u m p), .slice ia il ic, .bool (amt p)]) ∧ (amt p = true → il = m ∧ IR w' ia m (wiV u m p))

set_option maxRecDepth 20000 in
set_option maxHeartbeats 4000000 in
theorem takeOut_any (ad : Option Addr) (m cap : Nat) (u : Nat → T5) (p : Int) (w : World) (hm : m ≤ 6) (hU : UOk u m) (hp64 : -9223372036854775808 ≤ p ∧ p ≤ 9223372036854775807) (hr : TR w ad m u) :
    Calls Try.prog 81 #[.slice ad m cap, .int .i64 p] w (ToP u m p w) := by
  have HR : Hid (TR w ad m u) := hr
  have HU : Hid (UOk u m) := hU
  have HS : Hid (Sh.SmB (wsW u) m) := smb hU hm
  have hm2 : (m : Int) ≤ 1048576 := by omega
  have ha := al_bd hU hm
  obtain ⟨al, hal⟩ : ∃ a, alW u m = a := ⟨_, rfl⟩
  have HAL : Hid (Sh.sm (wsW u) m = al) := hal
  have HMB : Hid (mdB p 100000 (100000 + al) 3 = amt p) := hid (by
    cases h : amt p
    · rw [← hal]; exact (net_no h).1
    · have q := amt_t h; rw [hal] at ha; exact (net_bd ha.1 ha.2 q).1)
  obtain ⟨nt, hnt⟩ : ∃ x, netV u m p = x := ⟨_, rfl⟩
  have HMV : Hid (mdV p 100000 (100000 + al) 3 = nt) := hid (by rw [← hnt, ← hal]; rfl)
  have hpn : -9223372036854775808 ≤ p - nt ∧ p - nt ≤ 9223372036854775807 := by
    cases h : amt p
    · have := (net_no (u := u) (m := m) h).2; rw [hnt] at this; omega
    · have q := amt_t h; have b := (net_bd (by rw [← hal] ; exact ha.1) (by rw [← hal]; exact ha.2) q : mdB p 100000 (100000 + al) 3 = true ∧ _).2; rw [HMV.out] at b; omega
  have HNT : Hid (netV u m p = nt) := hnt
  have hmk := Sh.mkI m hm2
  rw [hal] at ha
  clear hr hU hnt
  by_cases h0 : al = 0
  · have HWI : Hid (∀ j, wiV u m p j = 0) := hid (fun j => by unfold wiV; rw [hal, if_pos h0])
    have e0 := eq_t h0
    clear h0 hal
    go_enter Try.func81, Try.ntmps81
    go_wp2_with (first
      | (go_at_call 104; refine (weights_any _ _ _ u _ hm2 HR.out).mono ?_; rintro e w1 ⟨rfl, i1, b1⟩; have HI1 : Hid (IR w1 (some ⟨w.heap.size, 0, none⟩) m (wsW u)) := i1; have HB1 : Hid (Below w.heap.size w w1) := b1; clear i1 b1)
      | (go_at_call 105; refine (Sh.sum_any _ _ _ (wsW u) _ hm2 HI1.out HS.out).mono ?_; rintro e w2 ⟨rfl, ew⟩; replace ew := ew.symm; subst ew; rw [HAL.out])
      | (go_at_call 106; refine (implMulDiv_any _ _ _ _ _).mono ?_; rintro e w3 ⟨rfl, b3⟩; rw [HMB.out, HMV.out]; have HB3 : Hid (Below w.heap.size w w3) := bel_on HB1.out b3; clear b3))
    go_region
    all_goals (try go_wp2)
    all_goals go_returns
    all_goals exact ⟨bel_on HB3.out (by go_grown), _, _, _, by rw [HNT.out]; rfl, fun _ => ⟨rfl, .inr ⟨_, 0, rfl, by simp, fun j hj => by rw [Nat.zero_add]; exact ((CB.new (w := w3) (Sh.zeros m) 3).cell j).trans (by rw [Sh.zeros_get m j hj, HWI.out])⟩⟩⟩
  · have HWI : Hid (∀ j, wiV u m p j = Sh.shV (p - nt) m (wsW u) j) := hid (fun j => by unfold wiV; rw [hal, if_neg h0, HNT.out])
    have HSM : Hid (amt p = true → Sh.shM (p - nt) m (wsW u) = m) := hid (fun h => by rw [← HNT.out]; exact Sh.shM_ok (sh_ok HU.out hm h (by rw [hal]; exact h0)))
    have e0 := eq_f h0
    clear h0 hal
    go_enter Try.func81, Try.ntmps81
    go_wp2_with (first
      | (go_at_call 104; refine (weights_any _ _ _ u _ hm2 HR.out).mono ?_; rintro e w1 ⟨rfl, i1, b1⟩; have HI1 : Hid (IR w1 (some ⟨w.heap.size, 0, none⟩) m (wsW u)) := i1; have HB1 : Hid (Below w.heap.size w w1) := b1; clear i1 b1)
      | (go_at_call 105; refine (Sh.sum_any _ _ _ (wsW u) _ hm2 HI1.out HS.out).mono ?_; rintro e w2 ⟨rfl, ew⟩; replace ew := ew.symm; subst ew; rw [HAL.out])
      | (go_at_call 106; refine (implMulDiv_any _ _ _ _ _).mono ?_; rintro e w3 ⟨rfl, b3⟩; rw [HMB.out, HMV.out]; have HI3 : Hid (IR w3 (some ⟨w.heap.size, 0, none⟩) m (wsW u)) := HI1.out.below b3; have HB3 : Hid (Below w.heap.size w w3) := bel_on HB1.out b3; clear b3)
      | (go_at_call 107; refine (Sh.implShares_any _ _ _ _ (wsW u) _ hm2 HI3.out).mono ?_; rintro e w4 ⟨ia, ic, rfl, ow, b4⟩; have HOW : Hid (w4.ownsRow w3.heap.size 3 1 (.slice ia (Sh.shM (p - nt) m (wsW u)) ic) (Sh.shM (p - nt) m (wsW u)) (Sh.intL (Sh.shV (p - nt) m (wsW u)) (Sh.shM (p - nt) m (wsW u)))) := ow; have HB4 : Hid (Below w.heap.size w w4) := bel_on HB3.out b4; clear ow b4))
    go_returns
    refine ⟨HB4.out, ia, _, ic, by rw [HNT.out]; rfl, fun h => ?_⟩
    have hM := HSM.out h
    have hO := HOW.out
    rw [hM] at hO ⊢
    refine ⟨rfl, ?_⟩
    have := Sh.row_IR (z := wiV u m p) hO (fun j hj => by rw [HWI.out]; simp [Sh.intL, hj])
    exact this
end Go.Proofs.Ytbhghghkgojpgaa
