/- A job is loaded by the program: addTask whole, addJob. -/
import Derived.Test.YtogolmbgboihdaaLd
import Derived.Test.YtogolmbgboihdaaLe
import Derived.Test.YtogolmbgboihdaaLf
namespace Go.Proofs.Ytogolmbgboihdaa
open Go Go.ChangeShapes Go.WideShapes Go.ChangeAt Go.RowKit
set_option linter.unusedVariables false
set_option linter.unusedSimpArgs false

theorem addTask_any (w0 : World) (LB : Nat) (ma : Option Addr) (n mk : Nat) (c : Nat → MA3) (ja : Option Addr) (m jk : Nat) (d : Nat → JB) (S : Nat → SL5) (k j t : Nat) (done : Int) (w : World)
    (hL : loB n c m d = true) (hM : MAr w0 ma n c) (hJ : JBr w0 ja m d) (hk : (k : Int) ≤ 320) (hj : j < m) (ht : t < (d j).rn)
    (hS : ∀ i, i < k → SlR n m d (S i)) (hF : S k = oneS c d S k j t) (hd : done = max (d j).rdy (mxJ S (j : Int) k)) (hG : LG w0 LB ma n mk ja m jk d S k w) :
    Calls Try.prog 88 #[.pointer (some ⟨LB, 0, none⟩), .int .i64 (j : Int), .int .i64 (t : Int), .int .i64 done] w (AtP w0 LB ma n mk ja m jk d S k) := by
  have hlp := lo_p hL
  have htk := tkB_p ((jbB_p (hlp.2.2.1.2 j hj)).2.2 t ht)
  rcases lf_bd (m := ((d j).rz t).mac) hlp.2.2.1.2 hS with ⟨h, _⟩ | ⟨h1, h2⟩
  · exact addTask_A w0 LB ma n mk c ja m jk d S k j t done w hL hM hJ hk hj ht hS hF hd h hG
  · by_cases q : lfM d S ((d j).rz t).mac k = ((d j).rz t).fam
    · exact addTask_B w0 LB ma n mk c ja m jk d S k j t done w hL hM hJ hk hj ht hS hF hd q hG
    · exact addTask_C w0 LB ma n mk c ja m jk d S k j t done w hL hM hJ hk hj ht hS hF hd ⟨h1, q⟩ hG

/-- Slot t of job j behind k slots, and whether all of the first t are loaded. -/
theorem mxJ_next {S : Nat → SL5} {j : Int} {k : Nat} {r E : Int} (h : (S k).job = j) (hE : (S k).fin = E) (hr : r ≤ E) (hx : mxJ S j k ≤ E) : E = max r (mxJ S j (k + 1)) := by
  unfold mxJ; rw [if_pos h, hE]; omega
set_option maxRecDepth 20000 in
set_option maxHeartbeats 8000000 in
theorem addJob_any (w0 : World) (LB : Nat) (ma : Option Addr) (n mk : Nat) (c : Nat → MA3) (ja : Option Addr) (m jk : Nat) (d : Nat → JB) (S : Nat → SL5) (k j : Nat) (w : World)
    (hL : loB n c m d = true) (hM : MAr w0 ma n c) (hJ : JBr w0 ja m d) (hk : (k : Int) ≤ 312) (hj : j < m)
    (hS : ∀ i, i < k → SlR n m d (S i)) (hF : ∀ t, t < (d j).rn → S (k + t) = oneS c d S (k + t) j t) (h0 : mxJ S (j : Int) k = 0) (hG : LG w0 LB ma n mk ja m jk d S k w) :
    Calls Try.prog 55 #[.pointer (some ⟨LB, 0, none⟩), .int .i64 (j : Int)] w fun e w' => Below w0.heap.size w0 w' ∧
      ((e = .returned (.bool true) ∧ (∀ t, t < (d j).rn → 0 ≤ (S (k + t)).fin) ∧ LG w0 LB ma n mk ja m jk d S (k + (d j).rn) w') ∨ (e = .returned (.bool false) ∧ ∃ t, t < (d j).rn ∧ (S (k + t)).fin < 0)) := by
  have hlp := lo_p hL
  have HLO : Hid (loB n c m d = true) := hL
  have HM0 : Hid (MAr w0 ma n c) := hM
  have HJ0 : Hid (JBr w0 ja m d) := hJ
  have HG0 : Hid (LG w0 LB ma n mk ja m jk d S k w) := hG
  have HF0 : Hid (∀ t, t < (d j).rn → S (k + t) = oneS c d S (k + t) j t) := hF
  have HS0 : Hid (∀ i, i < k → SlR n m d (S i)) := hS
  have hjb := jbB_p (hlp.2.2.1.2 j hj)
  have HJB : Hid (jbB (d j) = true) := hlp.2.2.1.2 j hj
  have HMC : Hid (∀ t, t < (d j).rn → 0 ≤ ((d j).rz t).mac ∧ ((d j).rz t).mac < (n : Int)) := hlp.2.2.2 j hj
  have hr8 : ((d j).rn : Int) ≤ 8 := by have := hjb.2.1; omega
  have hrd := hjb.1
  obtain ⟨cs, sa, oc, h1, h2, h3, h4, h5, h6, h7⟩ := hG.main
  obtain ⟨kb, off, rfl, hkb⟩ := hJ.addr (by omega)
  obtain ⟨ra, rc, _, c0, c1, c2, c3, cT⟩ := hJ.cell hj
  replace c0 := keep_cell hG.bl c0
  replace c3 := keep_cell hG.bl c3
  have a1 := (h1.cell 1).trans h4
  have hjI : (j : Int) < (m : Int) := by have := hlp.2.2.1.1; omega
  have hm40 : (m : Int) ≤ 40 := by have := hlp.2.2.1.1; omega
  obtain ⟨rd, hrdv⟩ : ∃ y, (d j).rdy = y := ⟨_, rfl⟩
  rw [hrdv] at c0 hrd
  have HRD : Hid ((d j).rdy = rd) := hrdv
  obtain ⟨N, hN⟩ : ∃ y, (d j).rn = y := ⟨_, rfl⟩
  have HNN : Hid ((d j).rn = N) := hN
  rw [hN] at c3 hr8 HF0 HMC
  rw [hN]
  have HD0 : Hid (rd = max (d j).rdy (mxJ S (j : Int) (k + 0))) := hid (by rw [hrdv]; show rd = max rd (mxJ S (j : Int) k); rw [h0]; omega)
  clear hL hM hJ hS hF h0 hG hlp hjb h1 h2 h3 h4 h5 h6 h7 c1 c2 cT hrdv hN
  go_enter Try.func55, Try.ntmps55
  go_wp2
  go_loopw [5, 24] (fun v i wr => ∃ (t : Nat) (dn : Int), t ≤ N ∧ i = .int .i64 (t : Int) ∧ v = .int .i64 dn ∧ Hid (dn = max (d j).rdy (mxJ S (j : Int) (k + t))) ∧ Hid (∀ u, u < t → 0 ≤ (S (k + u)).fin) ∧ Hid (LG w0 LB ma n mk (some ⟨kb, off, none⟩) m jk d S (k + t) wr)) (fun _ i _ => N - (intOf i).toNat)
  case atStart => exact ⟨0, rd, Nat.zero_le _, rfl, rfl, HD0, fun u hu => by omega, HG0⟩
  case round =>
    obtain ⟨t, dn, ht, rfl, rfl, HD, HU, HG⟩ := hrel
    by_cases hlt : t < N
    · have hlt2 : (t : Int) < (N : Int) := by omega
      have HSL : Hid (∀ i, i < k + t → SlR n m d (S i)) := hid fun i hi => by
        by_cases q : i < k
        · exact HS0.out i q
        · obtain ⟨u, rfl⟩ : ∃ u, i = k + u := ⟨i - k, by omega⟩
          have hu : u < N := by omega
          rw [HF0.out u hu]
          exact one_r hj (by rw [HNN.out]; exact hu) (HMC.out u hu) (by rw [← HF0.out u hu]; exact HU.out u (by omega))
      have HCA : Hid (Calls Try.prog 88 #[.pointer (some ⟨LB, 0, none⟩), .int .i64 (j : Int), .int .i64 (t : Int), .int .i64 dn] wr (AtP w0 LB ma n mk (some ⟨kb, off, none⟩) m jk d S (k + t))) := hid (addTask_any w0 LB ma n mk c _ m jk d S (k + t) j t dn wr HLO.out HM0.out HJ0.out (by omega) hj (by rw [HNN.out]; exact hlt) HSL.out (HF0.out t hlt) HD.out HG.out)
      obtain ⟨E, hE⟩ : ∃ y, (S (k + t)).fin = y := ⟨_, rfl⟩
      have HE : Hid ((S (k + t)).fin = E) := hE
      have hoc := oc_bd (r := c ((d j).rz t).mac.toNat) (f := frV d S (k + t) j t) (q := hrV c d S (k + t) j t)
      have e1 : (S (k + t)).fin = ocF (c ((d j).rz t).mac.toNat) (frV d S (k + t) j t) (hrV c d S (k + t) j t) := by rw [HF0.out t hlt]; rfl
      have e2 : (S (k + t)).job = (j : Int) := by rw [HF0.out t hlt]; rfl
      rw [← e1, hE] at hoc
      by_cases hneg : E = -1
      · have HX : Hid (∃ u, u < N ∧ (S (k + u)).fin < 0) := ⟨t, hlt, by rw [hE]; omega⟩
        clear hoc e1 e2
        subst hneg
        go_wp2_with (go_at_call 88; refine HCA.out.mono ?_; unfold AtP; rw [HE.out]; rintro e w1 ⟨rfl, b1, _⟩)
        go_returns
        exact ⟨b1, .inr ⟨rfl, HX.out⟩⟩
      · have hE0 : 0 ≤ E := by omega
        have HDN : Hid (E = max (d j).rdy (mxJ S (j : Int) (k + (t + 1)))) := hid (by
          have h1 : (d j).rdy ≤ E := by unfold frV at hoc; omega
          have h2 : mxJ S (j : Int) (k + t) ≤ E := by unfold frV at hoc; omega
          exact mxJ_next (k := k + t) e2 hE h1 h2)
        have hEn : (E == -1) = false := by simp; omega
        clear hoc e1 e2
        go_wp2_with (go_at_call 88; refine HCA.out.mono ?_; unfold AtP; rw [HE.out]; rintro e w1 ⟨rfl, b1, g1⟩; have HG1 := hid (g1 hE0); clear b1 g1)
        go_roundw
        case rel => exact ⟨t + 1, E, by omega, by go_num, rfl, HDN, fun u hu => (by
          by_cases q : u = t
          · subst q; rw [HE.out]; exact hE0
          · exact HU.out u (by omega)), HG1⟩
        case measure => simp [intOf]; omega
    · obtain rfl : t = N := by omega
      have lkk : ¬ (t : Int) < (t : Int) := by omega
      go_wp2
      go_returns
      exact ⟨HG.out.bl, .inl ⟨rfl, HU.out, HG.out⟩⟩
end Go.Proofs.Ytogolmbgboihdaa
