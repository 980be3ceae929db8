/- Load of the program. -/
import Derived.Test.YtogolmbgboihdaaLg
namespace Go.Proofs.Ytogolmbgboihdaa
open Go Go.ChangeShapes Go.WideShapes Go.ChangeAt Go.RowKit
set_option linter.unusedVariables false
set_option linter.unusedSimpArgs false

theorem kN_bd {d : Nat → JB} {o : Nat → Int} {m : Nat} (hd : ∀ j, j < m → (d j).rn ≤ 8) (ho : ∀ i, i < m → 0 ≤ o i ∧ o i < (m : Int)) : ∀ {n : Nat}, n ≤ m → kN d o n ≤ 8 * n
  | 0, _ => Nat.le_refl _
  | n + 1, h => by
    have h1 := kN_bd hd ho (n := n) (by omega)
    have h2 := ho n (by omega)
    have h3 := hd (o n).toNat (by omega)
    show kN d o n + (d (o n).toNat).rn ≤ 8 * (n + 1)
    omega
theorem ownSL_no {w : World} {lo : Nat} {ad : Option Addr} {F : Nat → SL5} : OwnSL5 w lo ad 0 F := .inl rfl
theorem LG.start {w0 W : World} {sb : Nat} {ma ja : Option Addr} {n mk m jk : Nat} {d : Nat → JB} {S : Nat → SL5} (hb : Below w0.heap.size w0 W) : LG w0 (W.heap.size + 1) ma n mk ja m jk d S 0 ((W.alloc (.cells #[] 36)).alloc (.cells #[.slice ma n mk, .slice ja m jk, .pointer none, .pointer none, .pointer none, .pointer none, .pointer none, .pointer none, .pointer none, .pointer none, .pointer none, .pointer none, .pointer none, .pointer none, .slice (some ⟨W.heap.size, 0, none⟩) 0 0] 88 (0, 0))) := by
  have hs := hb.size
  refine ⟨bel_on hb (((Below.refl _ _).alloc (Nat.le_refl _) _).alloc (by simp) _), by omega, _, W.heap.size, 0, CB.newAt (by simp) _ _, rfl, rfl, rfl, rfl, madeSL5 ((CB.new #[] 36).alloc _) hs, fun q hq => ⟨none, ?_, .inl ⟨rfl, rfl⟩⟩⟩
  match q, hq with
  | 0, _ => rfl
  | 1, _ => rfl
  | 2, _ => rfl
  | 3, _ => rfl
  | 4, _ => rfl
  | 5, _ => rfl
  | 6, _ => rfl
  | 7, _ => rfl
  | 8, _ => rfl
  | 9, _ => rfl
  | 10, _ => rfl
  | 11, _ => rfl
  | q + 12, h => omega
set_option maxRecDepth 20000 in
set_option maxHeartbeats 8000000 in
theorem implLoad_any (ma : Option Addr) (n mk : Nat) (c : Nat → MA3) (ja : Option Addr) (m jk : Nat) (d : Nat → JB) (oa : Option Addr) (no ok : Nat) (o : Nat → Int) (w : World) (hn : (n : Int) ≤ 1048576) (hm : (m : Int) ≤ 1048576) (hl : ∀ j, j < m → ((d j).rn : Int) ≤ 1048576) (hno : (no : Int) ≤ 1048576) (hM : MAr w ma n c) (hJ : JBr w ja m d) (hO : IR w oa no o) :
    Calls Try.prog 15 #[.slice ma n mk, .slice ja m jk, .slice oa no ok] w fun e w' => ∃ ad cap, e = .returned (.tuple #[.slice ad (ldM n c m d no o) cap, .bool (ldB n c m d no o)]) ∧ OwnSL5 w' w.heap.size ad (ldM n c m d no o) (sN c d o m) ∧ Below w.heap.size w w' := by
  have HM0 : Hid (MAr w ma n c) := hM
  have HJ0 : Hid (JBr w ja m d) := hJ
  have HO0 : Hid (IR w oa no o) := hO
  have HN : Hid (∀ j, j < m → ((d j).rn : Int) ≤ 1048576) := hl
  clear hM hJ hO hl
  cases h1 : loB n c m d
  · have HV := hid (ld_no (nm := n) (c := c) (nj := m) (d := d) (no := no) (o := o) fun H => by rw [H.1] at h1; cases h1)
    have HA : Hid (loB n c m d = false) := h1
    clear h1
    simp only [HV.out.1, HV.out.2]
    go_enter Try.func15, Try.ntmps15
    go_wp2_with (first | (go_at_call 29; refine (implLoadOk_eq ma n mk c ja m jk d _ _ hn hm HN.out HM0.out HJ0.out HA.out).mono ?_; rintro e w1 ⟨rfl, b1⟩; have HB1 : Hid (Below w.heap.size w w1) := b1; clear b1) | (go_at_call 54; refine (each_eq oa no ok m o _ _ hno hm40 (HO0.out.below HB1.out) HR.out).mono ?_; rintro e w2 ⟨rfl, b2⟩; have HB2 : Hid (Below w.heap.size w w2) := bel_on HB1.out b2; clear b2))
    go_returns
    first | exact ⟨_, _, rfl, ownSL_no, HB1.out.alloc HB1.out.size _⟩ | exact ⟨_, ⟨_, rfl⟩, ownSL_no, HB1.out.alloc HB1.out.size _⟩
  have hlp := lo_p h1
  have hm40 : (m : Int) ≤ 40 := by have := hlp.2.2.1.1; omega
  have HA : Hid (loB n c m d = true) := h1
  cases h2 : orB o no m
  · have HV := hid (ld_no (nm := n) (c := c) (nj := m) (d := d) (no := no) (o := o) fun H => by rw [orB_t H.2.1] at h2; cases h2)
    have HR : Hid (orB o no m = false) := h2
    clear h1 h2 hlp
    simp only [HV.out.1, HV.out.2]
    go_enter Try.func15, Try.ntmps15
    go_wp2_with (first | (go_at_call 29; refine (implLoadOk_eq ma n mk c ja m jk d _ _ hn hm HN.out HM0.out HJ0.out HA.out).mono ?_; rintro e w1 ⟨rfl, b1⟩; have HB1 : Hid (Below w.heap.size w w1) := b1; clear b1) | (go_at_call 54; refine (each_eq oa no ok m o _ _ hno hm40 (HO0.out.below HB1.out) HR.out).mono ?_; rintro e w2 ⟨rfl, b2⟩; have HB2 : Hid (Below w.heap.size w w2) := bel_on HB1.out b2; clear b2))
    go_returns
    first | exact ⟨_, _, rfl, ownSL_no, HB2.out.alloc HB2.out.size _⟩ | exact ⟨_, ⟨_, rfl⟩, ownSL_no, HB2.out.alloc HB2.out.size _⟩
  have hop := orB_p h2
  obtain rfl : no = m := hop.1
  have HOP : Hid (OrP o no no) := hop
  have HR : Hid (orB o no no = true) := h2
  have HFX : Hid (FixS c d o no (sN c d o no)) := sN_fix
  have HKB : Hid (∀ n, n ≤ no → kN d o n ≤ 8 * n) := hid fun n hn => kN_bd (fun j hj => (jbB_p (hlp.2.2.1.2 j hj)).2.1) hop.2.1 hn
  clear h1 h2 hlp hop
  obtain ⟨V1, hV1⟩ : ∃ x, ldB n c no d no o = x := ⟨_, rfl⟩
  obtain ⟨V2, hV2⟩ : ∃ x, ldM n c no d no o = x := ⟨_, rfl⟩
  have HVV : Hid (ldB n c no d no o = V1 ∧ ldM n c no d no o = V2) := ⟨hV1, hV2⟩
  rw [hV1, hV2]
  clear hV1 hV2
  go_enter Try.func15, Try.ntmps15
  go_wp2_with (first | (go_at_call 29; refine (implLoadOk_eq ma n mk c ja no jk d _ _ hn hm HN.out HM0.out HJ0.out HA.out).mono ?_; rintro e w1 ⟨rfl, b1⟩; have HB1 : Hid (Below w.heap.size w w1) := b1; clear b1) | (go_at_call 54; refine (each_eq oa no ok no o _ _ hno hm40 (HO0.out.below HB1.out) HR.out).mono ?_; rintro e w2 ⟨rfl, b2⟩; have HB2 : Hid (Below w.heap.size w w2) := bel_on HB1.out b2; clear b2))
  trace_state
  have HG0 := hid (LG.start (sb := 0) (ma := ma) (n := n) (mk := mk) (ja := ja) (m := no) (jk := jk) (d := d) (S := sN c d o no) HB2.out)
  go_loopw [30] (fun i wr => ∃ k : Nat, k ≤ no ∧ i = .int .i64 (k : Int) ∧ Hid (∀ n' t', n' < k → t' < (d (o n').toNat).rn → 0 ≤ (sN c d o no (kN d o n' + t')).fin) ∧ Hid (LG w (w2.heap.size + 1) ma n mk ja no jk d (sN c d o no) (kN d o k) wr)) (fun i _ => no - (intOf i).toNat)
  case atStart => exact ⟨0, Nat.zero_le _, rfl, fun n' t' h => by omega, HG0⟩
  case round =>
    clear HG0
    obtain ⟨k, hk, rfl, HU, HG⟩ := hrel
    by_cases hlt : k < no
    · have hlt2 : (k : Int) < (no : Int) := by omega
      obtain ⟨kb, off, rfl, _⟩ := HO0.out.addr (by omega)
      have c0 := (HO0.out.below HG.out.bl).cell hlt
      obtain ⟨J, hJ⟩ : ∃ J : Nat, o k = (J : Int) := ⟨(o k).toNat, by have := HOP.out.2.1 k hlt; omega⟩
      have HJ : Hid ((o k).toNat = J) := hid (by omega)
      have hJn : J < no := by have := HOP.out.2.1 k hlt; omega
      rw [hJ] at c0
      have HGD : Hid (GdP d o (sN c d o no) k 0) := ⟨HU.out, fun t' h => by omega⟩
      have HCA : Hid (Calls Try.prog 55 #[.pointer (some ⟨w2.heap.size + 1, 0, none⟩), .int .i64 (J : Int)] wr _) := hid (addJob_any w (w2.heap.size + 1) ma n mk c ja no jk d (sN c d o no) (kN d o k) J wr HA.out HM0.out HJ0.out (by have := HKB.out k hk; omega) hJn (by have := gd_slr HA.out HOP.out HFX.out hlt (Nat.zero_le _) HGD.out; simpa using this) (fun t ht => by have := HFX.out k t hlt (by rw [HJ.out]; exact ht); rw [HJ.out] at this; exact this) (by have := new_job HOP.out HFX.out hlt; rw [HJ.out] at this; exact this) HG.out)
      clear hJ
      go_wp2_with (go_at_call 55; refine HCA.out.mono ?_; rintro e w3 ⟨b3, (⟨rfl, hu, g3⟩ | ⟨rfl, hx⟩)⟩)
      · have HU2 : Hid (∀ n' t', n' < k + 1 → t' < (d (o n').toNat).rn → 0 ≤ (sN c d o no (kN d o n' + t')).fin) := fun n' t' h1 h2 => by
          by_cases q : n' = k
          · subst q; rw [HJ.out] at h2; exact hu t' h2
          · exact HU.out n' t' (by omega) h2
        have HG2 : Hid (LG w (w2.heap.size + 1) ma n mk ja no jk d (sN c d o no) (kN d o (k + 1)) w3) := hid (by
          show LG w (w2.heap.size + 1) ma n mk ja no jk d (sN c d o no) (kN d o k + (d (o k).toNat).rn) w3
          rw [HJ.out]; exact g3)
        clear hu g3 b3
        go_wp2
        go_roundw
        case rel => exact ⟨k + 1, by omega, by go_num, HU2, HG2⟩
        case measure => simp [intOf]; omega
      · have HV := hid (ld_no (nm := n) (c := c) (nj := no) (d := d) (no := no) (o := o) fun H => by
          obtain ⟨t, h1, h2⟩ := hx
          have := H.2.2 k t hlt (by rw [HJ.out]; exact h1)
          omega)
        obtain rfl : V1 = false := by rw [← HVV.out.1, HV.out.1]
        obtain rfl : V2 = 0 := by rw [← HVV.out.2, HV.out.2]
        have HB3 : Hid (Below w.heap.size w w3) := b3
        clear hx b3
        go_wp2
        go_returns
        first | exact ⟨_, _, rfl, ownSL_no, HB3.out.alloc HB3.out.size _⟩ | exact ⟨_, ⟨_, rfl⟩, ownSL_no, HB3.out.alloc HB3.out.size _⟩
    · obtain rfl : k = no := by omega
      have lkk : ¬ (k : Int) < (k : Int) := by omega
      have HV := hid (ld_yes (nm := n) (c := c) (nj := k) (d := d) (no := k) (o := o) ⟨HA.out, HOP.out, HU.out⟩)
      obtain rfl : V1 = true := by rw [← HVV.out.1, HV.out.1]
      obtain rfl : V2 = kN d o k := by rw [← HVV.out.2, HV.out.2]
      obtain ⟨cs, sa, oc, q1, q2, q3, q4, q5, q6, q7⟩ := HG.out.main
      have a14 := (q1.cell 14).trans q5
      have HOW : Hid (OwnSL5 wr w.heap.size (some ⟨sa, 0, none⟩) (kN d o k) (sN c d o k)) := hid (by
        obtain ⟨ad, cp, e, h1, h2⟩ := ownSL5_of q6
        simp only [Value.slice.injEq] at e
        rw [e.1]; exact h2)
      clear q1 q2 q3 q4 q5 q6 q7
      go_wp2
      go_returns
      first | exact ⟨_, _, rfl, HOW.out, HG.out.bl⟩ | exact ⟨_, ⟨_, rfl⟩, HOW.out, HG.out.bl⟩
end Go.Proofs.Ytogolmbgboihdaa
