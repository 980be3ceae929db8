/- Contract of the model's HeadOf: it answers headV. -/
import Derived.Test.YtapailihjlfkgaaDoorHs
namespace Go.Proofs.YtapailihjlfkgaaDoor
open Go.ChangeShapes Go.WideShapes Go.ChangeAt Go.RowKit
set_option linter.unusedVariables false
set_option linter.unusedSimpArgs false

theorem take_snoc' {l : List Int} {m : Nat} (h : m < l.length) : l.take (m + 1) = l.take m ++ [l[m]] := by
  rw [List.take_succ_eq_append_getElem h]
theorem lk_in {s : Int × Bool} {n : Int} (h : -549755813888 ≤ n ∧ n ≤ 549755813887) : lk s n = ((s.1 * 1000003 + n + 549755813888) % 1099511627791, s.2) := by
  unfold lk; rw [if_neg (by omega)]
theorem lk_out {s : Int × Bool} {n : Int} (h : ¬ (-549755813888 ≤ n ∧ n ≤ 549755813887)) : (lk s n).2 = true := by
  unfold lk; rw [if_pos (by omega)]
theorem lks_out {s : Int × Bool} {l : List Int} {m : Nat} (h : m < l.length) (ho : ¬ (-549755813888 ≤ l[m] ∧ l[m] ≤ 549755813887)) : (lks s l).2 = true := by
  have e : l = l.take (m + 1) ++ l.drop (m + 1) := (List.take_append_drop _ _).symm
  rw [e, lks_append]
  refine lks_broken _ ?_
  rw [take_snoc' h, lks_snoc]
  exact lk_out ho

set_option maxRecDepth 20000 in
set_option maxHeartbeats 4000000 in
theorem specHead_any (ad : Option Addr) (len cap : Nat) (es : Nat → E4) (w : World) (hr : ER w ad len es) :
    Calls Tryd.prog 80 #[.slice ad len cap] w fun e w' => e = .returned (.int .i64 (headV len es)) ∧ Below w.heap.size w w' := by
  have HR : Hid (ER w ad len es) := hr
  clear hr
  by_cases h : (len : Int) ≤ 1000
  · go_enter Tryd.func80, Tryd.ntmps80
    go_wp2
    go_loopw [3, 4] (fun u i wr => ∃ k : Nat, k ≤ len ∧ i = .int .i64 (k : Int) ∧ u = .int .i64 (hs es k).1 ∧ (hs es k).2 = false ∧ Hid (∀ i, i < k → smallE (es i)) ∧ Below w.heap.size w wr) (fun _ i _ => len - (intOf i).toNat)
    case atStart => exact ⟨0, Nat.zero_le _, rfl, rfl, rfl, fun i hi => by omega, Below.refl _ _⟩
    case round =>
      obtain ⟨k, hk, rfl, rfl, hbr, HS, bb⟩ := hrel
      have HB : Hid (Below w.heap.size w wr) := bb
      have HBR : Hid ((hs es k).2 = false) := hbr
      clear hbr
      by_cases hlt : k < len
      · obtain ⟨kb, off, rfl, hkb⟩ := HR.out.addr (by omega)
        obtain ⟨c1, c2, c3, la, lcap, c4, hl⟩ := (HR.out.below bb).cell hlt
        have HLR : Hid (LR wr la (es k).n (es k).ls) := hl
        clear bb hl
        have HG : Hid (∀ h : ¬ smallE (es k), headV len es = 0) := fun h => headV_great hlt h
        by_cases g2 : ((es k).n : Int) ≤ 60
        · by_cases g1 : ((es k).text.size : Int) ≤ 40
          · have HSK : Hid (smallE (es k)) := ⟨by omega, by omega⟩
            have hNl : (es k).nums.length ≤ 400 := by
              unfold E4.nums
              simp only [List.length_append, List.length_cons, List.length_nil, txtN_len, lnsN_len]; omega
            have HNM : Hid ((E4.nums ⟨(es k).day, (es k).ref, (es k).text, (es k).n, (es k).ls⟩) = (es k).nums) := rfl
            generalize (es k).day = dd at c1 HNM
            generalize (es k).ref = rr at c2 HNM
            generalize (es k).text = tt at c3 HNM g1
            generalize (es k).n = nn at c4 HNM g2 HLR
            generalize (es k).ls = lls at HNM HLR
            have HH : Hid (hs es (k + 1) = lks (hs es k) (es k).nums) := rfl
            have HRG : Hid (HdR (hs es k).1) := hs_range es k
            have HBRK : Hid ((hs es (k + 1)).2 = true → headV len es = 0) := fun q => headV_broken (by omega) q
            generalize hs es k = s0 at HH HRG HBR
            generalize (es k).nums = N at HH HNM hNl
            go_wp2_with (go_at_call 106; refine (nums_any _ _ _ _ _ _ lls _ g1 g2 HLR.out).mono ?_; rintro e w1 ⟨adv, capv, rfl, hO, b1⟩; have HO : Hid (w1.ownsRow wr.heap.size 3 1 (.slice adv N.length capv) N.length (ivs N)) := (by rw [HNM.out] at hO; exact hO); rw [HNM.out]; have HB1 : Hid (Below w.heap.size w w1) := bel_on HB.out b1; clear hO b1)
            go_loop [3, 6] (fun u i => ∃ m : Nat, m ≤ N.length ∧ i = .int .i64 (m : Int) ∧ u = .int .i64 (lks s0 (N.take m)).1 ∧ (lks s0 (N.take m)).2 = false) (fun _ i => N.length - (intOf i).toNat)
            case atStart => exact ⟨0, Nat.zero_le _, rfl, rfl, HBR.out⟩
            case round =>
              obtain ⟨m, hm, rfl, rfl, hb2⟩ := hrel
              by_cases hml : m < N.length
              · obtain ⟨g, cp, hSg, _, _, hcell⟩ := arow_get HO.out hml
                simp only [Value.slice.injEq] at hSg
                obtain ⟨rfl, _, rfl⟩ := hSg
                have x1 := hcell m hml
                have x2 : (ivs N)[m]? = some (.int .i64 N[m]) := by simp [ivs, hml]
                rw [x2] at x1
                have HT : Hid (lks s0 (N.take (m + 1)) = lk (lks s0 (N.take m)) N[m]) := by show _ = _; rw [take_snoc' hml, lks_snoc]
                have hrg := lks_range (N.take m) HRG.out
                have HOUT : Hid (¬ (-549755813888 ≤ N[m] ∧ N[m] ≤ 549755813887) → (lks s0 N).2 = true) := fun q => lks_out hml q
                clear hcell x2
                generalize N[m] = x at x1 HT HOUT
                generalize lks s0 (N.take m) = s1 at HT hrg hb2
                obtain ⟨q0, q1⟩ := hrg
                have HB2 : Hid (s1.2 = false) := hb2
                clear hb2
                by_cases gx : -549755813888 ≤ x ∧ x ≤ 549755813887
                · obtain ⟨gx1, gx2⟩ := gx
                  have HLK : Hid (lk s1 x = ((s1.1 * 1000003 + x + 549755813888) % 1099511627791, s1.2)) := lk_in ⟨gx1, gx2⟩
                  generalize s1.1 = hh at HLK q0 q1
                  have g3 : (0 : Int) ≤ hh * 1000003 := by omega
                  have g4 : hh * 1000003 < 1099511627791 * 1000003 := by omega
                  go_wp2_with (go_at_call 43; refine (in_yes _ _ _ _ gx1 gx2).mono ?_; rintro e w3 ⟨rfl, ew⟩; replace ew := ew.symm; subst ew)
                  go_round
                  case rel => exact ⟨m + 1, by omega, by go_num, by rw [HT.out, HLK.out], by rw [HT.out, HLK.out]; exact HB2.out⟩
                  case measure => simp [intOf]; omega
                · have HZ0 : Hid (headV len es = 0) := HBRK.out (by rw [HH.out]; exact HOUT.out gx)
                  have HGX : Hid (¬ (-549755813888 ≤ x ∧ x ≤ 549755813887)) := gx
                  clear gx HBRK HOUT
                  go_wp2_with (go_at_call 43; refine (in_no _ _ _ _ HGX.out).mono ?_; rintro e w3 ⟨rfl, ew⟩; replace ew := ew.symm; subst ew)
                  go_returns
                  exact ⟨ret_int HZ0.out, HB1.out⟩
              · obtain rfl : m = N.length := by omega
                rw [List.take_length] at hb2 ⊢
                have HB2 : Hid ((lks s0 N).2 = false) := hb2
                clear hb2
                go_wp2
                go_roundw
                case rel => exact ⟨k + 1, by omega, by go_num, by rw [HH.out], by rw [HH.out]; exact HB2.out, fun i hi => by
                  by_cases hik : i = k
                  · rw [hik]; exact HSK.out
                  · exact HS.out i (by omega), HB1.out⟩
                case measure => simp [intOf]; omega
          · have HZ0 : Hid (headV len es = 0) := HG.out (fun q => g1 (by have := q.1; omega))
            clear HG
            go_wp2
            go_returns
            exact ⟨ret_int HZ0.out, HB.out⟩
        · have HZ0 : Hid (headV len es = 0) := HG.out (fun q => g2 (by have := q.2; omega))
          clear HG
          go_wp2
          go_returns
          exact ⟨ret_int HZ0.out, HB.out⟩
      · obtain rfl : k = len := by omega
        have HZ0 : Hid (headV k es = (hs es k).1) := headV_done (by omega) HS.out HBR.out
        clear bb
        generalize (hs es k).1 = h1 at HZ0 ⊢
        go_wp2
        go_returns
        exact ⟨ret_int HZ0.out, HB.out⟩
  · have HZ0 : Hid (headV len es = 0) := headV_long (es := es) (len := len) (by omega)
    go_enter Tryd.func80, Tryd.ntmps80
    go_wp2
    go_returns
    exact ⟨ret_int HZ0.out, Below.refl _ _⟩

end Go.Proofs.YtapailihjlfkgaaDoor
