/- The contract of the program's DateOf: the date of a day, and three noughts where it is none. -/
import Derived.Test.YtlhgmdmbjpaakaaDoorDd
import Derived.Test.YtlhgmdmbjpaakaaDoorDb
import Derived.Outline
import Derived.Deep.QuietTactic
import Derived.BigQuiet
import Derived.Deep.RegionWith
namespace Go.Proofs.YtlhgmdmbjpaakaaDoor.Dt
open Go.ChangeShapes Go.WideShapes Go.ChangeAt Go.RowKit
set_option linter.unusedVariables false
set_option linter.unusedSimpArgs false

theorem ML.below {B : Nat} {w w' : World} (h : ML w) (t : Below B w w') (hB : 0 < B) : ML w' := by
  have e : ∀ o, w'.cell? ⟨0, o, none⟩ = w.cell? ⟨0, o, none⟩ := fun o => World.cell?_of_block (w := w) (t.block 0 hB)
  unfold ML
  simp only [e]
  exact h

/-- A date as a value. -/
def dateA (t : Int × Int × Int) : Value := .agg #[.int .i64 t.1, .int .i64 t.2.1, .int .i64 t.2.2]

set_option maxHeartbeats 1000000 in
theorem implDateOf_in (day : Int) (w : World) (h1 : 0 ≤ day) (h2 : day ≤ 40000) (ht : ML w) (hp : 0 < w.heap.size) :
    Calls Tryd.prog 38 #[.int .i64 day] w fun e w' => e = .returned (dateA (dat day)) ∧ Below w.heap.size w w' := by
  have hd := dayB_t ⟨h1, h2⟩
  have HT : Hid (ML w) := ht
  clear ht
  go_enter Tryd.func38, Tryd.ntmps38
  go_wp2_with (go_at_call 18; refine (isDay_any _ _).mono ?_; rintro e w' ⟨rfl, rfl⟩; rw [hd])
  go_loopw [0] (fun i wr => ∃ (n : Nat) (r Y : Int), i = .int .i64 r ∧ 0 ≤ r ∧ r ≤ 40000 ∧ Hid (Y = 2000 + n) ∧ Hid (yS n + r = day) ∧ 2000 ≤ Y ∧ Y ≤ 2110 ∧ DB wr (w.heap.size + 1) Y 1 0 ∧ DB wr w.heap.size 0 0 0 ∧ Below w.heap.size w wr) (fun i _ => (intOf i).toNat)
  case atStart =>
    refine ⟨0, day, 2000, rfl, h1, h2, rfl, by simp [yS, Hid], by omega, by omega, ?_, ?_, ?_⟩
    · have := DB.new (w := w.alloc (.cells #[.int .i64 0, .int .i64 0, .int .i64 0] 57 (0, 0))) 2000 1 0
      simpa using this
    · exact (DB.new (w := w) _ _ _).alloc _
    · exact ((Below.refl _ _).alloc (Nat.le_refl _) _).alloc (by simp) _
  case round =>
    obtain ⟨n, r, Y, rfl, r0, r1, hY, hsum, y0, y1, hD, hR, hB⟩ := hrel
    have ydi := yd_in Y
    have HD : Hid (DB wr (w.heap.size + 1) Y 1 0) := hD
    have HR : Hid (DB wr w.heap.size 0 0 0) := hR
    have HB : Hid (Below w.heap.size w wr) := hB
    have c0 := hD.c0
    have c1 := hD.c1
    have c2 := hD.c2
    have f0 := hD.fr 0
    have f1 := hD.fr 1
    have f2 := hD.fr 2
    clear hD hR hB
    by_cases hr : r < yd Y
    · go_wp2_with (go_at_call 61; refine (yearDays_any _ _ (by omega)).mono ?_; rintro e w' ⟨rfl, rfl⟩)
      go_loopw [0] (fun i wq => ∃ (k : Nat) (q M : Int), i = .int .i64 q ∧ 0 ≤ q ∧ q ≤ 366 ∧ Hid (M = k + 1) ∧ Hid (mS Y k + q = r) ∧ Hid (k < 12) ∧ 1 ≤ M ∧ M ≤ 12 ∧ DB wq (w.heap.size + 1) Y M 0 ∧ DB wq w.heap.size 0 0 0 ∧ Below w.heap.size w wq) (fun i _ => (intOf i).toNat)
      case atStart => exact ⟨0, r, 1, rfl, r0, by omega, rfl, by simp [mS, Hid], by simp [Hid], by omega, by omega, HD.out, HR.out, HB.out⟩
      case round =>
        clear c0 c1 c2 f0 f1 f2 HD HR HB
        obtain ⟨k, q, M, rfl, q0, q1, hM, hq, hk, m1, m2, hD, hR, hB⟩ := hrel
        have mdi := md_in Y M
        have HD : Hid (DB wr (w.heap.size + 1) Y M 0) := hD
        have HR : Hid (DB wr w.heap.size 0 0 0) := hR
        have HB : Hid (Below w.heap.size w wr) := hB
        have c0 := hD.c0
        have c1 := hD.c1
        have c2 := hD.c2
        have f0 := hD.fr 0
        have f1 := hD.fr 1
        have f2 := hD.fr 2
        have g0 := hR.fr 0
        have g1 := hR.fr 1
        have g2 := hR.fr 2
        have b0 := hR.c0
        have b1 := hR.c1
        have b2 := hR.c2
        have MT : Hid (ML wr) := HT.out.below hB hp
        clear hD hR hB
        by_cases hr2 : q < md Y M
        · go_wp2_with (go_at_call 39; refine (monthDays_any _ _ _ (by omega) (by omega) (by omega) MT.out).mono ?_; rintro e w' ⟨rfl, rfl⟩)
          have D3 := (((HR.out.other (o := 2) (Value.int IntKind.i64 (q + 1)) (c := w.heap.size + 1) (by omega)).set0 Y).set1 M).set2 (q + 1)
          have B3 := (((HB.out.setCell (p := ⟨w.heap.size + 1, 2, none⟩) (by simp) (.int .i64 (q + 1))).setCell (p := ⟨w.heap.size, 0, none⟩) (by simp) (.int .i64 Y)).setCell (p := ⟨w.heap.size, 1, none⟩) (by simp) (.int .i64 M)).setCell (p := ⟨w.heap.size, 2, none⟩) (by simp) (.int .i64 (q + 1))
          have hdat : dat day = (Y, M, q + 1) := dat_eq ⟨n, k, hY.out, hM.out, hk.out, by omega, by omega, by have := hsum.out; have := hq.out; omega⟩ h1 h2
          revert D3 B3
          generalize ((((w'.setCell ⟨w.heap.size + 1, 2, none⟩ (.int .i64 (q + 1))).setCell ⟨w.heap.size, 0, none⟩ (.int .i64 Y)).setCell ⟨w.heap.size, 1, none⟩ (.int .i64 M)).setCell ⟨w.heap.size, 2, none⟩ (.int .i64 (q + 1))) = W
          intro D3 B3
          clear c0 c1 c2 f0 f1 f2 g0 g1 g2 b0 b1 b2
          have e0 := D3.c0
          have e1 := D3.c1
          have e2 := D3.c2
          clear D3
          rw [hdat]
          try simp only [Exit.inBlock, Exit.then]
          refine bodyPost_ret (by simp [results, Tryd.results38, go_sem, e0, e1, e2]; try rfl) rfl ?_
          exact ⟨rfl, B3⟩
        · have hM2 : M ≤ 11 := by
            have := hM.out; have := hq.out; have := hk.out
            rcases Nat.lt_or_ge (k + 1) 12 with g | g
            · omega
            · obtain rfl : k = 11 := by omega
              have e := mS12 Y
              rw [mS_step] at e
              rw [← hM.out] at e
              omega
          go_wp2_with (go_at_call 39; refine (monthDays_any _ _ _ (by omega) (by omega) (by omega) MT.out).mono ?_; rintro e w' ⟨rfl, rfl⟩)
          go_roundw
          case rel =>
            refine ⟨k + 1, _, _, rfl, by omega, by omega, by have := hM.out; unfold Hid; push_cast; omega, ?_, by have := hM.out; unfold Hid; omega, by omega, by omega, HD.out.set1 _, HR.out.other _ (by omega), ?_⟩
            · have := hM.out; have := hq.out; unfold Hid; rw [mS_step, ← hM.out]; omega
            · exact HB.out.setCell (by simp) _
          case measure => simp [intOf]; omega
    · have hn : Y ≤ 2109 := by have := yS_ge n; have := hY.out; have := hsum.out; omega
      go_wp2_with (go_at_call 61; refine (yearDays_any _ _ (by omega)).mono ?_; rintro e w' ⟨rfl, rfl⟩)
      go_roundw
      case rel =>
        refine ⟨n + 1, _, _, rfl, by omega, by omega, by have := hY.out; unfold Hid; push_cast; omega, ?_, by omega, by omega, HD.out.set0 _, HR.out.other _ (by omega), ?_⟩
        · have := hY.out; have := hsum.out; unfold Hid; rw [yS_step, ← hY.out]; omega
        · exact HB.out.setCell (by simp) _
      case measure => simp [intOf]; omega

theorem implDateOf_out (day : Int) (w : World) (h : ¬ (0 ≤ day ∧ day ≤ 40000)) :
    Calls Tryd.prog 38 #[.int .i64 day] w fun e w' => e = .returned (dateA (dat day)) ∧ Below w.heap.size w w' := by
  have hd := dayB_f h
  rw [dat_none h]
  go_enter Tryd.func38, Tryd.ntmps38
  go_wp2_with (go_at_call 18; refine (isDay_any _ _).mono ?_; rintro e w' ⟨rfl, rfl⟩; rw [hd])
  go_returns
  exact ⟨rfl, by first | exact ((Below.refl _ _).alloc (Nat.le_refl _) _) | exact ((((Below.refl _ _).alloc (Nat.le_refl _) _).setCell (by simp) _).setCell (by simp) _).setCell (by simp) _⟩

/-- DateOf of the program. -/
theorem implDateOf_any (day : Int) (w : World) (ht : ML w) (hp : 0 < w.heap.size) :
    Calls Tryd.prog 38 #[.int .i64 day] w fun e w' => e = .returned (dateA (dat day)) ∧ Below w.heap.size w w' := by
  by_cases h : 0 ≤ day ∧ day ≤ 40000
  · exact implDateOf_in day w h.1 h.2 ht hp
  · exact implDateOf_out day w h

end Go.Proofs.YtlhgmdmbjpaakaaDoor.Dt
