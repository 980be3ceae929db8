/- Contract of the program's HeadOf: it answers headV. -/
import Derived.Test.YtapailihjlfkgaaDoorHi
namespace Go.Proofs.YtapailihjlfkgaaDoor
open Go.ChangeShapes Go.WideShapes Go.ChangeAt Go.RowKit
set_option linter.unusedVariables false
set_option linter.unusedSimpArgs false

theorem ret_int {a b : Int} (h : a = b) : Ending.returned (.int .i64 b) = .returned (.int .i64 a) := by rw [h]

theorem LR.old {w : World} {ad : Option Addr} {n : Nat} {r : Nat → L5} (H : LR w ad n r) : n = 0 ∨ ∀ k o q, ad = some ⟨k, o, q⟩ → k ≠ w.heap.size := by
  rcases H with h | ⟨k, off, e, hk, hc⟩
  · exact .inl h
  · refine .inr fun k' o q h => ?_
    rw [e] at h
    simp only [Option.some.injEq, Addr.mk.injEq] at h
    omega

set_option maxRecDepth 20000 in
set_option maxHeartbeats 4000000 in
theorem implHead_any (ad : Option Addr) (len cap : Nat) (es : Nat → E4) (w : World) (hr : ER w ad len es) :
    Calls Tryd.prog 71 #[.slice ad len cap] w fun e w' => e = .returned (.int .i64 (headV len es)) ∧ Below w.heap.size w w' := by
  have HR : Hid (ER w ad len es) := hr
  clear hr
  by_cases h : (len : Int) ≤ 1000
  · go_enter Tryd.func71, Tryd.ntmps71
    go_wp2
    go_loopw [12] (fun i wr => ∃ k : Nat, k ≤ len ∧ i = .int .i64 (k : Int) ∧ Ch wr w.heap.size (hs es k) ∧ Hid (∀ i, i < k → smallE (es i)) ∧ Below w.heap.size w wr) (fun i _ => len - (intOf i).toNat)
    case atStart => exact ⟨0, Nat.zero_le _, rfl, ⟨CB.new _ _, hs_range es 0⟩, fun i hi => by omega, (Below.refl _ _).alloc (Nat.le_refl _) _⟩
    case round =>
      obtain ⟨k, hk, rfl, C, HS, bb⟩ := hrel
      have HC : Hid (Ch wr w.heap.size (hs es k)) := C
      have HB : Hid (Below w.heap.size w wr) := bb
      by_cases hlt : k < len
      · obtain ⟨kb, off, rfl, hkb⟩ := HR.out.addr (by omega)
        obtain ⟨c1, c2, c3, la, lcap, c4, hl⟩ := HR.out.cell hlt
        replace c1 := keep_cell bb c1
        replace c2 := keep_cell bb c2
        replace c3 := keep_cell bb c3
        replace c4 := keep_cell bb c4
        have HLR : Hid (LR wr la (es k).n (es k).ls) := hl.below bb
        have HO : Hid ((es k).n = 0 ∨ ∀ k' o q, la = some ⟨k', o, q⟩ → k' ≠ w.heap.size) := hl.old
        have HE : Hid (lks (hs es k) (E4.nums ⟨(es k).day, (es k).ref, (es k).text, (es k).n, (es k).ls⟩) = hs es (k + 1)) := rfl
        clear C bb hl
        have HG : Hid (∀ h : ¬ smallE (es k), headV len es = 0) := fun h => headV_great hlt h
        by_cases g1 : ((es k).text.size : Int) ≤ 40
        · by_cases g2 : ((es k).n : Int) ≤ 60
          · have HSK : Hid (smallE (es k)) := ⟨by omega, by omega⟩
            generalize (es k).day = dd at c1 HE
            generalize (es k).ref = rr at c2 HE
            generalize (es k).text = tt at c3 HE g1
            generalize (es k).n = nn at c4 HE g2 HLR HO
            generalize (es k).ls = lls at HE HLR
            go_wp2_with (go_at_call 76; refine (tellEntry_any _ _ _ _ _ _ _ _ lls _ g1 g2 (HC.out.alloc _) (HLR.out.alloc _) HO.out).mono ?_; rintro e w1 ⟨rfl, C1, b1⟩; have HC1 : Hid (Ch w1 w.heap.size (hs es (k + 1))) := (by rw [← HE.out]; exact C1); have HB1 : Hid (Below w.heap.size w w1) := (HB.out.alloc HB.out.size _).trans (b1.to_below (by have := HB.out.size; simp; omega)); clear C1 b1)
            go_roundw
            case rel => exact ⟨k + 1, by omega, by go_num, HC1.out, fun i hi => by
              by_cases hik : i = k
              · rw [hik]; exact HSK.out
              · exact HS.out i (by omega), HB1.out⟩
            case measure => simp [intOf]; omega
          · have hz := HG.out (fun q => g2 (by have := q.2; omega))
            have HZ0 : Hid (headV len es = 0) := hz
            have HB1 : Hid (Below w.heap.size w (wr.alloc (.cells #[.int .i64 (es k).day, .int .i64 (es k).ref, .string (es k).text, .slice la (es k).n lcap] 37 (0, 0)))) := HB.out.alloc HB.out.size _
            clear hz HG
            go_wp2
            go_returns
            exact ⟨ret_int HZ0.out, HB1.out⟩
        · have hz := HG.out (fun q => g1 (by have := q.1; omega))
          have HZ0 : Hid (headV len es = 0) := hz
          have HB1 : Hid (Below w.heap.size w (wr.alloc (.cells #[.int .i64 (es k).day, .int .i64 (es k).ref, .string (es k).text, .slice la (es k).n lcap] 37 (0, 0)))) := HB.out.alloc HB.out.size _
          clear hz HG
          go_wp2
          go_returns
          exact ⟨ret_int HZ0.out, HB1.out⟩
      · obtain rfl : k = len := by omega
        have c0 := C.1.cell 0
        have c1 := C.1.cell 1
        simp [chC] at c0 c1
        clear C bb
        have HD : Hid ((hs es k).2 = false → headV k es = (hs es k).1) := fun q => headV_done (by omega) HS.out q
        have HZ : Hid ((hs es k).2 = true → headV k es = 0) := fun q => headV_broken (Nat.le_refl _) q
        generalize (hs es k).1 = h1 at c0 HD
        generalize (hs es k).2 = h2 at c1 HD HZ
        cases h2 with
        | true =>
          have HZ0 : Hid (headV k es = 0) := HZ.out rfl
          clear HZ HD
          go_wp2
          go_returns
          exact ⟨ret_int HZ0.out, HB.out⟩
        | false =>
          have HZ0 : Hid (headV k es = h1) := HD.out rfl
          clear HZ HD
          go_wp2
          go_returns
          exact ⟨ret_int HZ0.out, HB.out⟩
  · have hz := headV_long (es := es) (len := len) (by omega)
    have HZ0 : Hid (headV len es = 0) := hz
    clear hz
    go_enter Tryd.func71, Tryd.ntmps71
    go_wp2
    go_returns
    exact ⟨ret_int HZ0.out, Below.refl _ _⟩

end Go.Proofs.YtapailihjlfkgaaDoor
