/- The rules of all codes, told by the model: l10Rules. -/
import Derived.Test.YtbhghghkgojpgaaTi
import Derived.Test.YtbhghghkgojpgaaAo
import Derived.Deep.QuietTactic
namespace Go.Proofs.Ytbhghghkgojpgaa
open Go Go.ChangeShapes Go.WideShapes Go.ChangeAt Go.RowKit
set_option linter.unusedVariables false
set_option linter.unusedSimpArgs false

def fl5 (u : Nat → T5) : Nat → List Value
  | 0 => []
  | n + 1 => fl5 u n ++ [.string (u n).code, .int .i64 (u n).fr, .int .i64 (u n).to, .int .i64 (u n).rate, .int .i64 (u n).kind]
theorem fl5_len (u : Nat → T5) : ∀ n, (fl5 u n).length = n * 5
  | 0 => rfl
  | n + 1 => by rw [fl5, List.length_append, fl5_len u n]; simp; omega
theorem fl5_get (u : Nat → T5) : ∀ n j, j < n → (fl5 u n)[j * 5]? = some (.string (u j).code) ∧ (fl5 u n)[j * 5 + 1]? = some (.int .i64 (u j).fr) ∧ (fl5 u n)[j * 5 + 2]? = some (.int .i64 (u j).to) ∧ (fl5 u n)[j * 5 + 3]? = some (.int .i64 (u j).rate) ∧ (fl5 u n)[j * 5 + 4]? = some (.int .i64 (u j).kind)
  | 0, j, h => by omega
  | n + 1, j, h => by
    have hl := fl5_len u n
    rw [fl5]
    by_cases e : j = n
    · subst e
      refine ⟨?_, ?_, ?_, ?_, ?_⟩ <;> (rw [List.getElem?_append_right (by omega), hl]; simp)
    · obtain ⟨a, b, c, d, e⟩ := fl5_get u n j (by omega)
      refine ⟨?_, ?_, ?_, ?_, ?_⟩ <;> (rw [List.getElem?_append_left (by omega)]; assumption)
theorem row_TR {w : World} {base n : Nat} {ad : Option Addr} {cp : Nat} {u : Nat → T5} (h : w.ownsRow base 79 5 (.slice ad n cp) n (fl5 u n)) : TR w ad n u := by
  by_cases h0 : n = 0
  · exact .inl h0
  rcases h.2 with ⟨_, e⟩ | ⟨g, cap, cur, e, hb, hg, _, _, _, ht⟩
  · omega
  · simp only [Value.slice.injEq] at e
    obtain ⟨rfl, _, _⟩ := e
    have hC : CB w g cur 79 := hg
    refine TR.of_block hC n u fun j hj => ?_
    obtain ⟨a, b, c, d, e⟩ := fl5_get u n j hj
    rw [← ht] at a b c d e
    rw [List.getElem?_take, if_pos (by omega)] at a b c d e
    exact ⟨by simpa using a, by simpa using b, by simpa using c, by simpa using d, by simpa using e⟩
theorem bel_grown {B : Nat} {A w w' : World} {row : Option Nat} (h : Below B A w) (hA : B ≤ A.heap.size) (g : w.grownBy w' row) (hr : ∀ r, row = some r → B ≤ r) : Below B A w' :=
  h.trans ⟨g.os, g.tape, g.output, g.size, fun k hk => g.block k (Nat.lt_of_lt_of_le hk (Nat.le_trans hA h.size)) (fun e => by have := hr k e.symm; omega)⟩
theorem own_ge {w : World} {base n : Nat} {t : TypeId} {sz : Nat} {v : Value} {xs : List Value} (h : w.ownsRow base t sz v n xs) : ∀ r, v.ownBlock = some r → base ≤ r := fun r hr => (h.lt r hr).1
set_option maxRecDepth 100000 in
theorem info79 : ∃ i, Try.prog.info? 79 = some i ∧ i.zero = some (.agg #[.string ByteArray.empty, .int .i64 0, .int .i64 0, .int .i64 0, .int .i64 0]) ∧ i.size = 5 ∧ i.bytes = 48 := by
  obtain ⟨i0, hi⟩ : ∃ i, Try.prog.info? 79 = some i := ⟨_, rfl⟩
  have hz0 : i0.zero = some (.agg #[.string ByteArray.empty, .int .i64 0, .int .i64 0, .int .i64 0, .int .i64 0]) := by
    have : (Try.prog.info? 79).bind (·.zero) = some (.agg #[.string ByteArray.empty, .int .i64 0, .int .i64 0, .int .i64 0, .int .i64 0]) := by kernel_rfl
    rw [hi] at this; exact this
  have hz1 : i0.size = 5 := by
    have : (Try.prog.info? 79).map (·.size) = some 5 := by kernel_rfl
    rw [hi] at this; simpa using this
  have hz2 : i0.bytes = 48 := by
    have : (Try.prog.info? 79).map (·.bytes) = some 48 := by kernel_rfl
    rw [hi] at this; simpa using this
  exact ⟨i0, hi, hz0, hz1, hz2⟩
theorem tIn_eq {x lo hi : Int} {v : Bool} (w : World) (h : inB x lo hi = v) : Calls Try.prog 56 #[.int .i64 x, .int .i64 lo, .int .i64 hi] w fun e w' => e = .returned (.bool v) ∧ w' = w := h ▸ l1In_any x lo hi w
theorem bdN {n : Nat} {A W : World} (h : Below n A W) (q : Nat) : Below n A (W.drewN q) := ⟨h.os, h.tape, h.output, h.size, h.block⟩

/-- What l10Rules leaves. -/
def RlP (n : Nat) (c : Nat → T5) (m : Nat) (cs : Nat → ByteArray) (f : Nat) (fs : Nat → ByteArray) (d : Int) (w : World) (e : Ending) (w' : World) : Prop :=
  Below w.heap.size w w' ∧ ((UsP n c m cs d ∧ ∃ ad cp, e = .returned (.tuple #[.slice ad m cp, .bool true]) ∧ TR w' ad m (usR n c cs f fs d)) ∨ (¬ UsP n c m cs d ∧ ∃ ad l cp, e = .returned (.tuple #[.slice ad l cp, .bool false])))

set_option maxRecDepth 20000 in
set_option maxHeartbeats 8000000 in
theorem l10Rules_any (ad : Option Addr) (n cap : Nat) (c : Nat → T5) (ca : Option Addr) (m ccap : Nat) (cs : Nat → ByteArray) (fa : Option Addr) (f fcap : Nat) (fs : Nat → ByteArray) (d : Int) (w : World) (hP : TrP n c) (hm : m ≤ 6) (hf : (f : Int) ≤ 1048576) (hcc : m ≤ ccap) (hr : TR w ad n c) (hc : STR w ca m cs) (hfr : STR w fa f fs) :
    Calls Try.prog 48 #[.slice ad n cap, .slice ca m ccap, .slice fa f fcap, .int .i64 d] w (RlP n c m cs f fs d w) := by
  obtain ⟨i0, hi, hz0, hz1, hz2⟩ := info79
  have HPP : Hid (TrP n c) := hP
  have hn60 : (n : Int) ≤ 60 := by have := hP.1; omega
  have HR : Hid (TR w ad n c) := hr
  have HC : Hid (STR w ca m cs) := hc
  have HF : Hid (STR w fa f fs) := hfr
  clear hr hc hfr hP
  go_enter Try.func48, Try.ntmps48
  go_wp2
  go_loopw [10, 11] (fun v i wr => ∃ (k : Nat) (oa : Option Addr) (oc : Nat), k ≤ m ∧ i = .int .i64 (k : Int) ∧ v = .slice oa k oc ∧ Hid (wr.ownsRow w.heap.size 79 5 (.slice oa k oc) k (fl5 (usR n c cs f fs d) k) ∧ (∀ j, j < k → UsAt n c cs d j) ∧ Below w.heap.size w wr)) (fun _ i _ => m - (intOf i).toNat)
  case atStart => exact ⟨0, _, _, Nat.zero_le _, rfl, rfl, ⟨rfl, .inr ⟨w.heap.size, 0, #[], rfl, Nat.le_refl _, CB.new _ _, Nat.le_refl _, Nat.zero_le _, rfl, rfl⟩⟩, fun j hj => by omega, (Below.refl _ _).alloc (Nat.le_refl _) _⟩
  case round =>
    obtain ⟨k, oa, oc, hk, rfl, rfl, HH⟩ := hrel
    obtain ⟨wo, rfl⟩ : ∃ x, x = wr := ⟨wr, rfl⟩
    by_cases hlt : k < m
    · have hlt2 : (k : Int) < (m : Int) := by omega
      have hkc : (k : Int) ≤ (ccap : Int) := by omega
      have hk6 : (k : Int) ≤ 1048576 := by omega
      obtain ⟨kb, off, rfl, hkb⟩ := HC.out.addr (by omega)
      obtain ⟨s, hs⟩ : ∃ s, cs k = s := ⟨_, rfl⟩
      have HS : Hid (cs k = s) := hs
      clear hs
      go_wp2
      go_loopw [10, 12, 13] (fun v fd i wr => ∃ (j nn : Nat) (pa : Option Addr) (pc : Nat), j ≤ n ∧ i = .int .i64 (j : Int) ∧ v = .slice pa nn pc ∧ Hid (wr.ownsRow w.heap.size 79 5 (.slice pa nn pc) nn (fl5 (usR n c cs f fs d) nn) ∧ Below w.heap.size w wr) ∧ ((fd = .bool false ∧ nn = k ∧ Hid (∀ x, x < j → onB (c x) s d = false)) ∨ (fd = .bool true ∧ nn = k + 1 ∧ Hid (∃ x : Nat, x < j ∧ ixR n c s d = (x : Int) ∧ onB (c x) s d = true)))) (fun _ _ i _ => n - (intOf i).toNat)
      case atStart => exact ⟨0, k, oa, oc, Nat.zero_le _, rfl, rfl, ⟨HH.out.1, HH.out.2.2⟩, .inl ⟨rfl, rfl, fun x hx => by omega⟩⟩
      case round =>
        obtain ⟨j, nn, pa, pc, hj, rfl, rfl, HO, hfd⟩ := hrel
        obtain ⟨wi, rfl⟩ : ∃ x, x = wr := ⟨wr, rfl⟩
        by_cases hjn : j < n
        · have hjn2 : (j : Int) < (n : Int) := by omega
          obtain ⟨rb, roff, rfl, hrb⟩ := HR.out.addr (by omega)
          obtain ⟨c0, c1, c2, c3, c4⟩ := (HR.out.below HO.out.2).cell hjn
          have s0 := (HC.out.below HO.out.2).cell hlt
          rw [HS.out] at s0
          obtain ⟨r, hr⟩ : ∃ r, c j = r := ⟨_, rfl⟩
          have HX : Hid (c j = r) := hr
          rw [hr] at c0 c1 c2 c3 c4
          obtain ⟨q0, q1, q2, q3, q4⟩ := r
          simp only at c0 c1 c2 c3 c4
          clear hr
          by_cases g : q0 = s
          · cases gd : inB d q1 q2
            · have HNO : Hid (onB (c j) s d = false) := hid (by rw [HX.out]; simp [onB, gd])
              have e1 := lists_t g
              have HGD : Hid (inB d q1 q2 = false) := gd
              clear g gd
              rcases hfd with ⟨rfl, rfl, HN⟩ | ⟨rfl, rfl, HN⟩
              · have HF2 : Hid (∀ x, x < j + 1 → onB (c x) s d = false) := hid (fun x hx => by
                  by_cases e : x = j
                  · subst e; exact HNO.out
                  · exact HN.out x (by omega))
                go_wp2
                go_quiet (first | (go_at_call 56; exact Calls.quiet_of_same (tIn_eq _ HGD.out)))
                go_wp2
                go_roundw
                case rel => exact ⟨j + 1, nn, pa, pc, by omega, by go_num, rfl, ⟨HO.out.1, bdN HO.out.2 _⟩, .inl ⟨rfl, rfl, HF2.out⟩⟩
                case measure => simp [intOf]; omega
              · go_wp2
                go_quiet (first | (go_at_call 56; exact Calls.quiet_of_same (tIn_eq _ HGD.out)))
                go_wp2
                go_roundw
                case rel => exact ⟨j + 1, k + 1, pa, pc, by omega, by go_num, rfl, ⟨HO.out.1, bdN HO.out.2 _⟩, .inr ⟨rfl, rfl, by obtain ⟨x, h1, h2, h3⟩ := HN.out; exact ⟨x, by omega, h2, h3⟩⟩⟩
                case measure => simp [intOf]; omega
            · have HYES : Hid (onB (c j) s d = true) := hid (by rw [HX.out]; simp [onB, g, gd])
              have e1 := lists_t g
              have HGD : Hid (inB d q1 q2 = true) := gd
              clear gd
              rcases hfd with ⟨rfl, rfl, HN⟩ | ⟨rfl, rfl, HN⟩
              case inr =>
                exfalso
                obtain ⟨x, h1, h2, h3⟩ := HN.out
                have := on_one HPP.out (i := x) (j := j) (by omega) hjn h3 HYES.out
                omega
              have HIX : Hid (ixR n c s d = (j : Int)) := hid (by
                rcases ixR_spec n c s d with ⟨h1, h2⟩ | ⟨x, h1, h2, h3, h4⟩
                · have := h2 j hjn; rw [HYES.out] at this; cases this
                · have := on_one HPP.out h2 hjn h3 HYES.out; rw [← this]; exact h1)
              cases hfree : hasS f fs q0
              · have HFR : Hid (hasS f fs q0 = false) := hfree
                have HU : Hid (usR n c cs f fs d nn = ⟨q0, q1, q2, q3, q4⟩) := hid (by unfold usR; simp only; rw [HS.out, HIX.out, Int.toNat_natCast, HX.out, ← g, hfree]; rfl)
                have HST : Hid (∀ W : World, Below wi.heap.size wi W → STR W fa f fs) := hid (fun W hW => (HF.out.below HO.out.2).below hW)
                clear hfree g
                go_wp2
                go_quiet (first | (go_at_call 56; exact Calls.quiet_of_same (tIn_eq _ HGD.out)))
                have z0 : (wi.drewN nq).cell? ⟨rb, roff + j * 5 , none⟩ = some (.string q0) := c0
                have z1 : (wi.drewN nq).cell? ⟨rb, roff + j * 5 + 1, none⟩ = some (.int .i64 q1) := c1
                have z2 : (wi.drewN nq).cell? ⟨rb, roff + j * 5 + 2, none⟩ = some (.int .i64 q2) := c2
                have z3 : (wi.drewN nq).cell? ⟨rb, roff + j * 5 + 3, none⟩ = some (.int .i64 q3) := c3
                have z4 : (wi.drewN nq).cell? ⟨rb, roff + j * 5 + 4, none⟩ = some (.int .i64 q4) := c4
                have HO2 : Hid ((wi.drewN nq).ownsRow w.heap.size 79 5 (.slice pa nn pc) nn (fl5 (usR n c cs f fs d) nn) ∧ Below w.heap.size w (wi.drewN nq)) := hid ⟨arow_keep HO.out.1 (bdN (Below.refl _ _) _), bdN HO.out.2 _⟩
                have HST2 : Hid (∀ W : World, Below (wi.drewN nq).heap.size (wi.drewN nq) W → STR W fa f fs) := hid (fun W hW => (HF.out.below (bdN HO.out.2 _)).below hW)
                clear c0 c1 c2 c3 c4 s0 HO HST
                generalize wi.drewN nq = wq at z0 z1 z2 z3 z4 HO2 HST2 ⊢
                go_wp2_with (first | (go_at_call 57; refine (l10Has_eq _ _ _ fs q0 _ _ hf (HST2.out _ (by go_grown)) HFR.out).mono ?_; rintro e w2 ⟨rfl, rfl⟩) | (at_builtin; go_loud (refine wpList_append_own_at _ rfl _ _ 24 rfl w.heap.size 79 i0 (.agg #[.string ByteArray.empty, .int .i64 0, .int .i64 0, .int .i64 0, .int .i64 0]) 5 48 Try.underlying24 hi hz0 hz1 hz2 rfl (by decide) (.slice pa nn pc) nn (fl5 (usR n c cs f fs d) nn) rfl (arow_keep (w := wq) HO2.out.1 (by go_grown)) ⟨wq.heap.size + 1, 0, none⟩ 1 1 [.string q0, .int .i64 q1, .int .i64 q2, .int .i64 q3, .int .i64 q4] rfl rfl (acells_at (by simp)) (fun u hu => by simp at hu; rcases hu with rfl | rfl | rfl | rfl | rfl <;> rfl) (by unfold maxLen; omega) (by omega) (by have := HO2.out.2.size; simp; omega) ?_); intro v9 w9 hown hgrow hnil hat; obtain ⟨pa9, pc9, rfl⟩ := arow_form hown; have HOW : Hid (w9.ownsRow w.heap.size 79 5 (.slice pa9 (nn + 1) pc9) (nn + 1) (fl5 (usR n c cs f fs d) (nn + 1))) := hid (by rw [fl5, HU.out]; exact hown); have HB9 : Hid (Below w.heap.size w w9) := hid (bel_grown (bel_on HO2.out.2 (by go_grown)) (Nat.le_refl _) hgrow (own_ge HO2.out.1)); clear hown hgrow hnil hat))
                go_roundw
                case rel => exact ⟨j + 1, nn + 1, pa9, pc9, by omega, by go_num, rfl, ⟨HOW.out, HB9.out⟩, .inr ⟨rfl, rfl, j, by omega, HIX.out, HYES.out⟩⟩
                case measure => simp [intOf]; omega
              · have HFR : Hid (hasS f fs q0 = true) := hfree
                have HU : Hid (usR n c cs f fs d nn = ⟨q0, q1, q2, 0, q4⟩) := hid (by unfold usR; simp only; rw [HS.out, HIX.out, Int.toNat_natCast, HX.out, ← g, hfree]; rfl)
                have HST : Hid (∀ W : World, Below wi.heap.size wi W → STR W fa f fs) := hid (fun W hW => (HF.out.below HO.out.2).below hW)
                clear hfree g
                go_wp2
                go_quiet (first | (go_at_call 56; exact Calls.quiet_of_same (tIn_eq _ HGD.out)))
                have z0 : (wi.drewN nq).cell? ⟨rb, roff + j * 5 , none⟩ = some (.string q0) := c0
                have z1 : (wi.drewN nq).cell? ⟨rb, roff + j * 5 + 1, none⟩ = some (.int .i64 q1) := c1
                have z2 : (wi.drewN nq).cell? ⟨rb, roff + j * 5 + 2, none⟩ = some (.int .i64 q2) := c2
                have z3 : (wi.drewN nq).cell? ⟨rb, roff + j * 5 + 3, none⟩ = some (.int .i64 q3) := c3
                have z4 : (wi.drewN nq).cell? ⟨rb, roff + j * 5 + 4, none⟩ = some (.int .i64 q4) := c4
                have HO2 : Hid ((wi.drewN nq).ownsRow w.heap.size 79 5 (.slice pa nn pc) nn (fl5 (usR n c cs f fs d) nn) ∧ Below w.heap.size w (wi.drewN nq)) := hid ⟨arow_keep HO.out.1 (bdN (Below.refl _ _) _), bdN HO.out.2 _⟩
                have HST2 : Hid (∀ W : World, Below (wi.drewN nq).heap.size (wi.drewN nq) W → STR W fa f fs) := hid (fun W hW => (HF.out.below (bdN HO.out.2 _)).below hW)
                clear c0 c1 c2 c3 c4 s0 HO HST
                generalize wi.drewN nq = wq at z0 z1 z2 z3 z4 HO2 HST2 ⊢
                go_wp2_with (first | (go_at_call 57; refine (l10Has_eq _ _ _ fs q0 _ _ hf (HST2.out _ (by go_grown)) HFR.out).mono ?_; rintro e w2 ⟨rfl, rfl⟩) | (at_builtin; go_loud (refine wpList_append_own_at _ rfl _ _ 24 rfl w.heap.size 79 i0 (.agg #[.string ByteArray.empty, .int .i64 0, .int .i64 0, .int .i64 0, .int .i64 0]) 5 48 Try.underlying24 hi hz0 hz1 hz2 rfl (by decide) (.slice pa nn pc) nn (fl5 (usR n c cs f fs d) nn) rfl (arow_keep (w := wq) HO2.out.1 (by go_grown)) ⟨wq.heap.size + 1, 0, none⟩ 1 1 [.string q0, .int .i64 q1, .int .i64 q2, .int .i64 0, .int .i64 q4] rfl rfl (acells_at (by simp)) (fun u hu => by simp at hu; rcases hu with rfl | rfl | rfl | rfl | rfl <;> rfl) (by unfold maxLen; omega) (by omega) (by have := HO2.out.2.size; simp; omega) ?_); intro v9 w9 hown hgrow hnil hat; obtain ⟨pa9, pc9, rfl⟩ := arow_form hown; have HOW : Hid (w9.ownsRow w.heap.size 79 5 (.slice pa9 (nn + 1) pc9) (nn + 1) (fl5 (usR n c cs f fs d) (nn + 1))) := hid (by rw [fl5, HU.out]; exact hown); have HB9 : Hid (Below w.heap.size w w9) := hid (bel_grown (bel_on HO2.out.2 (by go_grown)) (Nat.le_refl _) hgrow (own_ge HO2.out.1)); clear hown hgrow hnil hat))
                go_roundw
                case rel => exact ⟨j + 1, nn + 1, pa9, pc9, by omega, by go_num, rfl, ⟨HOW.out, HB9.out⟩, .inr ⟨rfl, rfl, j, by omega, HIX.out, HYES.out⟩⟩
                case measure => simp [intOf]; omega
          · have HNO : Hid (onB (c j) s d = false) := hid (by rw [HX.out]; simp [onB, g])
            have e1 := lists_f g
            clear g
            rcases hfd with ⟨rfl, rfl, HN⟩ | ⟨rfl, rfl, HN⟩
            · have HF2 : Hid (∀ x, x < j + 1 → onB (c x) s d = false) := hid (fun x hx => by
                by_cases e : x = j
                · subst e; exact HNO.out
                · exact HN.out x (by omega))
              go_wp2
              go_quiet (fail)
              go_wp2
              go_roundw
              case rel => exact ⟨j + 1, nn, pa, pc, by omega, by go_num, rfl, ⟨HO.out.1, bdN HO.out.2 _⟩, .inl ⟨rfl, rfl, HF2.out⟩⟩
              case measure => simp [intOf]; omega
            · go_wp2
              go_quiet (fail)
              go_wp2
              go_roundw
              case rel => exact ⟨j + 1, k + 1, pa, pc, by omega, by go_num, rfl, ⟨HO.out.1, bdN HO.out.2 _⟩, .inr ⟨rfl, rfl, by obtain ⟨x, h1, h2, h3⟩ := HN.out; exact ⟨x, by omega, h2, h3⟩⟩⟩
              case measure => simp [intOf]; omega
        · obtain rfl : j = n := by omega
          have lkk : ¬ (j : Int) < (j : Int) := by omega
          rcases hfd with ⟨rfl, rfl, HN⟩ | ⟨rfl, rfl, HN⟩
          · have HNP : Hid (¬ UsP j c m cs d) := hid (fun H => by
              have h1 := (H nn hlt).1
              rw [HS.out] at h1
              rcases ixR_spec j c s d with ⟨h2, _⟩ | ⟨x, h2, h3, h4, _⟩
              · rw [h2] at h1; omega
              · have := HN.out x h3; rw [h4] at this; cases this)
            go_wp2
            go_quiet (fail)
            go_wp2
            go_returns
            exact ⟨bdN HO.out.2 _, .inr ⟨HNP.out, _, _, _, rfl⟩⟩
          · have s0 := (HC.out.below HO.out.2).cell hlt
            rw [HS.out] at s0
            have HST : Hid (∀ W : World, Below wi.heap.size wi W → STR W (some ⟨kb, off, none⟩) k cs) := hid (fun W hW => ((HC.out.mono hk).below HO.out.2).below hW)
            have HAT : Hid (hasS k cs s = false → ∀ x, x < k + 1 → UsAt j c cs d x) := hid (fun hd x hx => by
              by_cases e : x = k
              · subst e
                obtain ⟨y, _, h2, _⟩ := HN.out
                exact ⟨by rw [HS.out, h2]; omega, by rw [HS.out]; exact hd⟩
              · exact HH.out.2.1 x (by omega))
            cases hd : hasS k cs s
            · have HD : Hid (hasS k cs s = false) := hd
              clear hd
              go_wp2
              go_quiet (first | (go_at_call 57; exact Calls.quiet_of_same (l10Has_eq _ _ _ cs s _ _ hk6 (HST.out _ (by first | exact Below.refl _ _ | exact bdN (Below.refl _ _) _)) HD.out)))
              go_wp2
              go_roundw
              case rel => exact ⟨k + 1, pa, pc, by omega, by go_num, rfl, HO.out.1, HAT.out HD.out, bdN HO.out.2 _⟩
              case measure => simp [intOf]; omega
            · have HD : Hid (hasS k cs s = true) := hd
              have HNP : Hid (¬ UsP j c m cs d) := hid (fun H => by have := (H k hlt).2; rw [HS.out, hd] at this; cases this)
              clear hd
              go_wp2
              go_quiet (first | (go_at_call 57; exact Calls.quiet_of_same (l10Has_eq _ _ _ cs s _ _ hk6 (HST.out _ (by first | exact Below.refl _ _ | exact bdN (Below.refl _ _) _)) HD.out)))
              go_wp2
              go_returns
              exact ⟨bdN HO.out.2 _, .inr ⟨HNP.out, _, _, _, rfl⟩⟩
    · obtain rfl : k = m := by omega
      have lkk : ¬ (k : Int) < (k : Int) := by omega
      have HT : Hid (TR wo oa k (usR n c cs f fs d)) := row_TR HH.out.1
      go_wp2
      go_returns
      exact ⟨HH.out.2.2, .inl ⟨HH.out.2.1, _, _, rfl, HT.out⟩⟩
end Go.Proofs.Ytbhghghkgojpgaa
