/- Instalments of the model. -/
import Derived.Test.YtlhgmdmbjpaakaaDoorId
import Derived.Laws.OwnMore
import Derived.Maps.AppendAt
import Derived.WalkSmall
namespace Go.Proofs.YtlhgmdmbjpaakaaDoor
open Go Go.ChangeShapes Go.WideShapes Go.ChangeAt Go.RowKit
set_option linter.unusedVariables false
set_option linter.unusedSimpArgs false

def ivL (z : Nat → Int) : Nat → List Value
  | 0 => []
  | k + 1 => ivL z k ++ [.int .i64 (z k)]
theorem ivL_len (z : Nat → Int) : ∀ n, (ivL z n).length = n
  | 0 => rfl
  | n + 1 => by simp [ivL, ivL_len z n]
theorem ivL_one (z : Nat → Int) : ∀ n, ∀ v ∈ ivL z n, v.oneCell' = true
  | 0, v, h => by simp [ivL] at h
  | n + 1, v, h => by
    simp only [ivL, List.mem_append, List.mem_cons, List.not_mem_nil, or_false] at h
    rcases h with h | rfl
    · exact ivL_one z n v h
    · rfl
theorem ivL_get (z : Nat → Int) : ∀ n j, j < n → (ivL z n)[j]? = some (.int .i64 (z j))
  | 0, j, h => by omega
  | n + 1, j, h => by
    have e := ivL_len z n
    by_cases hj : j = n
    · subst hj; rw [ivL, List.getElem?_append_right (by omega), e, Nat.sub_self]; rfl
    · rw [ivL, List.getElem?_append_left (by omega)]; exact ivL_get z n j (by omega)
theorem earow {w w' : World} {base : Nat} {e : TypeId} {size : Nat} {v : Value} {n : Nat} {xs : List Value} (h : w.ownsRow base e size v n xs) (hb : ∀ g, v.ownBlock = some g → w'.heap[g]? = w.heap[g]?) : w'.ownsRow base e size v n xs := by
  refine ⟨h.1, ?_⟩
  rcases h.2 with hn | ⟨g, cap, cur, rfl, hb', hgg, rest⟩
  · exact .inl hn
  · refine .inr ⟨g, cap, cur, rfl, hb', ?_, rest⟩
    rw [hb g rfl]
    exact hgg
theorem egrown {B : Nat} {A w w' : World} {row : Option Nat} (h : Below B A w) (hA : B ≤ A.heap.size) (g : w.grownBy w' row) (hr : ∀ r, row = some r → B ≤ r) : Below B A w' :=
  ⟨g.os.trans h.os, g.tape.trans h.tape, g.output.trans h.output, Nat.le_trans h.size g.size, fun k hk => (g.block k (by have := h.size; omega) (fun e => by have := hr k e.symm; omega)).trans (h.block k hk)⟩
theorem ecells {w : World} {b : Nat} {l : List Value} {t : TypeId} (hb : w.heap.size = b) : ∀ j u, l[j]? = some u → (w.alloc (.cells l.toArray t (0, 0))).cell? ((⟨b, 0, none⟩ : Addr).add j) = some u := by
  intro j u hj
  have h := (CB.newAt hb l.toArray t).cell j
  have e : (⟨b, 0, none⟩ : Addr).add j = ⟨b, j, none⟩ := by
    simp only [Addr.add]; by_cases q : j = 0 <;> simp [q]
  rw [e, h]; simpa using hj
theorem eown_some {w : World} {base : Nat} {e : TypeId} {size : Nat} {v : Value} {n : Nat} {xs : List Value} (h : w.ownsRow base e size v n xs) (hn : 0 < n) : ∃ g cap, v = .slice (some ⟨g, 0, none⟩) n cap ∧ base ≤ g := by
  rcases h.2 with ⟨_, e0⟩ | ⟨g, cap, cur, rfl, hb, _⟩
  · omega
  · exact ⟨g, cap, rfl, hb⟩
/-- Ones in a row of its own, beside an empty row. -/
structure WQ (w : World) (g k oc : Nat) (W : World) : Prop where
  own : W.ownsRow (w.heap.size + 1) 3 1 (.slice (some ⟨g, 0, none⟩) k oc) k (ivL ones k)
  out : CB W w.heap.size #[] 27
  bel : Below w.heap.size w W
theorem WQ.below {w W W' : World} {g k oc : Nat} (h : WQ w g k oc W) (b : Below W.heap.size W W') : WQ w g k oc W' := ⟨earow h.own (fun q hq => b.block q (h.own.lt q hq).2), h.out.below b h.out.lt, bel_on h.bel b⟩
theorem WQ.grow {w W w9 : World} {g k oc g9 oc9 : Nat} (h : WQ w g k oc W) (hg : W.grownBy w9 (Value.slice (some ⟨g, 0, none⟩) k oc).ownBlock) (hown : w9.ownsRow (w.heap.size + 1) 3 1 (.slice (some ⟨g9, 0, none⟩) (k + 1) oc9) (k + 1) (ivL ones k ++ [.int .i64 1])) : WQ w g9 (k + 1) oc9 w9 := by
  have hgg := h.own.lt g rfl
  refine ⟨hown, ?_, egrown h.bel (Nat.le_refl _) hg (fun q hq => ?_)⟩
  · have := h.out
    unfold CB at this ⊢
    rw [hg.block _ (lt_of_block this) (by simp [Value.ownBlock]; omega)]; exact this
  · have : q = g := by simpa [Value.ownBlock] using hq.symm
    omega
/-- Instalments in a row of its own, beside the parts. -/
structure VQ (w : World) (g k oc : Nat) (F : Nat → IN4) (ads : Option Addr) (n : Nat) (p : Nat → Int) (W : World) : Prop where
  own : W.ownsRow w.heap.size 27 4 (.slice (some ⟨g, 0, none⟩) k oc) k (rowIN4 F k)
  prt : IR W ads n p
  ne : ∀ q off, ads = some ⟨q, off, none⟩ → q ≠ g
  bel : Below w.heap.size w W
theorem VQ.below {w W W' : World} {g k oc : Nat} {F : Nat → IN4} {ads : Option Addr} {n : Nat} {p : Nat → Int} (h : VQ w g k oc F ads n p W) (b : Below W.heap.size W W') : VQ w g k oc F ads n p W' := ⟨earow h.own (fun q hq => b.block q (h.own.lt q hq).2), h.prt.below b, h.ne, bel_on h.bel b⟩
theorem VQ.grow {w W w9 : World} {g k oc g9 oc9 : Nat} {F : Nat → IN4} {ads : Option Addr} {n : Nat} {p : Nat → Int} (h : VQ w g k oc F ads n p W) (hn : 0 < n) (hg : W.grownBy w9 (Value.slice (some ⟨g, 0, none⟩) k oc).ownBlock) (hown : w9.ownsRow w.heap.size 27 4 (.slice (some ⟨g9, 0, none⟩) (k + 1) oc9) (k + 1) (rowIN4 F (k + 1))) (hat : (Value.slice (some ⟨g9, 0, none⟩) (k + 1) oc9).ownBlock = (Value.slice (some ⟨g, 0, none⟩) k oc).ownBlock ∨ (Value.slice (some ⟨g9, 0, none⟩) (k + 1) oc9).ownBlock = some W.heap.size) : VQ w g9 (k + 1) oc9 F ads n p w9 := by
  have hgg := h.own.lt g rfl
  have hg9 : g9 = g ∨ g9 = W.heap.size := by simpa [Value.ownBlock] using hat
  have hlt : ∀ q off, ads = some ⟨q, off, none⟩ → 0 < n → q < W.heap.size := fun q off e hn => by
    obtain ⟨q', off', e', hq⟩ := h.prt.addr hn
    rw [e] at e'; cases e'; exact hq
  refine ⟨hown, ?_, fun q off e => ?_, egrown h.bel (Nat.le_refl _) hg (fun q hq => ?_)⟩
  · obtain ⟨q, off, e, hq⟩ := h.prt.addr hn
    subst e
    have hne := h.ne q off rfl
    refine .inr ⟨q, off, rfl, Nat.lt_of_lt_of_le hq hg.size, fun j hj => ?_⟩
    rw [World.cell?_of_block (w := W) (hg.block q hq (by simpa [Value.ownBlock] using hne))]; exact h.prt.cell hj
  · have := h.ne q off e
    have := hlt q off e hn
    omega
  · have : q = g := by simpa [Value.ownBlock] using hq.symm
    omega

set_option maxRecDepth 20000 in
set_option maxHeartbeats 8000000 in
theorem specInst_any (a ct r f : Int) (w : World) :
    Calls Tryd.prog 8 #[.int .i64 a, .int .i64 ct, .int .i64 r, .int .i64 f] w (InR a ct r f w) := by
  cases ha : inB a 1 100000000000
  · have HN : Hid (¬ CtP a ct r f) := hid (fun H => inB_f ha H.2.1)
    go_enter Tryd.func8, Tryd.ntmps8
    go_wp2_with (first | (go_at_call_of 26 a; refine (l1In_eq _ _ _ _ _ ha).mono ?_; rintro e wq ⟨rfl, ew⟩; replace ew := ew.symm; subst ew) | (go_at_call 26; refine (l1In_eq _ _ _ _ _ hc).mono ?_; rintro e wq ⟨rfl, ew⟩; replace ew := ew.symm; subst ew) | (go_at_call 27; refine (l13Rate_eq _ _ _ hr).mono ?_; rintro e wq ⟨rfl, ew⟩; replace ew := ew.symm; subst ew))
    go_returns
    exact inR_no HN.out (by go_grown)
  cases hc : inB ct 1 120
  · have HN : Hid (¬ CtP a ct r f) := hid (fun H => inB_f hc H.1)
    go_enter Tryd.func8, Tryd.ntmps8
    go_wp2_with (first | (go_at_call_of 26 a; refine (l1In_eq _ _ _ _ _ ha).mono ?_; rintro e wq ⟨rfl, ew⟩; replace ew := ew.symm; subst ew) | (go_at_call 26; refine (l1In_eq _ _ _ _ _ hc).mono ?_; rintro e wq ⟨rfl, ew⟩; replace ew := ew.symm; subst ew) | (go_at_call 27; refine (l13Rate_eq _ _ _ hr).mono ?_; rintro e wq ⟨rfl, ew⟩; replace ew := ew.symm; subst ew))
    go_returns
    exact inR_no HN.out (by go_grown)
  cases hr : inB r 0 100000
  · have HN : Hid (¬ CtP a ct r f) := hid (fun H => inB_f hr H.2.2.2.1)
    go_enter Tryd.func8, Tryd.ntmps8
    go_wp2_with (first | (go_at_call_of 26 a; refine (l1In_eq _ _ _ _ _ ha).mono ?_; rintro e wq ⟨rfl, ew⟩; replace ew := ew.symm; subst ew) | (go_at_call 26; refine (l1In_eq _ _ _ _ _ hc).mono ?_; rintro e wq ⟨rfl, ew⟩; replace ew := ew.symm; subst ew) | (go_at_call 27; refine (l13Rate_eq _ _ _ hr).mono ?_; rintro e wq ⟨rfl, ew⟩; replace ew := ew.symm; subst ew))
    go_returns
    exact inR_no HN.out (by go_grown)
  have ha2 := inB_t ha
  have hc2 := inB_t hc
  have hr2 := inB_t hr
  obtain ⟨n, hn⟩ : ∃ n : Nat, ct = (n : Int) := ⟨ct.toNat, by omega⟩
  subst hn
  have hn1 : 1 ≤ n ∧ n ≤ 120 := by omega
  obtain ⟨i3, hi3, hz30, hz31, hz32⟩ := Sh.info3
  obtain ⟨i4, hi4, hz40, hz41, hz42⟩ := infoIN4
  have HSH := hid (shares_in false ha2 hn1)
  obtain ⟨p, hpp⟩ : ∃ p, ptF a n = p := ⟨_, rfl⟩
  have HPB : Hid (∀ j, j < n → 0 ≤ p j ∧ p j ≤ 100000000000) := hid (fun j hj => by have := pt_bd ha2 hn1 hj; rw [hpp] at this; omega)
  have HPP : Hid (ptF a n = p) := hpp
  rw [hpp] at HSH
  clear hpp
  go_enter Tryd.func8, Tryd.ntmps8
  go_wp2_with (first | (go_at_call_of 26 a; refine (l1In_eq _ _ _ _ _ ha).mono ?_; rintro e wq ⟨rfl, ew⟩; replace ew := ew.symm; subst ew) | (go_at_call 26; refine (l1In_eq _ _ _ _ _ hc).mono ?_; rintro e wq ⟨rfl, ew⟩; replace ew := ew.symm; subst ew) | (go_at_call 27; refine (l13Rate_eq _ _ _ hr).mono ?_; rintro e wq ⟨rfl, ew⟩; replace ew := ew.symm; subst ew))
  clear ha hc hr
  go_loopw [10, 11] (fun v i wr => ∃ (k g oc : Nat), k ≤ n ∧ v = .slice (some ⟨g, 0, none⟩) k oc ∧ i = .int .i64 (k : Int) ∧ Hid (WQ w g k oc wr)) (fun _ i _ => n - (intOf i).toNat)
  case atStart => exact ⟨0, w.heap.size + 1, 0, Nat.zero_le _, by simp, rfl, hid ⟨⟨rfl, .inr ⟨w.heap.size + 1, 0, #[], rfl, Nat.le_refl _, CB.newAt (by simp) _ _, Nat.le_refl _, Nat.zero_le _, rfl, rfl⟩⟩, (CB.new _ _).alloc _, ((Below.refl _ _).alloc (Nat.le_refl _) _).alloc (by simp) _⟩⟩
  case round =>
    obtain ⟨k, g, oc, hk, rfl, rfl, HH⟩ := hrel
    obtain ⟨wo, rfl⟩ : ∃ x, x = wr := ⟨wr, rfl⟩
    by_cases hlt : k < n
    · have hlt2 : (k : Int) < (n : Int) := by omega
      go_wp2_with (at_builtin; go_loud (refine wpList_append_own_at _ rfl _ _ 37 rfl (w.heap.size + 1) 3 i3 (.int .i64 0) 1 8 Tryd.underlying37 hi3 hz30 hz31 hz32 rfl (by decide) (.slice (some ⟨g, 0, none⟩) k oc) k (ivL ones k) rfl (HH.out.below ((Below.refl _ _).alloc (Nat.le_refl _) _)).own ⟨wo.heap.size, 0, none⟩ 1 1 [.int .i64 1] rfl rfl (ecells rfl) (fun u hu => by simp at hu; subst hu; rfl) (by unfold maxLen; omega) (by omega) (by have := HH.out.own.lt g rfl; simp; omega) ?_); intro v9 w9 hown hgrow hnil hat; obtain ⟨g9, oc9, rfl, _⟩ := eown_some hown (by omega); have R9 : Hid (WQ w g9 (k + 1) oc9 w9) := hid ((HH.out.below ((Below.refl _ _).alloc (Nat.le_refl _) _)).grow hgrow hown); clear hown hgrow hnil hat)
      go_roundw
      case rel => exact ⟨k + 1, g9, oc9, by omega, rfl, by go_num, R9⟩
      case measure => simp [intOf]; omega
    · obtain rfl : k = n := by omega
      have lkk : ¬ (k : Int) < (k : Int) := by omega
      have HIR : Hid (IR wo (some ⟨g, 0, none⟩) k ones) := hid (own_IR HH.out.own (fun j hj => ivL_get ones k j hj))
      go_wp2_with (go_at_call 28; refine (HSH.out _ _ _ HIR.out).mono ?_; rintro e w3 ⟨ads, caps, rfl, i3', hfr, b3⟩; have HV3 : Hid (VQ w w.heap.size 0 0 (inF a k r f) ads k p w3) := hid ⟨madeIN4 (HH.out.out.below b3 HH.out.out.lt) (Nat.le_refl _), i3', fun q off e => (by have := hfr q off e; have := HH.out.out.lt; omega), bel_on HH.out.bel b3⟩; clear i3' hfr b3)
      clear HSH HIR HH
      go_loopw [9, 13, 14] (fun v x i wr => ∃ (m g oc : Nat) (V : Int), m ≤ k ∧ v = .slice (some ⟨g, 0, none⟩) m oc ∧ x = .int .i64 V ∧ i = .int .i64 (m : Int) ∧ -(100000000000 * (m : Int)) ≤ V ∧ V ≤ 100000000000 ∧ Hid (V = lfS p a m ∧ (∀ j, j < m → 0 ≤ Dt.addV f (j : Int)) ∧ VQ w g m oc (inF a k r f) ads k p wr)) (fun _ _ i _ => k - (intOf i).toNat)
      case atStart => exact ⟨0, _, 0, a, Nat.zero_le _, rfl, rfl, rfl, by omega, by omega, rfl, fun j hj => by omega, HV3.out⟩
      case round =>
        obtain ⟨m, g, oc, V, hm, rfl, rfl, rfl, hV0, hV1, HQ⟩ := hrel
        obtain ⟨wv, rfl⟩ : ∃ x, x = wr := ⟨wr, rfl⟩
        by_cases hlm : m < k
        · have hlm2 : (m : Int) < (k : Int) := by omega
          have HAD : Hid (Calls Tryd.prog 29 #[.int .i64 f, .int .i64 (m : Int)] wv fun e w' => e = .returned (.int .i64 (Dt.addV f (m : Int))) ∧ Below wv.heap.size wv w') := Dt.specAddMonths_any f m wv
          have hdd := addV_day f (m : Int)
          obtain ⟨D, hD⟩ : ∃ D, Dt.addV f (m : Int) = D := ⟨_, rfl⟩
          have HD : Hid (Dt.addV f (m : Int) = D) := hD
          rw [hD] at HAD hdd
          clear hD
          by_cases hneg : D < 0
          · have HN : Hid (¬ CtP a (k : Int) r f) := hid (fun H => by
              have := H.2.2.2.2 m (by rw [Int.toNat_natCast]; exact hlm)
              rw [HD.out] at this
              omega)
            go_wp2_with (go_at_call 29; refine HAD.out.mono ?_; rintro e w4 ⟨rfl, b4⟩; have HB4 : Hid (Below w.heap.size w w4) := hid (bel_on HQ.out.2.2.bel b4); clear b4)
            go_returns
            exact inR_no HN.out (by first | exact HB4.out.alloc HB4.out.size _ | exact bel_on HB4.out (by go_grown))
          have hday2 : 0 ≤ D ∧ D ≤ 40000 := by omega
          have hpb := HPB.out m hlm
          obtain ⟨P, hP⟩ : ∃ P, p m = P := ⟨_, rfl⟩
          rw [hP] at hpb
          have HP : Hid (p m = P) := hP
          clear hP
          have hmd := md_abs V r 100000 3
          have HMD : Hid (∀ w, Calls Tryd.prog 30 #[.int .i64 V, .int .i64 r, .int .i64 100000, .int .i64 3] w fun e w' => e = .returned (.tuple #[.int .i64 (mdV V r 100000 3), .bool (mdB V r 100000 3)]) ∧ w' = w) := fun w => specMulDiv_any V r 100000 3 w
          obtain ⟨M, hM⟩ : ∃ M, mdV V r 100000 3 = M := ⟨_, rfl⟩
          obtain ⟨MB, hMB⟩ : ∃ M, mdB V r 100000 3 = M := ⟨_, rfl⟩
          rw [hM, hMB] at HMD
          have HF : Hid (inF a k r f m = ⟨D, P, M, V - P⟩) := hid (by unfold inF; rw [HPP.out, HD.out, HP.out, ← HQ.out.1, hM]; unfold lfS; rw [← HQ.out.1, HP.out])
          have HL : Hid (V - P = lfS p a (m + 1)) := hid (by unfold lfS; rw [← HQ.out.1, HP.out])
          have HG : Hid (∀ j, j < m + 1 → 0 ≤ Dt.addV f (j : Int)) := hid (fun j hj => by by_cases e : j = m; (subst e; rw [HD.out]; exact hday2.1); (exact HQ.out.2.1 j (by omega)))
          rw [hM] at hmd
          obtain ⟨kb, off, rfl, hkb⟩ := HQ.out.2.2.prt.addr (by omega)
          clear hM hMB
          go_wp2_with (first
            | (go_at_call 29; refine HAD.out.mono ?_; rintro e w4 ⟨rfl, b4⟩; have HQ4 : Hid (VQ w g m oc (inF a k r f) (some ⟨kb, off, none⟩) k p w4) := hid (HQ.out.2.2.below b4); have c0 : w4.cell? ⟨kb, off + m, none⟩ = some (.int .i64 P) := (by have := HQ4.out.prt.cell hlm; rw [HP.out] at this; exact this); clear b4)
            | (go_at_call 30; refine (HMD.out _).mono ?_; rintro e wq ⟨rfl, ew⟩; replace ew := ew.symm; subst ew)
            | (at_builtin; go_loud (refine wpList_append_own_at _ rfl _ _ 24 rfl w.heap.size 27 i4 (.agg #[.int .i64 0, .int .i64 0, .int .i64 0, .int .i64 0]) 4 32 Tryd.underlying24 hi4 hz40 hz41 hz42 rfl (by decide) (.slice (some ⟨g, 0, none⟩) m oc) m (rowIN4 (inF a k r f) m) rfl (HQ4.out.below ((Below.refl _ _).alloc (Nat.le_refl _) _)).own ⟨w4.heap.size, 0, none⟩ 1 1 [.int .i64 D, .int .i64 P, .int .i64 M, .int .i64 (V - P)] rfl rfl (ecells rfl) (fun u hu => by simp at hu; rcases hu with rfl | rfl | rfl | rfl <;> rfl) (by unfold maxLen; omega) (by omega) (by have := HQ4.out.own.lt g rfl; simp; omega) ?_); intro v9 w9 hown hgrow hnil hat; obtain ⟨g9, oc9, rfl, _⟩ := eown_some hown (by omega); have R9 : Hid (VQ w g9 (m + 1) oc9 (inF a k r f) (some ⟨kb, off, none⟩) k p w9) := hid ((HQ4.out.below ((Below.refl _ _).alloc (Nat.le_refl _) _)).grow (by omega) hgrow (by rw [rowIN4, HF.out]; exact hown) hat); clear hown hgrow hnil hat))
          go_roundw
          case rel => exact ⟨m + 1, g9, oc9, V - P, by omega, rfl, rfl, by go_num, by omega, by omega, HL.out, HG.out, R9.out⟩
          case measure => simp [intOf]; omega
        · obtain rfl : m = k := by omega
          have lmm : ¬ (m : Int) < (m : Int) := by omega
          have HY : Hid (CtP a (m : Int) r f) := hid ⟨by omega, by rw [Int.toNat_natCast]; exact ⟨ha2, hn1, hr2, HQ.out.2.1⟩⟩
          have HEQ : Hid (inM a (m : Int) r f = m) := hid (by rw [inM_yes HY.out]; exact Int.toNat_natCast m)
          go_wp2
          go_returns
          obtain ⟨ad, cp, h1, h2, h3⟩ := ownIN4_of HQ.out.2.2.own
          simp only [Value.slice.injEq] at h1
          obtain ⟨rfl, _, rfl⟩ := h1
          refine ⟨some ⟨g, 0, none⟩, oc, by rw [HEQ.out]; rfl, ?_, HQ.out.2.2.bel⟩
          rw [HEQ.out, Int.toNat_natCast]
          exact h3
end Go.Proofs.YtlhgmdmbjpaakaaDoor
