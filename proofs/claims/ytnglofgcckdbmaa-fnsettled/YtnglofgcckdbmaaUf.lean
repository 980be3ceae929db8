/- Settle of the program. -/
import Derived.Test.YtnglofgcckdbmaaUb
import Derived.Test.YtnglofgcckdbmaaUe
namespace Go.Proofs.Ytnglofgcckdbmaa
open Go Go.ChangeShapes Go.WideShapes Go.ChangeAt Go.RowKit
set_option linter.unusedVariables false
set_option linter.unusedSimpArgs false

theorem oper_append {P : Program} {w : World} {o : Oper} {a : Act} {K : Act → World → Prop} {Q : Exit → Act → World → Prop} (s x : Operand) (t : TypeId)
    (ho : o.op = .call { callee := .builtin .append, args := #[s, x], argTypes := #[t, t] })
    (base : Nat) (e : TypeId) (i : TypeInfo) (z : Value) (size bytes : Nat) (ht : P.underlying t = some (.slice e)) (hi : P.info? e = some i) (hz : i.zero = some z)
    (hsize : i.size = size) (hby : i.bytes = bytes) (hzs : z.cells.size = size) (hsz : 0 < size)
    (v : Value) (n : Nat) (xs : List Value) (hs : a.eval s = v) (hown : w.ownsRow base e size v n xs)
    (ad : Addr) (m c : Nat) (news : List Value) (hx : a.eval x = .slice (some ad) m c) (hl : news.length = m * size) (hnews : ∀ j u, news[j]? = some u → w.cell? (ad.add j) = some u) (h1 : ∀ u ∈ news, u.oneCell' = true)
    (h63 : n + m ≤ maxLen) (hbytes : (n + m) * bytes ≤ 140737488355328) (hbase : base ≤ w.heap.size)
    (h : ∀ v' w', w'.ownsRow base e size v' (n + m) (xs ++ news) → w.grownBy w' v.ownBlock → (v'.ownBlock = v.ownBlock ∨ v'.ownBlock = some w.heap.size) → K (a.put o.dst v') w') :
    Oper.wp P o a w K Q := by
  obtain ⟨v', w', hr, h2, h3, h4, h5⟩ := run_append_own_at (P := P) w base t o.type e i z size bytes ht hi hz hsize hby hzs hsz v n xs hown ad m c news hl hnews h1 h63 hbytes hbase
  unfold Oper.wp execOp
  simp only [ho, resolve, invoke, builtin, Sem.run_bind, Sem.run_pure, Result.andThen_ok, List.map_toArray, List.map_cons, List.map_nil, hs, hx, hr]
  exact h v' w' h2 h3 h5

/-- Both rows, each in a block of its own, beside the pairs so far. -/
structure PQ (w : World) (BL BR gp k oc : Nat) (F : Nat → PA3) (n m : Nat) (G H : Nat → Int × Int × Int) (W : World) : Prop where
  own : W.ownsRow w.heap.size 38 3 (.slice (some ⟨gp, 0, none⟩) k oc) k (rowPA3 F k)
  rl : RP W BL n 112 G
  rr : RP W BR m 112 H
  ne : BL ≠ BR ∧ BL ≠ gp ∧ BR ≠ gp ∧ w.heap.size ≤ BL ∧ w.heap.size ≤ BR
  bel : Below w.heap.size w W
theorem RP.keep {w w' : World} {b n : Nat} {t : TypeId} {f : Nat → Int × Int × Int} (H : RP w b n t f) (h : w'.heap[b]? = w.heap[b]?) : RP w' b n t f := by
  obtain ⟨cs, h1, h2⟩ := H; exact ⟨cs, by unfold CB at h1 ⊢; rw [h]; exact h1, h2⟩
section
variable {w W W' : World} {BL BR gp k oc n m : Nat} {F : Nat → PA3} {G H G' : Nat → Int × Int × Int}
theorem PQ.below (h : PQ w BL BR gp k oc F n m G H W) (b : Below W.heap.size W W') : PQ w BL BR gp k oc F n m G H W' := ⟨earow h.own (fun q hq => b.block q (h.own.lt q hq).2), h.rl.below b h.rl.lt, h.rr.below b h.rr.lt, h.ne, bel_on h.bel b⟩
theorem PQ.butL (h : PQ w BL BR gp k oc F n m G H W) (hR : RP W' BL n 112 G') (b : But BL W W') : PQ w BL BR gp k oc F n m G' H W' :=
  ⟨earow h.own (fun q hq => by
    have e : q = gp := by simpa [Value.ownBlock] using hq.symm
    subst e
    exact b.block _ (h.own.lt _ rfl).2 (fun e => h.ne.2.1 e.symm)), hR, h.rr.keep (b.block _ h.rr.lt (fun e => h.ne.1 e.symm)), h.ne, h.bel.trans (b.below h.ne.2.2.2.1 h.bel.size)⟩
theorem PQ.butR (h : PQ w BL BR gp k oc F n m G H W) (hR : RP W' BR m 112 G') (b : But BR W W') : PQ w BL BR gp k oc F n m G G' W' :=
  ⟨earow h.own (fun q hq => by
    have e : q = gp := by simpa [Value.ownBlock] using hq.symm
    subst e
    exact b.block _ (h.own.lt _ rfl).2 (fun e => h.ne.2.2.1 e.symm)), h.rl.keep (b.block _ h.rl.lt h.ne.1), hR, h.ne, h.bel.trans (b.below h.ne.2.2.2.2 h.bel.size)⟩
theorem PQ.grow {w9 : World} {g9 oc9 : Nat} (h : PQ w BL BR gp k oc F n m G H W) (hg : W.grownBy w9 (Value.slice (some ⟨gp, 0, none⟩) k oc).ownBlock) (hown : w9.ownsRow w.heap.size 38 3 (.slice (some ⟨g9, 0, none⟩) (k + 1) oc9) (k + 1) (rowPA3 F (k + 1))) (hat : (Value.slice (some ⟨g9, 0, none⟩) (k + 1) oc9).ownBlock = (Value.slice (some ⟨gp, 0, none⟩) k oc).ownBlock ∨ (Value.slice (some ⟨g9, 0, none⟩) (k + 1) oc9).ownBlock = some W.heap.size) : PQ w BL BR g9 (k + 1) oc9 F n m G H w9 := by
  have hgg := h.own.lt gp rfl
  have hg9 : g9 = gp ∨ g9 = W.heap.size := by simpa [Value.ownBlock] using hat
  have la := h.rl.lt
  have lb := h.rr.lt
  obtain ⟨n1, n2, n3, n4, n5⟩ := h.ne
  refine ⟨hown, h.rl.keep (hg.block _ la (by simpa [Value.ownBlock] using n2)), h.rr.keep (hg.block _ lb (by simpa [Value.ownBlock] using n3)), ⟨n1, by omega, by omega, n4, n5⟩, egrown h.bel (Nat.le_refl _) hg (fun q hq => ?_)⟩
  have : q = gp := by simpa [Value.ownBlock] using hq.symm
  omega
/-- The places of the first ones. -/
theorem PQ.two (h : PQ w BL BR gp k oc F n m G H W) {i j : Nat} {P1 P2 : Int} (h1 : i < n ∧ (G i).2.2 = P1) (h2 : j < m ∧ (H j).2.2 = P2) : W.cell? ⟨BL, i * 3 + 2, none⟩ = some (.int .i64 P1) ∧ W.cell? ⟨BR, j * 3 + 2, none⟩ = some (.int .i64 P2) := by
  rw [← h1.2, ← h2.2]; exact ⟨(h.rl.cell h1.1).2.2, (h.rr.cell h2.1).2.2⟩
end

set_option maxRecDepth 20000 in
set_option maxHeartbeats 16000000 in
theorem implSettle_any (ad1 ad2 : Option Addr) (n m cap1 cap2 : Nat) (c d : Nat → OI2) (w : World) (h1 : (n : Int) ≤ 1048576) (h2 : (m : Int) ≤ 1048576) (r1 : OIr w ad1 n c) (r2 : OIr w ad2 m d) :
    Calls Try.prog 33 #[.slice ad1 n cap1, .slice ad2 m cap2] w (SeR c d n m w) := by
  have HR1 : Hid (∀ W, Below w.heap.size w W → OIr W ad1 n c) := hid (fun W b => r1.below b)
  have HR2 : Hid (∀ W, Below w.heap.size w W → OIr W ad2 m d) := hid (fun W b => r2.below b)
  clear r1 r2
  have HO1 : Hid (∀ W, Below w.heap.size w W → Calls Try.prog 73 #[.slice ad1 n cap1] W fun e w' => e = .returned (.bool (opB n c)) ∧ Below W.heap.size W w') := hid (fun W b => areOpen_any ad1 n cap1 c W h1 (HR1.out W b))
  have HO2 : Hid (∀ W, Below w.heap.size w W → Calls Try.prog 73 #[.slice ad2 m cap2] W fun e w' => e = .returned (.bool (opB m d)) ∧ Below W.heap.size W w') := hid (fun W b => areOpen_any ad2 m cap2 d W h2 (HR2.out W b))
  have HB0 : Hid (Below w.heap.size w (w.alloc (.cells #[] 38 (0, 0)))) := hid ((Below.refl _ _).alloc (Nat.le_refl _) _)
  have tok1 : True := trivial
  cases ho1 : opB n c
  · have HN : Hid (¬ (opB n c = true ∧ opB m d = true)) := hid (fun H => by rw [ho1] at H; cases H.1)
    rw [ho1] at HO1
    go_enter Try.func33, Try.ntmps33
    go_wp2_with (go_at_call 73; clear tok1; refine (HO1.out _ HB0.out).mono ?_; rintro e w1 ⟨rfl, b1⟩; have HB1 := hid (bel_on HB0.out b1); clear b1)
    go_returns
    exact seR_no HN.out HB1.out
  cases ho2 : opB m d
  · have HN : Hid (¬ (opB n c = true ∧ opB m d = true)) := hid (fun H => by rw [ho2] at H; cases H.2)
    rw [ho1] at HO1
    rw [ho2] at HO2
    go_enter Try.func33, Try.ntmps33
    go_wp2_with (first | (go_at_call 73; clear tok1; refine (HO1.out _ HB0.out).mono ?_; rintro e w1 ⟨rfl, b1⟩; have HB1 := hid (bel_on HB0.out b1); clear b1) | (go_at_call 73; refine (HO2.out _ HB1.out).mono ?_; rintro e w2 ⟨rfl, b2⟩; have HB2 := hid (bel_on HB1.out b2); clear b2))
    go_returns
    exact seR_no HN.out HB2.out
  have HOO : Hid (opB n c = true ∧ opB m d = true) := hid ⟨ho1, ho2⟩
  obtain ⟨ln, hc, hcp⟩ := opB_amt ho1
  obtain ⟨lm, hd, hdp⟩ := opB_amt ho2
  have HPOS : Hid ((∀ q, q < n → 0 < (c q).amount) ∧ (∀ q, q < m → 0 < (d q).amount)) := hid ⟨hcp, hdp⟩
  have HBD : Hid (∀ k, runs c d n m k → (∀ q, q < n → 0 ≤ (sq c d n m k).1 q ∧ (sq c d n m k).1 q ≤ 100000000000) ∧ (∀ q, q < m → 0 ≤ (sq c d n m k).2 q ∧ (sq c d n m k).2 q ≤ 100000000000)) := hid (sq_bd c d n m hc hd)
  rw [ho1] at HO1
  rw [ho2] at HO2
  have HA1 : Hid (∀ W, Below w.heap.size w W → Calls Try.prog 74 #[.slice ad1 n cap1] W fun e w' => ∃ B g, e = .returned (.slice (some ⟨B, 0, none⟩) n n) ∧ W.heap.size ≤ B ∧ RP w' B n 112 g ∧ PermOn 0 n (plF c) g ∧ SortedOn ltP g 0 n ∧ Below W.heap.size W w') := hid (fun W b => oldest_any ad1 n cap1 c W h1 (HR1.out W b))
  have HA2 : Hid (∀ W, Below w.heap.size w W → Calls Try.prog 74 #[.slice ad2 m cap2] W fun e w' => ∃ B g, e = .returned (.slice (some ⟨B, 0, none⟩) m m) ∧ W.heap.size ≤ B ∧ RP w' B m 112 g ∧ PermOn 0 m (plF d) g ∧ SortedOn ltP g 0 m ∧ Below W.heap.size W w') := hid (fun W b => oldest_any ad2 m cap2 d W h2 (HR2.out W b))
  obtain ⟨i4, hi4, hz40, hz41, hz42⟩ := infoPA3
  clear ho1 ho2 hc hd hcp hdp
  have tok2 : True := trivial
  go_enter Try.func33, Try.ntmps33
  go_wp2_with (first
    | (go_at_call 73; clear tok1; refine (HO1.out _ HB0.out).mono ?_; rintro e w1 ⟨rfl, b1⟩; have HB1 := hid (bel_on HB0.out b1); have HP1 : Hid (CB w1 w.heap.size #[] 38) := hid ((CB.new _ _).below b1 (by simp)); clear b1)
    | (go_at_call 73; refine (HO2.out _ HB1.out).mono ?_; rintro e w2 ⟨rfl, b2⟩; have HB2 := hid (bel_on HB1.out b2); have HP2 : Hid (CB w2 w.heap.size #[] 38) := hid (HP1.out.below b2 HP1.out.lt); clear b2)
    | (go_at_call 74; clear tok2; refine (HA1.out _ HB2.out).mono ?_; rintro e w3 ⟨BL, G0, rfl, l3, q1, q2, q3, b3⟩; have HG := hid (And.intro q1 (And.intro q2 q3)); have HB3 := hid (bel_on HB2.out b3); have HP3 : Hid (CB w3 w.heap.size #[] 38) := hid (HP2.out.below b3 HP2.out.lt); have l3' : w.heap.size < BL := (by have := HP2.out.lt; omega); clear q1 q2 q3 b3 l3)
    | (go_at_call 74; refine (HA2.out _ HB3.out).mono ?_; rintro e w4 ⟨BR, H0, rfl, l4, q1, q2, q3, b4⟩; have HS2 : Hid (RL n c G0 0 (sq c d n m 0).1 ∧ RL m d H0 0 (sq c d n m 0).2 ∧ PQ w BL BR w.heap.size 0 0 (paF c d n m) n m G0 H0 w4) := hid ⟨RL.start (fun _ _ => rfl) HG.out.2.1 HG.out.2.2 HPOS.out.1, RL.start (fun _ _ => rfl) q2 q3 HPOS.out.2, ⟨madePA3 (HP3.out.below b4 HP3.out.lt) (Nat.le_refl _), HG.out.1.below b4 HG.out.1.lt, q1, (by have := HG.out.1.lt; omega), bel_on HB3.out b4⟩⟩; clear q1 q2 q3 b4 l4))
  clear HA1 HA2 HO1 HO2 HB0 HB1 HB2 HB3 HP1 HP2 HP3 HG l3'
  go_loopw [5, 6, 7, 8] (fun v x y z wr => ∃ (k gp oc i j oL oR : Nat), v = .slice (some ⟨gp, 0, none⟩) k oc ∧ x = .slice (some ⟨BL, oL, none⟩) (n - i) (n - i) ∧ y = .slice (some ⟨BR, oR, none⟩) (m - j) (m - j) ∧ Hid (∃ G H, runs c d n m k ∧ RL n c G i (sq c d n m k).1 ∧ RL m d H j (sq c d n m k).2 ∧ (i < n → oL = i * 3) ∧ (j < m → oR = j * 3) ∧ PQ w BL BR gp k oc (paF c d n m) n m G H wr)) (fun v _ _ _ _ => n + m - slLen v)
  case atStart => exact ⟨0, w.heap.size, 0, 0, 0, 0, 0, by simp, rfl, rfl, _, _, fun j hj => by omega, HS2.out.1, HS2.out.2.1, fun _ => rfl, fun _ => rfl, HS2.out.2.2⟩
  case round =>
    clear HS2
    obtain ⟨k, gp, oc, i, j, oL, oR, rfl, rfl, rfl, HH⟩ := hrel
    obtain ⟨wo, rfl⟩ : ∃ x, x = wr := ⟨wr, rfl⟩
    obtain ⟨G, H, hrun, hG, hH, heL, heR, hQ⟩ := HH.out
    have HQ := hid hQ
    have HRN := hid hrun
    clear HH hQ
    by_cases hin : i < n
    · by_cases hjm : j < m
      · obtain rfl := heL hin
        obtain rfl := heR hjm
        obtain ⟨x1, x2, x3, x4⟩ := hG.next hin
        obtain ⟨y1, y2, y3, y4⟩ := hH.next hjm
        have HNS : Hid (¬ stop c d n m k) := hid (fun Hs => by
          unfold stop at Hs
          rw [x1, y1] at Hs
          obtain ⟨q1, e1, _⟩ := hG.plc i hin
          obtain ⟨q2, e2, _⟩ := hH.plc j hjm
          rw [e1, e2] at Hs; omega)
        have hkl := runs_lt c d n m HRN.out HNS.out
        have HRN2 := hid (runs_next c d n m HRN.out HNS.out)
        have ei : iF c d n m k = (G i).2.2.toNat := by unfold iF; rw [x1]
        have ej : jF c d n m k = (H j).2.2.toNat := by unfold jF; rw [y1]
        have pi : (G i).2.2 = (iF c d n m k : Int) := by obtain ⟨q1, e1, _⟩ := hG.plc i hin; rw [ei, e1]; rfl
        have pj : (H j).2.2 = (jF c d n m k : Int) := by obtain ⟨q1, e1, _⟩ := hH.plc j hjm; rw [ej, e1]; rfl
        obtain ⟨bd1, bd2⟩ := HBD.out k HRN.out
        have u1 := (bd1 _ x4).2
        have u2 := (bd2 _ y4).2
        rw [x2] at u1
        rw [y2] at u2
        have HPF : Hid (paF c d n m k = ⟨(iF c d n m k : Int), (jF c d n m k : Int), mnV (G i).2.1 (H j).2.1⟩) := hid (by unfold paF xF; rw [ei, ej, x2, y2])
        have s1 : (sq c d n m (k + 1)).1 = upd (sq c d n m k).1 (G i).2.2.toNat ((sq c d n m k).1 (G i).2.2.toNat - mnV (G i).2.1 (H j).2.1) := by rw [sq_1]; unfold xF; rw [ei, ej, x2, y2]
        have s2 : (sq c d n m (k + 1)).2 = upd (sq c d n m k).2 (H j).2.2.toNat ((sq c d n m k).2 (H j).2.2.toNat - mnV (G i).2.1 (H j).2.1) := by rw [sq_2]; unfold xF; rw [ei, ej, x2, y2]
        obtain ⟨e1, e2, e3⟩ := mnV_le (G i).2.1 (H j).2.1
        have e4 := mnV_pos x3 y3
        have HL1 : Hid (RL n c (lessG G i (mnV (G i).2.1 (H j).2.1)) (ixF G i (mnV (G i).2.1 (H j).2.1)) (sq c d n m (k + 1)).1) := hid (by rw [s1]; exact hG.step hin e1 rfl)
        have HL2 : Hid (RL m d (lessG H j (mnV (G i).2.1 (H j).2.1)) (ixF H j (mnV (G i).2.1 (H j).2.1)) (sq c d n m (k + 1)).2) := hid (by rw [s2]; exact hH.step hjm e2 rfl)
        have HXb : Hid ((0 ≤ mnV (G i).2.1 (H j).2.1 ∧ mnV (G i).2.1 (H j).2.1 ≤ (G i).2.1 ∧ (G i).2.1 ≤ 100000000000) ∧ (0 ≤ mnV (G i).2.1 (H j).2.1 ∧ mnV (G i).2.1 (H j).2.1 ≤ (H j).2.1 ∧ (H j).2.1 ≤ 100000000000)) := hid ⟨by omega, by omega⟩
        have HL : Hid (i < n ∧ j < m) := ⟨hin, hjm⟩
        obtain ⟨P1, hP1⟩ : ∃ P, (iF c d n m k : Int) = P := ⟨_, rfl⟩
        obtain ⟨P2, hP2⟩ : ∃ P, (jF c d n m k : Int) = P := ⟨_, rfl⟩
        rw [hP1] at pi HPF
        rw [hP2] at pj HPF
        have HP1 : Hid (i < n ∧ (G i).2.2 = P1) := ⟨hin, pi⟩
        have HP2 : Hid (j < m ∧ (H j).2.2 = P2) := ⟨hjm, pj⟩
        have H6 : Hid (wo.drew.cell? ⟨BL, i * 3 + 1, none⟩ = some (.int .i64 (G i).2.1) ∧ wo.drew.cell? ⟨BR, j * 3 + 1, none⟩ = some (.int .i64 (H j).2.1)) := hid ⟨(HQ.out.rl.cell hin).2.1, (HQ.out.rr.cell hjm).2.1⟩
        obtain ⟨A, hA⟩ : ∃ A, (G i).2.1 = A := ⟨_, rfl⟩
        obtain ⟨D, hD⟩ : ∃ D, (H j).2.1 = D := ⟨_, rfl⟩
        have HAD : Hid ((G i).2.1 = A ∧ (H j).2.1 = D) := ⟨hA, hD⟩
        rw [hA, hD] at HPF HL1 HL2 HXb H6
        obtain ⟨La, hLa⟩ : ∃ L, n - i = L + 1 := ⟨n - i - 1, by omega⟩
        obtain ⟨Lb, hLb⟩ : ∃ L, m - j = L + 1 := ⟨m - j - 1, by omega⟩
        have lla : (0 : Int) < (La : Int) + 1 := by omega
        have llb : (0 : Int) < (Lb : Int) + 1 := by omega
        have lla2 : (La : Int) ≤ 1048576 := by omega
        have llb2 : (Lb : Int) ≤ 1048576 := by omega
        clear hrun hG hH heL heR x1 x2 x3 x4 y1 y2 y3 y4 ei ej bd1 bd2 s1 s2 e1 e2 e3 e4 pi pj hP1 hP2 hA hD HNS u1 u2
        by_cases hlt : D < A
        · have hmn : mnV A D = D := if_pos hlt
          rw [hmn] at HPF HL1 HL2 HXb
          clear hmn
          have HT1 : Hid (∀ W, RP W BL n 112 G → Calls Try.prog 75 #[.slice (some ⟨BL, i * 3, none⟩) (La + 1) (La + 1), .int .i64 D] W fun e w' => ∃ o, e = .returned (.slice (some ⟨BL, o, none⟩) (n - ixF G i D) (n - ixF G i D)) ∧ (ixF G i D < n → o = ixF G i D * 3) ∧ RP w' BL n 112 (lessG G i D) ∧ But BL W w') := hid (fun W hW => by have := take_any BL n i G D W h1 hin (by rw [HAD.out.1]; exact HXb.out.1) hW; rw [hLa] at this; exact this)
          have HT2 : Hid (∀ W, RP W BR m 112 H → Calls Try.prog 75 #[.slice (some ⟨BR, j * 3, none⟩) (Lb + 1) (Lb + 1), .int .i64 D] W fun e w' => ∃ o, e = .returned (.slice (some ⟨BR, o, none⟩) (m - ixF H j D) (m - ixF H j D)) ∧ (ixF H j D < m → o = ixF H j D * 3) ∧ RP w' BR m 112 (lessG H j D) ∧ But BR W w') := hid (fun W hW => by have := take_any BR m j H D W h2 hjm (by rw [HAD.out.2]; exact HXb.out.2) hW; rw [hLb] at this; exact this)
          rw [hLa, hLb]
          have tok3 : True := trivial
          go_wp2
          refine wp_region_noPanic ?_
          refine wp_region_held_drew (S := fun w' => w'.cell? ⟨BL, i * 3 + 1, none⟩ = some (.int .i64 A) ∧ w'.cell? ⟨BR, j * 3 + 1, none⟩ = some (.int .i64 D)) (by kernel_rfl) (by exact H6.out) (fun hHeld => ?_)
          refine wpAnyH_take (i := 0) (oi := { dst := some 31, op := Go.Op.move (Go.Operand.tmp 6), type := 109, pos := "l13_sell.go:177", after := #[], guard := none }) (v := ?_) rfl (by kernel_rfl) (by kernel_rfl) (by kernel_rfl) (fun _ _ _ h => h) (Or.inl ⟨by rfl, ?_⟩) (by assumption) ?_
          rotate_left
          · (intro w hSw; (try dsimp only at hSw); go_simp <;> try with_reducible rfl)
          try simp only [Act.put, List.setIfInBounds_toArray, List.set_cons_zero, List.set_cons_succ]
          refine wpAnyH_take (i := 1) (oi := { dst := some 32, op := Go.Op.indexAddr 109 (Go.Operand.tmp 31) (Go.Operand.const (Go.Value.int Go.IntKind.i64 0)), type := 0, pos := "l13_sell.go:177", after := #[{ on := 0, ground := Go.Ground.data }], guard := none }) (v := ?_) rfl (by kernel_rfl) (by kernel_rfl) (by kernel_rfl) (fun _ _ _ h => h) (Or.inl ⟨by rfl, ?_⟩) (by assumption) ?_
          rotate_left
          · (intro w hSw; (try dsimp only at hSw); go_simp <;> try with_reducible rfl)
          try simp only [Act.put, List.setIfInBounds_toArray, List.set_cons_zero, List.set_cons_succ]
          refine wpAnyH_take (i := 2) (oi := { dst := some 33, op := Go.Op.fieldAddr 112 (Go.Operand.tmp 32) 0, type := 0, pos := "l13_sell.go:177", after := #[{ on := 1, ground := Go.Ground.data }], guard := none }) (v := ?_) rfl (by kernel_rfl) (by kernel_rfl) (by kernel_rfl) (fun _ _ _ h => h) (Or.inl ⟨by rfl, ?_⟩) (by assumption) ?_
          rotate_left
          · (intro w hSw; (try dsimp only at hSw); go_simp <;> try with_reducible rfl)
          try simp only [Act.put, List.setIfInBounds_toArray, List.set_cons_zero, List.set_cons_succ]
          refine wpAnyH_take (i := 3) (oi := { dst := some 34, op := Go.Op.fieldAddr 60 (Go.Operand.tmp 33) 1, type := 0, pos := "l13_sell.go:177", after := #[{ on := 2, ground := Go.Ground.data }], guard := none }) (v := ?_) rfl (by kernel_rfl) (by kernel_rfl) (by kernel_rfl) (fun _ _ _ h => h) (Or.inl ⟨by rfl, ?_⟩) (by assumption) ?_
          rotate_left
          · (intro w hSw; (try dsimp only at hSw); go_simp <;> try with_reducible rfl)
          try simp only [Act.put, List.setIfInBounds_toArray, List.set_cons_zero, List.set_cons_succ]
          refine wpAnyH_take (i := 4) (oi := { dst := some 35, op := Go.Op.load 3 (Go.Operand.tmp 34), type := 3, pos := "l13_sell.go:177", after := #[{ on := 3, ground := Go.Ground.data }], guard := none }) (v := ?_) rfl (by kernel_rfl) (by kernel_rfl) (by kernel_rfl) (fun _ _ _ h => h) (Or.inl ⟨by rfl, ?_⟩) (by assumption) ?_
          rotate_left
          · (intro w hSw; (try dsimp only at hSw); go_simp <;> try with_reducible rfl)
          try simp only [Act.put, List.setIfInBounds_toArray, List.set_cons_zero, List.set_cons_succ]
          refine wpAnyH_take (i := 5) (oi := { dst := some 36, op := Go.Op.move (Go.Operand.tmp 7), type := 109, pos := "l13_sell.go:177", after := #[], guard := none }) (v := ?_) rfl (by kernel_rfl) (by kernel_rfl) (by kernel_rfl) (fun _ _ _ h => h) (Or.inl ⟨by rfl, ?_⟩) (by assumption) ?_
          rotate_left
          · (intro w hSw; (try dsimp only at hSw); go_simp <;> try with_reducible rfl)
          try simp only [Act.put, List.setIfInBounds_toArray, List.set_cons_zero, List.set_cons_succ]
          refine wpAnyH_take (i := 6) (oi := { dst := some 37, op := Go.Op.indexAddr 109 (Go.Operand.tmp 36) (Go.Operand.const (Go.Value.int Go.IntKind.i64 0)), type := 0, pos := "l13_sell.go:177", after := #[{ on := 5, ground := Go.Ground.data }], guard := none }) (v := ?_) rfl (by kernel_rfl) (by kernel_rfl) (by kernel_rfl) (fun _ _ _ h => h) (Or.inl ⟨by rfl, ?_⟩) (by assumption) ?_
          rotate_left
          · (intro w hSw; (try dsimp only at hSw); go_simp <;> try with_reducible rfl)
          try simp only [Act.put, List.setIfInBounds_toArray, List.set_cons_zero, List.set_cons_succ]
          refine wpAnyH_take (i := 7) (oi := { dst := some 38, op := Go.Op.fieldAddr 112 (Go.Operand.tmp 37) 0, type := 0, pos := "l13_sell.go:177", after := #[{ on := 6, ground := Go.Ground.data }], guard := none }) (v := ?_) rfl (by kernel_rfl) (by kernel_rfl) (by kernel_rfl) (fun _ _ _ h => h) (Or.inl ⟨by rfl, ?_⟩) (by assumption) ?_
          rotate_left
          · (intro w hSw; (try dsimp only at hSw); go_simp <;> try with_reducible rfl)
          try simp only [Act.put, List.setIfInBounds_toArray, List.set_cons_zero, List.set_cons_succ]
          refine wpAnyH_take (i := 8) (oi := { dst := some 39, op := Go.Op.fieldAddr 60 (Go.Operand.tmp 38) 1, type := 0, pos := "l13_sell.go:177", after := #[{ on := 7, ground := Go.Ground.data }], guard := none }) (v := ?_) rfl (by kernel_rfl) (by kernel_rfl) (by kernel_rfl) (fun _ _ _ h => h) (Or.inl ⟨by rfl, ?_⟩) (by assumption) ?_
          rotate_left
          · (intro w hSw; (try dsimp only at hSw); go_simp <;> try with_reducible rfl)
          try simp only [Act.put, List.setIfInBounds_toArray, List.set_cons_zero, List.set_cons_succ]
          refine wpAnyH_take (i := 9) (oi := { dst := some 40, op := Go.Op.load 3 (Go.Operand.tmp 39), type := 3, pos := "l13_sell.go:177", after := #[{ on := 8, ground := Go.Ground.data }], guard := none }) (v := ?_) rfl (by kernel_rfl) (by kernel_rfl) (by kernel_rfl) (fun _ _ _ h => h) (Or.inl ⟨by rfl, ?_⟩) (by assumption) ?_
          rotate_left
          · (intro w hSw; (try dsimp only at hSw); go_simp <;> try with_reducible rfl)
          try simp only [Act.put, List.setIfInBounds_toArray, List.set_cons_zero, List.set_cons_succ]
          refine wpAnyH_take (i := 10) (oi := { dst := some 41, op := Go.Op.call { callee := Go.Callee.builtin Go.Builtin.min, args := #[Go.Operand.tmp 35, Go.Operand.tmp 40], argTypes := #[3, 3] }, type := 3, pos := "l13_sell.go:177", after := #[{ on := 4, ground := Go.Ground.data }, { on := 9, ground := Go.Ground.data }], guard := none }) (v := ?_) rfl (by kernel_rfl) (by kernel_rfl) (by kernel_rfl) (fun _ _ _ h => h) (Or.inl ⟨by rfl, ?_⟩) (by assumption) ?_
          rotate_left
          · (intro w hSw; (try dsimp only at hSw); go_simp <;> try with_reducible rfl)
          try simp only [Act.put, List.setIfInBounds_toArray, List.set_cons_zero, List.set_cons_succ]
          refine wpAnyH_take (i := 11) (oi := { dst := some 8, op := Go.Op.assign (Go.Operand.tmp 41), type := 3, pos := "l13_sell.go:177", after := #[{ on := 10, ground := Go.Ground.data }, { on := 0, ground := Go.Ground.phase }, { on := 1, ground := Go.Ground.phase }, { on := 2, ground := Go.Ground.phase }, { on := 3, ground := Go.Ground.phase }, { on := 4, ground := Go.Ground.phase }, { on := 5, ground := Go.Ground.phase }, { on := 6, ground := Go.Ground.phase }, { on := 7, ground := Go.Ground.phase }, { on := 8, ground := Go.Ground.phase }, { on := 9, ground := Go.Ground.phase }, { on := 10, ground := Go.Ground.phase }], guard := none }) (v := ?_) rfl (by kernel_rfl) (by kernel_rfl) (by kernel_rfl) (fun _ _ _ h => h) (Or.inl ⟨by rfl, ?_⟩) (by assumption) ?_
          rotate_left
          · (intro w hSw; (try dsimp only at hSw); go_simp <;> try with_reducible rfl)
          try simp only [Act.put, List.setIfInBounds_toArray, List.set_cons_zero, List.set_cons_succ]
          refine wpAnyH_done (by kernel_rfl) ?_ _
          refine NoPanic.normal ?_
          clear hHeld
          have HQ7 : Hid (PQ w BL BR gp k oc (paF c d n m) n m G H wo.drew) := HQ.out.below (Below.refl _ _).drew
          have H7 := hid (HQ7.out.two HP1.out HP2.out)
          generalize wo.drew = wd at HQ7 H7 ⊢
          have H7 : Hid (wd.cell? ⟨BL, i * 3 + 2, none⟩ = some (.int .i64 P1) ∧ wd.cell? ⟨BR, j * 3 + 2, none⟩ = some (.int .i64 P2)) := H7.out
          go_wp2
          refine wp_region_noPanic ?_
          refine wp_region_held_drew (S := fun w' => w'.cell? ⟨BL, i * 3 + 2, none⟩ = some (.int .i64 P1) ∧ w'.cell? ⟨BR, j * 3 + 2, none⟩ = some (.int .i64 P2)) (by kernel_rfl) (by exact H7.out) (fun hHeld => ?_)
          refine wpAnyH_take (i := 0) (oi := { dst := some 42, op := Go.Op.move (Go.Operand.tmp 5), type := 32, pos := "l13_sell.go:178", after := #[], guard := none }) (v := ?_) rfl (by kernel_rfl) (by kernel_rfl) (by kernel_rfl) (fun _ _ _ h => h) (Or.inl ⟨by rfl, ?_⟩) (by assumption) ?_
          rotate_left
          · (intro w hSw; (try dsimp only at hSw); go_simp <;> try with_reducible rfl)
          try simp only [Act.put, List.setIfInBounds_toArray, List.set_cons_zero, List.set_cons_succ]
          refine wpAnyH_take (i := 1) (oi := { dst := some 43, op := Go.Op.move (Go.Operand.tmp 6), type := 109, pos := "l13_sell.go:178", after := #[], guard := none }) (v := ?_) rfl (by kernel_rfl) (by kernel_rfl) (by kernel_rfl) (fun _ _ _ h => h) (Or.inl ⟨by rfl, ?_⟩) (by assumption) ?_
          rotate_left
          · (intro w hSw; (try dsimp only at hSw); go_simp <;> try with_reducible rfl)
          try simp only [Act.put, List.setIfInBounds_toArray, List.set_cons_zero, List.set_cons_succ]
          refine wpAnyH_take (i := 2) (oi := { dst := some 44, op := Go.Op.indexAddr 109 (Go.Operand.tmp 43) (Go.Operand.const (Go.Value.int Go.IntKind.i64 0)), type := 0, pos := "l13_sell.go:178", after := #[{ on := 1, ground := Go.Ground.data }], guard := none }) (v := ?_) rfl (by kernel_rfl) (by kernel_rfl) (by kernel_rfl) (fun _ _ _ h => h) (Or.inl ⟨by rfl, ?_⟩) (by assumption) ?_
          rotate_left
          · (intro w hSw; (try dsimp only at hSw); go_simp <;> try with_reducible rfl)
          try simp only [Act.put, List.setIfInBounds_toArray, List.set_cons_zero, List.set_cons_succ]
          refine wpAnyH_take (i := 3) (oi := { dst := some 45, op := Go.Op.fieldAddr 112 (Go.Operand.tmp 44) 1, type := 0, pos := "l13_sell.go:178", after := #[{ on := 2, ground := Go.Ground.data }], guard := none }) (v := ?_) rfl (by kernel_rfl) (by kernel_rfl) (by kernel_rfl) (fun _ _ _ h => h) (Or.inl ⟨by rfl, ?_⟩) (by assumption) ?_
          rotate_left
          · (intro w hSw; (try dsimp only at hSw); go_simp <;> try with_reducible rfl)
          try simp only [Act.put, List.setIfInBounds_toArray, List.set_cons_zero, List.set_cons_succ]
          refine wpAnyH_take (i := 4) (oi := { dst := some 46, op := Go.Op.load 3 (Go.Operand.tmp 45), type := 3, pos := "l13_sell.go:178", after := #[{ on := 3, ground := Go.Ground.data }], guard := none }) (v := ?_) rfl (by kernel_rfl) (by kernel_rfl) (by kernel_rfl) (fun _ _ _ h => h) (Or.inl ⟨by rfl, ?_⟩) (by assumption) ?_
          rotate_left
          · (intro w hSw; (try dsimp only at hSw); go_simp <;> try with_reducible rfl)
          try simp only [Act.put, List.setIfInBounds_toArray, List.set_cons_zero, List.set_cons_succ]
          refine wpAnyH_take (i := 5) (oi := { dst := some 47, op := Go.Op.move (Go.Operand.tmp 7), type := 109, pos := "l13_sell.go:178", after := #[], guard := none }) (v := ?_) rfl (by kernel_rfl) (by kernel_rfl) (by kernel_rfl) (fun _ _ _ h => h) (Or.inl ⟨by rfl, ?_⟩) (by assumption) ?_
          rotate_left
          · (intro w hSw; (try dsimp only at hSw); go_simp <;> try with_reducible rfl)
          try simp only [Act.put, List.setIfInBounds_toArray, List.set_cons_zero, List.set_cons_succ]
          refine wpAnyH_take (i := 6) (oi := { dst := some 48, op := Go.Op.indexAddr 109 (Go.Operand.tmp 47) (Go.Operand.const (Go.Value.int Go.IntKind.i64 0)), type := 0, pos := "l13_sell.go:178", after := #[{ on := 5, ground := Go.Ground.data }], guard := none }) (v := ?_) rfl (by kernel_rfl) (by kernel_rfl) (by kernel_rfl) (fun _ _ _ h => h) (Or.inl ⟨by rfl, ?_⟩) (by assumption) ?_
          rotate_left
          · (intro w hSw; (try dsimp only at hSw); go_simp <;> try with_reducible rfl)
          try simp only [Act.put, List.setIfInBounds_toArray, List.set_cons_zero, List.set_cons_succ]
          refine wpAnyH_take (i := 7) (oi := { dst := some 49, op := Go.Op.fieldAddr 112 (Go.Operand.tmp 48) 1, type := 0, pos := "l13_sell.go:178", after := #[{ on := 6, ground := Go.Ground.data }], guard := none }) (v := ?_) rfl (by kernel_rfl) (by kernel_rfl) (by kernel_rfl) (fun _ _ _ h => h) (Or.inl ⟨by rfl, ?_⟩) (by assumption) ?_
          rotate_left
          · (intro w hSw; (try dsimp only at hSw); go_simp <;> try with_reducible rfl)
          try simp only [Act.put, List.setIfInBounds_toArray, List.set_cons_zero, List.set_cons_succ]
          refine wpAnyH_take (i := 8) (oi := { dst := some 50, op := Go.Op.load 3 (Go.Operand.tmp 49), type := 3, pos := "l13_sell.go:178", after := #[{ on := 7, ground := Go.Ground.data }], guard := none }) (v := ?_) rfl (by kernel_rfl) (by kernel_rfl) (by kernel_rfl) (fun _ _ _ h => h) (Or.inl ⟨by rfl, ?_⟩) (by assumption) ?_
          rotate_left
          · (intro w hSw; (try dsimp only at hSw); go_simp <;> try with_reducible rfl)
          try simp only [Act.put, List.setIfInBounds_toArray, List.set_cons_zero, List.set_cons_succ]
          refine wpAnyH_take (i := 9) (oi := { dst := some 51, op := Go.Op.move (Go.Operand.tmp 8), type := 3, pos := "l13_sell.go:178", after := #[], guard := none }) (v := ?_) rfl (by kernel_rfl) (by kernel_rfl) (by kernel_rfl) (fun _ _ _ h => h) (Or.inl ⟨by rfl, ?_⟩) (by assumption) ?_
          rotate_left
          · (intro w hSw; (try dsimp only at hSw); go_simp <;> try with_reducible rfl)
          try simp only [Act.put, List.setIfInBounds_toArray, List.set_cons_zero, List.set_cons_succ]
          refine wpAnyH_take (i := 10) (oi := { dst := some 52, op := Go.Op.build 38 #[(0, Go.Operand.tmp 46), (1, Go.Operand.tmp 50), (2, Go.Operand.tmp 51)], type := 38, pos := "l13_sell.go:178", after := #[{ on := 4, ground := Go.Ground.data }, { on := 8, ground := Go.Ground.data }, { on := 9, ground := Go.Ground.data }], guard := none }) (v := ?_) rfl (by kernel_rfl) (by kernel_rfl) (by kernel_rfl) (fun _ _ _ h => h) (Or.inl ⟨by rfl, ?_⟩) (by assumption) ?_
          rotate_left
          · (intro w hSw; (try dsimp only at hSw); go_simp <;> try with_reducible rfl)
          try simp only [Act.put, List.setIfInBounds_toArray, List.set_cons_zero, List.set_cons_succ]
          refine wpAnyH_ready (rs := [11]) (by kernel_rfl) (by simp) ?_
          refine AllReadyH.cons (o := { dst := some 53, op := Go.Op.buildSlice 32 1 #[(0, Go.Operand.tmp 52)], type := 32, pos := "l13_sell.go:178", after := #[{ on := 10, ground := Go.Ground.data }], guard := none }) rfl (fun K hK => ?_) (AllReadyH.nil)
          go_simp
          have PA := HQ7.out.below (((Below.refl _ _).alloc (Nat.le_refl _) (.cells #[.int .i64 P1, .int .i64 P2, .int .i64 D] 38 (0, 0))).drew)
          refine hK.out _ _ (by exact PA.two HP1.out HP2.out) (fun hHeld => ?_)
          clear hK K
          try simp only [Act.put, List.setIfInBounds_toArray, List.set_cons_zero, List.set_cons_succ]
          refine wpAnyH_ready (rs := [12]) (by kernel_rfl) (by simp) ?_
          refine AllReadyH.cons (o := { dst := some 54, op := Go.Op.call { callee := Go.Callee.builtin Go.Builtin.append, args := #[Go.Operand.tmp 42, Go.Operand.tmp 53], argTypes := #[32, 32] }, type := 32, pos := "l13_sell.go:178", after := #[{ on := 0, ground := Go.Ground.data }, { on := 11, ground := Go.Ground.data }], guard := none }) rfl (fun K hK => ?_) (AllReadyH.nil)
          rw [if_pos (by rfl)]
          refine oper_append (Operand.tmp 42) (Operand.tmp 53) 32 rfl w.heap.size 38 i4 (.agg #[.int .i64 0, .int .i64 0, .int .i64 0]) 3 24 Try.underlying32 hi4 hz40 hz41 hz42 rfl (by decide) (.slice (some ⟨gp, 0, none⟩) k oc) k (rowPA3 (paF c d n m) k) rfl PA.own ⟨_, 0, none⟩ 1 1 [.int .i64 P1, .int .i64 P2, .int .i64 D] rfl rfl (ecells (by first | rfl | simp)) (fun u hu => by simp at hu; rcases hu with rfl | rfl | rfl <;> rfl) (by unfold maxLen; omega) (by omega) (by have := PA.own.lt gp rfl; first | omega | (simp at this ⊢; omega)) ?_
          intro v9 w9 hown hgrow hat
          obtain ⟨g9, oc9, rfl, _⟩ := eown_some hown (by omega)
          have HR9 : Hid (PQ w BL BR g9 (k + 1) oc9 (paF c d n m) n m G H w9) := hid (PA.grow hgrow (by rw [rowPA3, HPF.out]; exact hown) hat)
          clear hown hgrow hat PA
          refine hK.out _ _ (by exact HR9.out.two HP1.out HP2.out) (fun hHeld => ?_)
          clear hK K
          try simp only [Act.put, List.setIfInBounds_toArray, List.set_cons_zero, List.set_cons_succ]
          refine wpAnyH_take (i := 13) (oi := { dst := some 5, op := Go.Op.assign (Go.Operand.tmp 54), type := 32, pos := "l13_sell.go:178", after := #[{ on := 12, ground := Go.Ground.data }, { on := 12, ground := Go.Ground.chain }, { on := 0, ground := Go.Ground.phase }, { on := 1, ground := Go.Ground.phase }, { on := 2, ground := Go.Ground.phase }, { on := 3, ground := Go.Ground.phase }, { on := 4, ground := Go.Ground.phase }, { on := 5, ground := Go.Ground.phase }, { on := 6, ground := Go.Ground.phase }, { on := 7, ground := Go.Ground.phase }, { on := 8, ground := Go.Ground.phase }, { on := 9, ground := Go.Ground.phase }, { on := 10, ground := Go.Ground.phase }, { on := 11, ground := Go.Ground.phase }, { on := 12, ground := Go.Ground.phase }], guard := none }) (v := ?_) rfl (by kernel_rfl) (by kernel_rfl) (by kernel_rfl) (fun _ _ _ h => h) (Or.inl ⟨by rfl, ?_⟩) (by assumption) ?_
          rotate_left
          · (intro w hSw; (try dsimp only at hSw); go_simp <;> try with_reducible rfl)
          try simp only [Act.put, List.setIfInBounds_toArray, List.set_cons_zero, List.set_cons_succ]
          refine wpAnyH_done (by kernel_rfl) ?_ _
          refine NoPanic.normal ?_
          clear hHeld
          go_wp2_with (first
            | (go_at_call 75; clear tok3; refine (HT1.out _ (HR9.out.rl)).mono ?_; rintro e w3 ⟨oL', rfl, eL, q1, q2⟩; have HR3 := hid (HR9.out.butL q1 q2); have HeL := hid eL; clear eL q1 q2)
            | (go_at_call 75; refine (HT2.out _ (HR3.out.rr)).mono ?_; rintro e w4 ⟨oR', rfl, eR, q1, q2⟩; have HR4 := hid (HR3.out.butR q1 q2); have HeR := hid eR; clear eR q1 q2))
          go_roundw
          case rel => exact ⟨k + 1, g9, oc9, ixF G i D, ixF H j D, oL', oR', rfl, rfl, rfl, _, _, HRN2.out, HL1.out, HL2.out, HeL.out, HeR.out, HR4.out⟩
          case measure => simp [slLen]; omega
        · have hmn : mnV A D = A := if_neg hlt
          rw [hmn] at HPF HL1 HL2 HXb
          clear hmn
          have HT1 : Hid (∀ W, RP W BL n 112 G → Calls Try.prog 75 #[.slice (some ⟨BL, i * 3, none⟩) (La + 1) (La + 1), .int .i64 A] W fun e w' => ∃ o, e = .returned (.slice (some ⟨BL, o, none⟩) (n - ixF G i A) (n - ixF G i A)) ∧ (ixF G i A < n → o = ixF G i A * 3) ∧ RP w' BL n 112 (lessG G i A) ∧ But BL W w') := hid (fun W hW => by have := take_any BL n i G A W h1 hin (by rw [HAD.out.1]; exact HXb.out.1) hW; rw [hLa] at this; exact this)
          have HT2 : Hid (∀ W, RP W BR m 112 H → Calls Try.prog 75 #[.slice (some ⟨BR, j * 3, none⟩) (Lb + 1) (Lb + 1), .int .i64 A] W fun e w' => ∃ o, e = .returned (.slice (some ⟨BR, o, none⟩) (m - ixF H j A) (m - ixF H j A)) ∧ (ixF H j A < m → o = ixF H j A * 3) ∧ RP w' BR m 112 (lessG H j A) ∧ But BR W w') := hid (fun W hW => by have := take_any BR m j H A W h2 hjm (by rw [HAD.out.2]; exact HXb.out.2) hW; rw [hLb] at this; exact this)
          rw [hLa, hLb]
          have tok3 : True := trivial
          go_wp2
          refine wp_region_noPanic ?_
          refine wp_region_held_drew (S := fun w' => w'.cell? ⟨BL, i * 3 + 1, none⟩ = some (.int .i64 A) ∧ w'.cell? ⟨BR, j * 3 + 1, none⟩ = some (.int .i64 D)) (by kernel_rfl) (by exact H6.out) (fun hHeld => ?_)
          refine wpAnyH_take (i := 0) (oi := { dst := some 31, op := Go.Op.move (Go.Operand.tmp 6), type := 109, pos := "l13_sell.go:177", after := #[], guard := none }) (v := ?_) rfl (by kernel_rfl) (by kernel_rfl) (by kernel_rfl) (fun _ _ _ h => h) (Or.inl ⟨by rfl, ?_⟩) (by assumption) ?_
          rotate_left
          · (intro w hSw; (try dsimp only at hSw); go_simp <;> try with_reducible rfl)
          try simp only [Act.put, List.setIfInBounds_toArray, List.set_cons_zero, List.set_cons_succ]
          refine wpAnyH_take (i := 1) (oi := { dst := some 32, op := Go.Op.indexAddr 109 (Go.Operand.tmp 31) (Go.Operand.const (Go.Value.int Go.IntKind.i64 0)), type := 0, pos := "l13_sell.go:177", after := #[{ on := 0, ground := Go.Ground.data }], guard := none }) (v := ?_) rfl (by kernel_rfl) (by kernel_rfl) (by kernel_rfl) (fun _ _ _ h => h) (Or.inl ⟨by rfl, ?_⟩) (by assumption) ?_
          rotate_left
          · (intro w hSw; (try dsimp only at hSw); go_simp <;> try with_reducible rfl)
          try simp only [Act.put, List.setIfInBounds_toArray, List.set_cons_zero, List.set_cons_succ]
          refine wpAnyH_take (i := 2) (oi := { dst := some 33, op := Go.Op.fieldAddr 112 (Go.Operand.tmp 32) 0, type := 0, pos := "l13_sell.go:177", after := #[{ on := 1, ground := Go.Ground.data }], guard := none }) (v := ?_) rfl (by kernel_rfl) (by kernel_rfl) (by kernel_rfl) (fun _ _ _ h => h) (Or.inl ⟨by rfl, ?_⟩) (by assumption) ?_
          rotate_left
          · (intro w hSw; (try dsimp only at hSw); go_simp <;> try with_reducible rfl)
          try simp only [Act.put, List.setIfInBounds_toArray, List.set_cons_zero, List.set_cons_succ]
          refine wpAnyH_take (i := 3) (oi := { dst := some 34, op := Go.Op.fieldAddr 60 (Go.Operand.tmp 33) 1, type := 0, pos := "l13_sell.go:177", after := #[{ on := 2, ground := Go.Ground.data }], guard := none }) (v := ?_) rfl (by kernel_rfl) (by kernel_rfl) (by kernel_rfl) (fun _ _ _ h => h) (Or.inl ⟨by rfl, ?_⟩) (by assumption) ?_
          rotate_left
          · (intro w hSw; (try dsimp only at hSw); go_simp <;> try with_reducible rfl)
          try simp only [Act.put, List.setIfInBounds_toArray, List.set_cons_zero, List.set_cons_succ]
          refine wpAnyH_take (i := 4) (oi := { dst := some 35, op := Go.Op.load 3 (Go.Operand.tmp 34), type := 3, pos := "l13_sell.go:177", after := #[{ on := 3, ground := Go.Ground.data }], guard := none }) (v := ?_) rfl (by kernel_rfl) (by kernel_rfl) (by kernel_rfl) (fun _ _ _ h => h) (Or.inl ⟨by rfl, ?_⟩) (by assumption) ?_
          rotate_left
          · (intro w hSw; (try dsimp only at hSw); go_simp <;> try with_reducible rfl)
          try simp only [Act.put, List.setIfInBounds_toArray, List.set_cons_zero, List.set_cons_succ]
          refine wpAnyH_take (i := 5) (oi := { dst := some 36, op := Go.Op.move (Go.Operand.tmp 7), type := 109, pos := "l13_sell.go:177", after := #[], guard := none }) (v := ?_) rfl (by kernel_rfl) (by kernel_rfl) (by kernel_rfl) (fun _ _ _ h => h) (Or.inl ⟨by rfl, ?_⟩) (by assumption) ?_
          rotate_left
          · (intro w hSw; (try dsimp only at hSw); go_simp <;> try with_reducible rfl)
          try simp only [Act.put, List.setIfInBounds_toArray, List.set_cons_zero, List.set_cons_succ]
          refine wpAnyH_take (i := 6) (oi := { dst := some 37, op := Go.Op.indexAddr 109 (Go.Operand.tmp 36) (Go.Operand.const (Go.Value.int Go.IntKind.i64 0)), type := 0, pos := "l13_sell.go:177", after := #[{ on := 5, ground := Go.Ground.data }], guard := none }) (v := ?_) rfl (by kernel_rfl) (by kernel_rfl) (by kernel_rfl) (fun _ _ _ h => h) (Or.inl ⟨by rfl, ?_⟩) (by assumption) ?_
          rotate_left
          · (intro w hSw; (try dsimp only at hSw); go_simp <;> try with_reducible rfl)
          try simp only [Act.put, List.setIfInBounds_toArray, List.set_cons_zero, List.set_cons_succ]
          refine wpAnyH_take (i := 7) (oi := { dst := some 38, op := Go.Op.fieldAddr 112 (Go.Operand.tmp 37) 0, type := 0, pos := "l13_sell.go:177", after := #[{ on := 6, ground := Go.Ground.data }], guard := none }) (v := ?_) rfl (by kernel_rfl) (by kernel_rfl) (by kernel_rfl) (fun _ _ _ h => h) (Or.inl ⟨by rfl, ?_⟩) (by assumption) ?_
          rotate_left
          · (intro w hSw; (try dsimp only at hSw); go_simp <;> try with_reducible rfl)
          try simp only [Act.put, List.setIfInBounds_toArray, List.set_cons_zero, List.set_cons_succ]
          refine wpAnyH_take (i := 8) (oi := { dst := some 39, op := Go.Op.fieldAddr 60 (Go.Operand.tmp 38) 1, type := 0, pos := "l13_sell.go:177", after := #[{ on := 7, ground := Go.Ground.data }], guard := none }) (v := ?_) rfl (by kernel_rfl) (by kernel_rfl) (by kernel_rfl) (fun _ _ _ h => h) (Or.inl ⟨by rfl, ?_⟩) (by assumption) ?_
          rotate_left
          · (intro w hSw; (try dsimp only at hSw); go_simp <;> try with_reducible rfl)
          try simp only [Act.put, List.setIfInBounds_toArray, List.set_cons_zero, List.set_cons_succ]
          refine wpAnyH_take (i := 9) (oi := { dst := some 40, op := Go.Op.load 3 (Go.Operand.tmp 39), type := 3, pos := "l13_sell.go:177", after := #[{ on := 8, ground := Go.Ground.data }], guard := none }) (v := ?_) rfl (by kernel_rfl) (by kernel_rfl) (by kernel_rfl) (fun _ _ _ h => h) (Or.inl ⟨by rfl, ?_⟩) (by assumption) ?_
          rotate_left
          · (intro w hSw; (try dsimp only at hSw); go_simp <;> try with_reducible rfl)
          try simp only [Act.put, List.setIfInBounds_toArray, List.set_cons_zero, List.set_cons_succ]
          refine wpAnyH_take (i := 10) (oi := { dst := some 41, op := Go.Op.call { callee := Go.Callee.builtin Go.Builtin.min, args := #[Go.Operand.tmp 35, Go.Operand.tmp 40], argTypes := #[3, 3] }, type := 3, pos := "l13_sell.go:177", after := #[{ on := 4, ground := Go.Ground.data }, { on := 9, ground := Go.Ground.data }], guard := none }) (v := ?_) rfl (by kernel_rfl) (by kernel_rfl) (by kernel_rfl) (fun _ _ _ h => h) (Or.inl ⟨by rfl, ?_⟩) (by assumption) ?_
          rotate_left
          · (intro w hSw; (try dsimp only at hSw); go_simp <;> try with_reducible rfl)
          try simp only [Act.put, List.setIfInBounds_toArray, List.set_cons_zero, List.set_cons_succ]
          refine wpAnyH_take (i := 11) (oi := { dst := some 8, op := Go.Op.assign (Go.Operand.tmp 41), type := 3, pos := "l13_sell.go:177", after := #[{ on := 10, ground := Go.Ground.data }, { on := 0, ground := Go.Ground.phase }, { on := 1, ground := Go.Ground.phase }, { on := 2, ground := Go.Ground.phase }, { on := 3, ground := Go.Ground.phase }, { on := 4, ground := Go.Ground.phase }, { on := 5, ground := Go.Ground.phase }, { on := 6, ground := Go.Ground.phase }, { on := 7, ground := Go.Ground.phase }, { on := 8, ground := Go.Ground.phase }, { on := 9, ground := Go.Ground.phase }, { on := 10, ground := Go.Ground.phase }], guard := none }) (v := ?_) rfl (by kernel_rfl) (by kernel_rfl) (by kernel_rfl) (fun _ _ _ h => h) (Or.inl ⟨by rfl, ?_⟩) (by assumption) ?_
          rotate_left
          · (intro w hSw; (try dsimp only at hSw); go_simp <;> try with_reducible rfl)
          try simp only [Act.put, List.setIfInBounds_toArray, List.set_cons_zero, List.set_cons_succ]
          refine wpAnyH_done (by kernel_rfl) ?_ _
          refine NoPanic.normal ?_
          clear hHeld
          have HQ7 : Hid (PQ w BL BR gp k oc (paF c d n m) n m G H wo.drew) := HQ.out.below (Below.refl _ _).drew
          have H7 := hid (HQ7.out.two HP1.out HP2.out)
          generalize wo.drew = wd at HQ7 H7 ⊢
          have H7 : Hid (wd.cell? ⟨BL, i * 3 + 2, none⟩ = some (.int .i64 P1) ∧ wd.cell? ⟨BR, j * 3 + 2, none⟩ = some (.int .i64 P2)) := H7.out
          go_wp2
          refine wp_region_noPanic ?_
          refine wp_region_held_drew (S := fun w' => w'.cell? ⟨BL, i * 3 + 2, none⟩ = some (.int .i64 P1) ∧ w'.cell? ⟨BR, j * 3 + 2, none⟩ = some (.int .i64 P2)) (by kernel_rfl) (by exact H7.out) (fun hHeld => ?_)
          refine wpAnyH_take (i := 0) (oi := { dst := some 42, op := Go.Op.move (Go.Operand.tmp 5), type := 32, pos := "l13_sell.go:178", after := #[], guard := none }) (v := ?_) rfl (by kernel_rfl) (by kernel_rfl) (by kernel_rfl) (fun _ _ _ h => h) (Or.inl ⟨by rfl, ?_⟩) (by assumption) ?_
          rotate_left
          · (intro w hSw; (try dsimp only at hSw); go_simp <;> try with_reducible rfl)
          try simp only [Act.put, List.setIfInBounds_toArray, List.set_cons_zero, List.set_cons_succ]
          refine wpAnyH_take (i := 1) (oi := { dst := some 43, op := Go.Op.move (Go.Operand.tmp 6), type := 109, pos := "l13_sell.go:178", after := #[], guard := none }) (v := ?_) rfl (by kernel_rfl) (by kernel_rfl) (by kernel_rfl) (fun _ _ _ h => h) (Or.inl ⟨by rfl, ?_⟩) (by assumption) ?_
          rotate_left
          · (intro w hSw; (try dsimp only at hSw); go_simp <;> try with_reducible rfl)
          try simp only [Act.put, List.setIfInBounds_toArray, List.set_cons_zero, List.set_cons_succ]
          refine wpAnyH_take (i := 2) (oi := { dst := some 44, op := Go.Op.indexAddr 109 (Go.Operand.tmp 43) (Go.Operand.const (Go.Value.int Go.IntKind.i64 0)), type := 0, pos := "l13_sell.go:178", after := #[{ on := 1, ground := Go.Ground.data }], guard := none }) (v := ?_) rfl (by kernel_rfl) (by kernel_rfl) (by kernel_rfl) (fun _ _ _ h => h) (Or.inl ⟨by rfl, ?_⟩) (by assumption) ?_
          rotate_left
          · (intro w hSw; (try dsimp only at hSw); go_simp <;> try with_reducible rfl)
          try simp only [Act.put, List.setIfInBounds_toArray, List.set_cons_zero, List.set_cons_succ]
          refine wpAnyH_take (i := 3) (oi := { dst := some 45, op := Go.Op.fieldAddr 112 (Go.Operand.tmp 44) 1, type := 0, pos := "l13_sell.go:178", after := #[{ on := 2, ground := Go.Ground.data }], guard := none }) (v := ?_) rfl (by kernel_rfl) (by kernel_rfl) (by kernel_rfl) (fun _ _ _ h => h) (Or.inl ⟨by rfl, ?_⟩) (by assumption) ?_
          rotate_left
          · (intro w hSw; (try dsimp only at hSw); go_simp <;> try with_reducible rfl)
          try simp only [Act.put, List.setIfInBounds_toArray, List.set_cons_zero, List.set_cons_succ]
          refine wpAnyH_take (i := 4) (oi := { dst := some 46, op := Go.Op.load 3 (Go.Operand.tmp 45), type := 3, pos := "l13_sell.go:178", after := #[{ on := 3, ground := Go.Ground.data }], guard := none }) (v := ?_) rfl (by kernel_rfl) (by kernel_rfl) (by kernel_rfl) (fun _ _ _ h => h) (Or.inl ⟨by rfl, ?_⟩) (by assumption) ?_
          rotate_left
          · (intro w hSw; (try dsimp only at hSw); go_simp <;> try with_reducible rfl)
          try simp only [Act.put, List.setIfInBounds_toArray, List.set_cons_zero, List.set_cons_succ]
          refine wpAnyH_take (i := 5) (oi := { dst := some 47, op := Go.Op.move (Go.Operand.tmp 7), type := 109, pos := "l13_sell.go:178", after := #[], guard := none }) (v := ?_) rfl (by kernel_rfl) (by kernel_rfl) (by kernel_rfl) (fun _ _ _ h => h) (Or.inl ⟨by rfl, ?_⟩) (by assumption) ?_
          rotate_left
          · (intro w hSw; (try dsimp only at hSw); go_simp <;> try with_reducible rfl)
          try simp only [Act.put, List.setIfInBounds_toArray, List.set_cons_zero, List.set_cons_succ]
          refine wpAnyH_take (i := 6) (oi := { dst := some 48, op := Go.Op.indexAddr 109 (Go.Operand.tmp 47) (Go.Operand.const (Go.Value.int Go.IntKind.i64 0)), type := 0, pos := "l13_sell.go:178", after := #[{ on := 5, ground := Go.Ground.data }], guard := none }) (v := ?_) rfl (by kernel_rfl) (by kernel_rfl) (by kernel_rfl) (fun _ _ _ h => h) (Or.inl ⟨by rfl, ?_⟩) (by assumption) ?_
          rotate_left
          · (intro w hSw; (try dsimp only at hSw); go_simp <;> try with_reducible rfl)
          try simp only [Act.put, List.setIfInBounds_toArray, List.set_cons_zero, List.set_cons_succ]
          refine wpAnyH_take (i := 7) (oi := { dst := some 49, op := Go.Op.fieldAddr 112 (Go.Operand.tmp 48) 1, type := 0, pos := "l13_sell.go:178", after := #[{ on := 6, ground := Go.Ground.data }], guard := none }) (v := ?_) rfl (by kernel_rfl) (by kernel_rfl) (by kernel_rfl) (fun _ _ _ h => h) (Or.inl ⟨by rfl, ?_⟩) (by assumption) ?_
          rotate_left
          · (intro w hSw; (try dsimp only at hSw); go_simp <;> try with_reducible rfl)
          try simp only [Act.put, List.setIfInBounds_toArray, List.set_cons_zero, List.set_cons_succ]
          refine wpAnyH_take (i := 8) (oi := { dst := some 50, op := Go.Op.load 3 (Go.Operand.tmp 49), type := 3, pos := "l13_sell.go:178", after := #[{ on := 7, ground := Go.Ground.data }], guard := none }) (v := ?_) rfl (by kernel_rfl) (by kernel_rfl) (by kernel_rfl) (fun _ _ _ h => h) (Or.inl ⟨by rfl, ?_⟩) (by assumption) ?_
          rotate_left
          · (intro w hSw; (try dsimp only at hSw); go_simp <;> try with_reducible rfl)
          try simp only [Act.put, List.setIfInBounds_toArray, List.set_cons_zero, List.set_cons_succ]
          refine wpAnyH_take (i := 9) (oi := { dst := some 51, op := Go.Op.move (Go.Operand.tmp 8), type := 3, pos := "l13_sell.go:178", after := #[], guard := none }) (v := ?_) rfl (by kernel_rfl) (by kernel_rfl) (by kernel_rfl) (fun _ _ _ h => h) (Or.inl ⟨by rfl, ?_⟩) (by assumption) ?_
          rotate_left
          · (intro w hSw; (try dsimp only at hSw); go_simp <;> try with_reducible rfl)
          try simp only [Act.put, List.setIfInBounds_toArray, List.set_cons_zero, List.set_cons_succ]
          refine wpAnyH_take (i := 10) (oi := { dst := some 52, op := Go.Op.build 38 #[(0, Go.Operand.tmp 46), (1, Go.Operand.tmp 50), (2, Go.Operand.tmp 51)], type := 38, pos := "l13_sell.go:178", after := #[{ on := 4, ground := Go.Ground.data }, { on := 8, ground := Go.Ground.data }, { on := 9, ground := Go.Ground.data }], guard := none }) (v := ?_) rfl (by kernel_rfl) (by kernel_rfl) (by kernel_rfl) (fun _ _ _ h => h) (Or.inl ⟨by rfl, ?_⟩) (by assumption) ?_
          rotate_left
          · (intro w hSw; (try dsimp only at hSw); go_simp <;> try with_reducible rfl)
          try simp only [Act.put, List.setIfInBounds_toArray, List.set_cons_zero, List.set_cons_succ]
          refine wpAnyH_ready (rs := [11]) (by kernel_rfl) (by simp) ?_
          refine AllReadyH.cons (o := { dst := some 53, op := Go.Op.buildSlice 32 1 #[(0, Go.Operand.tmp 52)], type := 32, pos := "l13_sell.go:178", after := #[{ on := 10, ground := Go.Ground.data }], guard := none }) rfl (fun K hK => ?_) (AllReadyH.nil)
          go_simp
          have PA := HQ7.out.below (((Below.refl _ _).alloc (Nat.le_refl _) (.cells #[.int .i64 P1, .int .i64 P2, .int .i64 A] 38 (0, 0))).drew)
          refine hK.out _ _ (by exact PA.two HP1.out HP2.out) (fun hHeld => ?_)
          clear hK K
          try simp only [Act.put, List.setIfInBounds_toArray, List.set_cons_zero, List.set_cons_succ]
          refine wpAnyH_ready (rs := [12]) (by kernel_rfl) (by simp) ?_
          refine AllReadyH.cons (o := { dst := some 54, op := Go.Op.call { callee := Go.Callee.builtin Go.Builtin.append, args := #[Go.Operand.tmp 42, Go.Operand.tmp 53], argTypes := #[32, 32] }, type := 32, pos := "l13_sell.go:178", after := #[{ on := 0, ground := Go.Ground.data }, { on := 11, ground := Go.Ground.data }], guard := none }) rfl (fun K hK => ?_) (AllReadyH.nil)
          rw [if_pos (by rfl)]
          refine oper_append (Operand.tmp 42) (Operand.tmp 53) 32 rfl w.heap.size 38 i4 (.agg #[.int .i64 0, .int .i64 0, .int .i64 0]) 3 24 Try.underlying32 hi4 hz40 hz41 hz42 rfl (by decide) (.slice (some ⟨gp, 0, none⟩) k oc) k (rowPA3 (paF c d n m) k) rfl PA.own ⟨_, 0, none⟩ 1 1 [.int .i64 P1, .int .i64 P2, .int .i64 A] rfl rfl (ecells (by first | rfl | simp)) (fun u hu => by simp at hu; rcases hu with rfl | rfl | rfl <;> rfl) (by unfold maxLen; omega) (by omega) (by have := PA.own.lt gp rfl; first | omega | (simp at this ⊢; omega)) ?_
          intro v9 w9 hown hgrow hat
          obtain ⟨g9, oc9, rfl, _⟩ := eown_some hown (by omega)
          have HR9 : Hid (PQ w BL BR g9 (k + 1) oc9 (paF c d n m) n m G H w9) := hid (PA.grow hgrow (by rw [rowPA3, HPF.out]; exact hown) hat)
          clear hown hgrow hat PA
          refine hK.out _ _ (by exact HR9.out.two HP1.out HP2.out) (fun hHeld => ?_)
          clear hK K
          try simp only [Act.put, List.setIfInBounds_toArray, List.set_cons_zero, List.set_cons_succ]
          refine wpAnyH_take (i := 13) (oi := { dst := some 5, op := Go.Op.assign (Go.Operand.tmp 54), type := 32, pos := "l13_sell.go:178", after := #[{ on := 12, ground := Go.Ground.data }, { on := 12, ground := Go.Ground.chain }, { on := 0, ground := Go.Ground.phase }, { on := 1, ground := Go.Ground.phase }, { on := 2, ground := Go.Ground.phase }, { on := 3, ground := Go.Ground.phase }, { on := 4, ground := Go.Ground.phase }, { on := 5, ground := Go.Ground.phase }, { on := 6, ground := Go.Ground.phase }, { on := 7, ground := Go.Ground.phase }, { on := 8, ground := Go.Ground.phase }, { on := 9, ground := Go.Ground.phase }, { on := 10, ground := Go.Ground.phase }, { on := 11, ground := Go.Ground.phase }, { on := 12, ground := Go.Ground.phase }], guard := none }) (v := ?_) rfl (by kernel_rfl) (by kernel_rfl) (by kernel_rfl) (fun _ _ _ h => h) (Or.inl ⟨by rfl, ?_⟩) (by assumption) ?_
          rotate_left
          · (intro w hSw; (try dsimp only at hSw); go_simp <;> try with_reducible rfl)
          try simp only [Act.put, List.setIfInBounds_toArray, List.set_cons_zero, List.set_cons_succ]
          refine wpAnyH_done (by kernel_rfl) ?_ _
          refine NoPanic.normal ?_
          clear hHeld
          go_wp2_with (first
            | (go_at_call 75; clear tok3; refine (HT1.out _ (HR9.out.rl)).mono ?_; rintro e w3 ⟨oL', rfl, eL, q1, q2⟩; have HR3 := hid (HR9.out.butL q1 q2); have HeL := hid eL; clear eL q1 q2)
            | (go_at_call 75; refine (HT2.out _ (HR3.out.rr)).mono ?_; rintro e w4 ⟨oR', rfl, eR, q1, q2⟩; have HR4 := hid (HR3.out.butR q1 q2); have HeR := hid eR; clear eR q1 q2))
          go_roundw
          case rel => exact ⟨k + 1, g9, oc9, ixF G i A, ixF H j A, oL', oR', rfl, rfl, rfl, _, _, HRN2.out, HL1.out, HL2.out, HeL.out, HeR.out, HR4.out⟩
          case measure => simp [slLen]; omega
      · have HST : Hid (isM c d n m k) := hid ⟨HRN.out, .inr (by rw [hH.done (by have := hH.le; omega)]; omega)⟩
        have ej : m - j = 0 := by omega
        rw [ej]
        obtain ⟨La, hLa⟩ : ∃ L, n - i = L + 1 := ⟨n - i - 1, by omega⟩
        rw [hLa]
        have lla : (0 : Int) < (La : Int) + 1 := by omega
        clear hG hH heL heR hrun
        go_wp2
        go_returns
        exact seR_yes HOO.out HST.out HQ.out.own HQ.out.bel
    · have HST : Hid (isM c d n m k) := hid ⟨HRN.out, .inl (by rw [hG.done (by have := hG.le; omega)]; omega)⟩
      have ei : n - i = 0 := by omega
      rw [ei]
      clear hG hH heL heR hrun
      go_wp2
      go_returns
      exact seR_yes HOO.out HST.out HQ.out.own HQ.out.bel
end Go.Proofs.Ytnglofgcckdbmaa
