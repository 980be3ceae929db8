/- The weights of a service. -/
import Derived.Test.YtjlniinahfgakaaMw
import Derived.Laws.OwnMore
import Derived.Maps.AppendAt
namespace Go.Proofs.Ytjlniinahfgakaa
open Go Go.ChangeShapes Go.WideShapes Go.ChangeAt Go.RowKit
set_option linter.unusedVariables false
set_option linter.unusedSimpArgs false

/-- D f(s, p) of the places behind the services. -/
def wtF (n : Nat) (z : Nat → Nat → Int) (s : Nat) : Nat → Int := fun k => dl (pC (mF n z) s (cF n z (n + k))) 3 (oF false false false)
/-- An append at one operation of a region that draws. -/
theorem oper_append {P : Program} {w : World} {o : Oper} {a : Act} {K : Act → World → Prop} {Q : Exit → Act → World → Prop} (s x : Operand) (t : TypeId)
    (ho : o.op = .call { callee := .builtin .append, args := #[s, x], argTypes := #[t, t] })
    (base : Nat) (e : TypeId) (i : TypeInfo) (z : Value) (size bytes : Nat) (ht : P.underlying t = some (.slice e)) (hi : P.info? e = some i) (hz : i.zero = some z)
    (hsize : i.size = size) (hby : i.bytes = bytes) (hzs : z.cells.size = size) (hsz : 0 < size)
    (v : Value) (n : Nat) (xs : List Value) (hs : a.eval s = v) (hown : w.ownsRow base e size v n xs)
    (ad : Addr) (m c : Nat) (news : List Value) (hx : a.eval x = .slice (some ad) m c) (hl : news.length = m * size) (hnews : ∀ j u, news[j]? = some u → w.cell? (ad.add j) = some u) (h1 : ∀ u ∈ news, u.oneCell' = true)
    (h63 : n + m ≤ maxLen) (hbytes : (n + m) * bytes ≤ 140737488355328) (hbase : base ≤ w.heap.size)
    (h : ∀ v' w', w'.ownsRow base e size v' (n + m) (xs ++ news) → w.grownBy w' v.ownBlock → (v'.ownBlock = v.ownBlock ∨ v'.ownBlock = some w.heap.size) → K (a.put o.dst v') w') :
    Oper.wp P o a w K Q := by
  obtain ⟨v', w', hr, h2, h3, h4, h5⟩ := run_append_own_at (P := P) w base t o.type e i z size bytes ht hi hz hsize hby hzs hsz v n xs hown ad m c news hl hnews h1 h63 hbytes hbase
  unfold Oper.wp execOp
  simp only [ho, resolve, invoke, builtin, Sem.run_bind, Sem.run_pure, Result.andThen_ok, List.map_toArray, List.map_cons, List.map_nil, hs, hx, hr]
  exact h v' w' h2 h3 h5
theorem below_grown {B : Nat} {A w w' : World} {row : Option Nat} (h : Below B A w) (hA : B ≤ A.heap.size) (g : w.grownBy w' row) (hr : ∀ r, row = some r → B ≤ r) : Below B A w' :=
  h.trans ⟨g.os, g.tape, g.output, g.size, fun k hk => g.block k (Nat.lt_of_lt_of_le hk (Nat.le_trans hA h.size)) (fun e => by have := hr k e.symm; omega)⟩
theorem mF_bound {n N : Nat} {z : Nat → Nat → Int} (hn : n ≤ N) (hz : ∀ i j, i < n → j < N → 0 ≤ z i j ∧ z i j ≤ 100) : ∀ i j, -100 ≤ mF n z i j ∧ mF n z i j ≤ 100 := by
  intro i j
  unfold mF
  split
  · split
    · omega
    · split
      · have := hz i j (by assumption) (by omega); omega
      · omega
  · split <;> omega
theorem pC_bound {n N p s : Nat} {z : Nat → Nat → Int} (hn : n ≤ N) (hp : p < N) (hz : ∀ i j, i < n → j < N → 0 ≤ z i j ∧ z i j ≤ 100) : ∀ i j, -100 ≤ pC (mF n z) s (cF n z p) i j ∧ pC (mF n z) s (cF n z p) i j ≤ 100 := by
  intro i j
  unfold pC cF
  split
  · split
    · have := hz i p (by assumption) hp; omega
    · omega
  · exact mF_bound hn hz i j

set_option maxRecDepth 20000 in
set_option maxHeartbeats 4000000 in
theorem weightsOf_any (ad : Option Addr) (n cap N s : Nat) (ln : Nat → Nat) (z : Nat → Nat → Int) (w : World) (hn : n ≤ 3) (hs : s < n) (hnN : n ≤ N) (hN : N ≤ 200) (hl : ∀ i, i < n → ln i = N) (hz : ∀ i j, i < n → j < N → 0 ≤ z i j ∧ z i j ≤ 100) (H : SR w ad n ln z) :
    Calls Try.prog 81 #[.agg (mcs (mF n z)), .int .i64 (s : Int), .slice ad n cap] w (NewI (N - n) (intL (wtF n z s) (N - n)) w) := by
  obtain ⟨i0, hi, hz0, hz1, hz2⟩ := info3
  have HSR : Hid (SR w ad n ln z) := H
  have HL : Hid (∀ i, i < n → ln i = N) := hl
  have HZ : Hid (∀ i j, i < n → j < N → 0 ≤ z i j ∧ z i j ≤ 100) := hz
  have hs3 : s < 3 := by omega
  have hs4 : (s : Int) < (n : Int) := by omega
  obtain ⟨F, hF⟩ : ∃ F, mF n z = F := ⟨_, rfl⟩
  have HFF : Hid (mF n z = F) := hF
  rw [hF]
  have HM0 : Hid (MB ((w.alloc (.cells (mcs F) 104 (0, 0))).alloc (.cells #[] 3 (0, 0))) w.heap.size F) := (CB.new _ _).alloc _
  have HO0 : Hid (((w.alloc (.cells (mcs F) 104 (0, 0))).alloc (.cells #[] 3 (0, 0))).ownsRow (w.heap.size + 1) 3 1 (.slice (some ⟨w.heap.size + 1, 0, none⟩) 0 0) 0 (intL (wtF n z s) 0)) := ⟨rfl, .inr ⟨w.heap.size + 1, 0, #[], rfl, Nat.le_refl _, CB.newAt (by simp) _ _, Nat.le_refl _, Nat.zero_le _, rfl, rfl⟩⟩
  have HB0 : Hid (Below w.heap.size w ((w.alloc (.cells (mcs F) 104 (0, 0))).alloc (.cells #[] 3 (0, 0)))) := ((Below.refl _ _).alloc (Nat.le_refl _) _).alloc (by simp) _
  clear H hl hz hF
  unfold mcs at HM0 HO0 HB0 ⊢
  go_enter Try.func81, Try.ntmps81
  go_wp2
  go_loopw [7, 8] (fun u v wr => ∃ (k : Nat) (adv : Option Addr) (capv : Nat), k ≤ N - n ∧ v = .int .i64 ((n + k : Nat) : Int) ∧ u = .slice adv k capv ∧ Hid (MB wr w.heap.size F ∧ wr.ownsRow (w.heap.size + 1) 3 1 (.slice adv k capv) k (intL (wtF n z s) k) ∧ Below w.heap.size w wr)) (fun u v _ => N - (intOf v).toNat)
  case atStart => exact ⟨0, _, _, by omega, by simp, rfl, HM0.out, HO0.out, HB0.out⟩
  case round =>
    clear HM0 HO0 HB0
    obtain ⟨k, adv, capv, hk, rfl, rfl, HV⟩ := hrel
    obtain ⟨kb, off, rfl, hkb⟩ := HSR.out.addr (by omega)
    obtain ⟨a, cp, c1, r1⟩ := HSR.out.at HV.out.2.2 hs
    rw [HL.out s hs] at c1
    by_cases hlt : n + k < N
    · have hlt2 : ((n + k : Nat) : Int) < (N : Int) := by omega
      have HLC : Hid (∀ i, i < n → n + k < ln i ∧ (ln i : Int) ≤ 1048576) := fun i hi => by rw [HL.out i hi]; omega
      have HBD : Hid (∀ i j, -100 ≤ pC F s (cF n z (n + k)) i j ∧ pC F s (cF n z (n + k)) i j ≤ 100) := by have := pC_bound (s := s) hnN hlt HZ.out; rw [HFF.out] at this; exact this
      obtain ⟨D, hD⟩ : ∃ D, dl (pC F s (cF n z (n + k))) 3 (oF false false false) = D := ⟨_, rfl⟩
      have HD : Hid (dl (pC F s (cF n z (n + k))) 3 (oF false false false) = D) := hD
      have HDW : Hid (wtF n z s k = D) := by show wtF n z s k = D; unfold wtF; rw [HFF.out]; exact hD
      have HMw0 : Hid (MB wr.drew w.heap.size F) := HV.out.1
      have HOw0 : Hid (wr.drew.ownsRow (w.heap.size + 1) 3 1 (.slice adv k capv) k (intL (wtF n z s) k)) := row_below HV.out.2.1 (Below.refl _ _).drew
      have HBw0 : Hid (Below w.heap.size w wr.drew) := HV.out.2.2.drew
      clear r1 hD HV
      go_upto_region 5 with (fail)
      refine wp_region_held_drew (S := fun w' => w'.cell? ⟨w.heap.size, 0, none⟩ = some (.int .i64 (F 0 0)) ∧ w'.cell? ⟨w.heap.size, 1, none⟩ = some (.int .i64 (F 0 1)) ∧ w'.cell? ⟨w.heap.size, 2, none⟩ = some (.int .i64 (F 0 2)) ∧ w'.cell? ⟨w.heap.size, 3, none⟩ = some (.int .i64 (F 1 0)) ∧ w'.cell? ⟨w.heap.size, 4, none⟩ = some (.int .i64 (F 1 1)) ∧ w'.cell? ⟨w.heap.size, 5, none⟩ = some (.int .i64 (F 1 2)) ∧ w'.cell? ⟨w.heap.size, 6, none⟩ = some (.int .i64 (F 2 0)) ∧ w'.cell? ⟨w.heap.size, 7, none⟩ = some (.int .i64 (F 2 1)) ∧ w'.cell? ⟨w.heap.size, 8, none⟩ = some (.int .i64 (F 2 2))) (by kernel_rfl) (by exact ⟨(CB.cell HMw0.out 0).trans rfl, (CB.cell HMw0.out 1).trans rfl, (CB.cell HMw0.out 2).trans rfl, (CB.cell HMw0.out 3).trans rfl, (CB.cell HMw0.out 4).trans rfl, (CB.cell HMw0.out 5).trans rfl, (CB.cell HMw0.out 6).trans rfl, (CB.cell HMw0.out 7).trans rfl, (CB.cell HMw0.out 8).trans rfl⟩) (fun hHeld => ?_)
      refine wpAnyH_take (i := 0) (oi := { dst := some 21, op := Go.Op.move (Go.Operand.tmp 7), type := 24, pos := "l07_allocate.go:142", after := #[], guard := none }) (v := ?_) rfl (by kernel_rfl) (by kernel_rfl) (by kernel_rfl) (fun _ _ _ h => h) (Or.inl ⟨by rfl, ?_⟩) (by assumption) ?_
      rotate_left
      · (intro w hSw; (try dsimp only at hSw); go_simp <;> try with_reducible rfl)
      try simp only [Act.put, List.setIfInBounds_toArray, List.set_cons_zero, List.set_cons_succ]
      refine wpAnyH_take (i := 1) (oi := { dst := some 22, op := Go.Op.load 104 (Go.Operand.tmp 3), type := 104, pos := "l07_allocate.go:142", after := #[], guard := none }) (v := ?_) rfl (by kernel_rfl) (by kernel_rfl) (by kernel_rfl) (fun _ _ _ h => h) (Or.inl ⟨by rfl, ?_⟩) (by assumption) ?_
      rotate_left
      · (intro w hSw; (try dsimp only at hSw); go_simp <;> try with_reducible rfl)
      try simp only [Act.put, List.setIfInBounds_toArray, List.set_cons_zero, List.set_cons_succ]
      refine wpAnyH_take (i := 2) (oi := { dst := some 23, op := Go.Op.move (Go.Operand.tmp 1), type := 3, pos := "l07_allocate.go:142", after := #[], guard := none }) (v := ?_) rfl (by kernel_rfl) (by kernel_rfl) (by kernel_rfl) (fun _ _ _ h => h) (Or.inl ⟨by rfl, ?_⟩) (by assumption) ?_
      rotate_left
      · (intro w hSw; (try dsimp only at hSw); go_simp <;> try with_reducible rfl)
      try simp only [Act.put, List.setIfInBounds_toArray, List.set_cons_zero, List.set_cons_succ]
      refine wpAnyH_take (i := 3) (oi := { dst := some 24, op := Go.Op.move (Go.Operand.tmp 2), type := 37, pos := "l07_allocate.go:142", after := #[], guard := none }) (v := ?_) rfl (by kernel_rfl) (by kernel_rfl) (by kernel_rfl) (fun _ _ _ h => h) (Or.inl ⟨by rfl, ?_⟩) (by assumption) ?_
      rotate_left
      · (intro w hSw; (try dsimp only at hSw); go_simp <;> try with_reducible rfl)
      try simp only [Act.put, List.setIfInBounds_toArray, List.set_cons_zero, List.set_cons_succ]
      refine wpAnyH_take (i := 4) (oi := { dst := some 25, op := Go.Op.move (Go.Operand.tmp 8), type := 3, pos := "l07_allocate.go:142", after := #[], guard := none }) (v := ?_) rfl (by kernel_rfl) (by kernel_rfl) (by kernel_rfl) (fun _ _ _ h => h) (Or.inl ⟨by rfl, ?_⟩) (by assumption) ?_
      rotate_left
      · (intro w hSw; (try dsimp only at hSw); go_simp <;> try with_reducible rfl)
      try simp only [Act.put, List.setIfInBounds_toArray, List.set_cons_zero, List.set_cons_succ]
      refine wpAnyH_ready (rs := [5]) (by kernel_rfl) (by simp) ?_
      refine AllReadyH.cons (o := { dst := some 26, op := Go.Op.call { callee := Go.Callee.value (Go.Operand.func 89), args := #[Go.Operand.tmp 24, Go.Operand.tmp 25], argTypes := #[37, 3] }, type := 102, pos := "l07_allocate.go:142", after := #[{ on := 3, ground := Go.Ground.data }, { on := 4, ground := Go.Ground.data }], guard := none }) rfl (fun K hK => ?_) (AllReadyH.nil)
      go_simp
      refine (columnOf_any _ n _ ln z (n + k) _ hn HLC.out (HSR.out.below HBw0.out)).mono ?_
      rintro e w2 ⟨rfl, b2⟩
      have HMw2 : Hid (MB w2 w.heap.size F) := CB.below HMw0.out b2 (CB.lt HMw0.out)
      have HOw2 : Hid (w2.ownsRow (w.heap.size + 1) 3 1 (.slice adv k capv) k (intL (wtF n z s) k)) := row_below HOw0.out b2
      have HBw2 : Hid (Below w.heap.size w w2) := bel_on HBw0.out b2
      clear b2
      first | refine hK.out _ _ (by exact ⟨(CB.cell HMw2.out 0).trans rfl, (CB.cell HMw2.out 1).trans rfl, (CB.cell HMw2.out 2).trans rfl, (CB.cell HMw2.out 3).trans rfl, (CB.cell HMw2.out 4).trans rfl, (CB.cell HMw2.out 5).trans rfl, (CB.cell HMw2.out 6).trans rfl, (CB.cell HMw2.out 7).trans rfl, (CB.cell HMw2.out 8).trans rfl⟩) (fun hHeld => ?_) | (go_wp2_with fail; refine hK.out _ _ (by exact ⟨(CB.cell HMw2.out 0).trans rfl, (CB.cell HMw2.out 1).trans rfl, (CB.cell HMw2.out 2).trans rfl, (CB.cell HMw2.out 3).trans rfl, (CB.cell HMw2.out 4).trans rfl, (CB.cell HMw2.out 5).trans rfl, (CB.cell HMw2.out 6).trans rfl, (CB.cell HMw2.out 7).trans rfl, (CB.cell HMw2.out 8).trans rfl⟩) (fun hHeld => ?_))
      clear hK K
      try simp only [Act.put, List.setIfInBounds_toArray, List.set_cons_zero, List.set_cons_succ]
      refine wpAnyH_ready (rs := [6]) (by kernel_rfl) (by simp) ?_
      refine AllReadyH.cons (o := { dst := some 27, op := Go.Op.call { callee := Go.Callee.value (Go.Operand.func 88), args := #[Go.Operand.tmp 22, Go.Operand.tmp 23, Go.Operand.tmp 26], argTypes := #[104, 3, 102] }, type := 104, pos := "l07_allocate.go:142", after := #[{ on := 1, ground := Go.Ground.data }, { on := 2, ground := Go.Ground.data }, { on := 5, ground := Go.Ground.data }, { on := 5, ground := Go.Ground.chain }], guard := none }) rfl (fun K hK => ?_) (AllReadyH.nil)
      go_simp
      refine (withColumn_any F s (cF n z (n + k)) _ hs3).mono ?_
      rintro e w3 ⟨rfl, b3⟩
      have HMw3 : Hid (MB w3 w.heap.size F) := CB.below HMw2.out b3 (CB.lt HMw2.out)
      have HOw3 : Hid (w3.ownsRow (w.heap.size + 1) 3 1 (.slice adv k capv) k (intL (wtF n z s) k)) := row_below HOw2.out b3
      have HBw3 : Hid (Below w.heap.size w w3) := bel_on HBw2.out b3
      clear b3
      first | refine hK.out _ _ (by exact ⟨(CB.cell HMw3.out 0).trans rfl, (CB.cell HMw3.out 1).trans rfl, (CB.cell HMw3.out 2).trans rfl, (CB.cell HMw3.out 3).trans rfl, (CB.cell HMw3.out 4).trans rfl, (CB.cell HMw3.out 5).trans rfl, (CB.cell HMw3.out 6).trans rfl, (CB.cell HMw3.out 7).trans rfl, (CB.cell HMw3.out 8).trans rfl⟩) (fun hHeld => ?_) | (go_wp2_with fail; refine hK.out _ _ (by exact ⟨(CB.cell HMw3.out 0).trans rfl, (CB.cell HMw3.out 1).trans rfl, (CB.cell HMw3.out 2).trans rfl, (CB.cell HMw3.out 3).trans rfl, (CB.cell HMw3.out 4).trans rfl, (CB.cell HMw3.out 5).trans rfl, (CB.cell HMw3.out 6).trans rfl, (CB.cell HMw3.out 7).trans rfl, (CB.cell HMw3.out 8).trans rfl⟩) (fun hHeld => ?_))
      clear hK K
      try simp only [Act.put, List.setIfInBounds_toArray, List.set_cons_zero, List.set_cons_succ]
      refine wpAnyH_ready (rs := [7]) (by kernel_rfl) (by simp) ?_
      refine AllReadyH.cons (o := { dst := some 28, op := Go.Op.call { callee := Go.Callee.value (Go.Operand.func 80), args := #[Go.Operand.tmp 27], argTypes := #[104] }, type := 3, pos := "l07_allocate.go:142", after := #[{ on := 6, ground := Go.Ground.data }, { on := 6, ground := Go.Ground.chain }], guard := none }) rfl (fun K hK => ?_) (AllReadyH.nil)
      go_simp
      refine (determinant_any (pC F s (cF n z (n + k))) HBD.out _).mono ?_
      rintro e w4 ⟨rfl, b4⟩
      rw [HD.out]
      have HMw4 : Hid (MB w4 w.heap.size F) := CB.below HMw3.out b4 (CB.lt HMw3.out)
      have HOw4 : Hid (w4.ownsRow (w.heap.size + 1) 3 1 (.slice adv k capv) k (intL (wtF n z s) k)) := row_below HOw3.out b4
      have HBw4 : Hid (Below w.heap.size w w4) := bel_on HBw3.out b4
      clear b4
      first | refine hK.out _ _ (by exact ⟨(CB.cell HMw4.out 0).trans rfl, (CB.cell HMw4.out 1).trans rfl, (CB.cell HMw4.out 2).trans rfl, (CB.cell HMw4.out 3).trans rfl, (CB.cell HMw4.out 4).trans rfl, (CB.cell HMw4.out 5).trans rfl, (CB.cell HMw4.out 6).trans rfl, (CB.cell HMw4.out 7).trans rfl, (CB.cell HMw4.out 8).trans rfl⟩) (fun hHeld => ?_) | (go_wp2_with fail; refine hK.out _ _ (by exact ⟨(CB.cell HMw4.out 0).trans rfl, (CB.cell HMw4.out 1).trans rfl, (CB.cell HMw4.out 2).trans rfl, (CB.cell HMw4.out 3).trans rfl, (CB.cell HMw4.out 4).trans rfl, (CB.cell HMw4.out 5).trans rfl, (CB.cell HMw4.out 6).trans rfl, (CB.cell HMw4.out 7).trans rfl, (CB.cell HMw4.out 8).trans rfl⟩) (fun hHeld => ?_))
      clear hK K
      try simp only [Act.put, List.setIfInBounds_toArray, List.set_cons_zero, List.set_cons_succ]
      refine wpAnyH_ready (rs := [8]) (by kernel_rfl) (by simp) ?_
      refine AllReadyH.cons (o := { dst := some 29, op := Go.Op.buildSlice 24 1 #[(0, Go.Operand.tmp 28)], type := 24, pos := "l07_allocate.go:142", after := #[{ on := 7, ground := Go.Ground.data }], guard := none }) rfl (fun K hK => ?_) (AllReadyH.nil)
      go_simp
      have HM5 : Hid (MB (w4.alloc (.cells #[.int .i64 D] 3 (0, 0))) w.heap.size F) := CB.alloc HMw4.out _
      first | refine hK.out _ _ (by exact ⟨(CB.cell HM5.out 0).trans rfl, (CB.cell HM5.out 1).trans rfl, (CB.cell HM5.out 2).trans rfl, (CB.cell HM5.out 3).trans rfl, (CB.cell HM5.out 4).trans rfl, (CB.cell HM5.out 5).trans rfl, (CB.cell HM5.out 6).trans rfl, (CB.cell HM5.out 7).trans rfl, (CB.cell HM5.out 8).trans rfl⟩) (fun hHeld => ?_) | (go_wp2_with fail; refine hK.out _ _ (by exact ⟨(CB.cell HM5.out 0).trans rfl, (CB.cell HM5.out 1).trans rfl, (CB.cell HM5.out 2).trans rfl, (CB.cell HM5.out 3).trans rfl, (CB.cell HM5.out 4).trans rfl, (CB.cell HM5.out 5).trans rfl, (CB.cell HM5.out 6).trans rfl, (CB.cell HM5.out 7).trans rfl, (CB.cell HM5.out 8).trans rfl⟩) (fun hHeld => ?_))
      clear hK K
      try simp only [Act.put, List.setIfInBounds_toArray, List.set_cons_zero, List.set_cons_succ]
      refine wpAnyH_ready (rs := [9]) (by kernel_rfl) (by simp) ?_
      refine AllReadyH.cons (o := { dst := some 30, op := Go.Op.call { callee := Go.Callee.builtin Go.Builtin.append, args := #[Go.Operand.tmp 21, Go.Operand.tmp 29], argTypes := #[24, 24] }, type := 24, pos := "l07_allocate.go:142", after := #[{ on := 0, ground := Go.Ground.data }, { on := 8, ground := Go.Ground.data }, { on := 7, ground := Go.Ground.chain }], guard := none }) rfl (fun K hK => ?_) (AllReadyH.nil)
      rw [if_pos (by rfl)]
      refine oper_append (Operand.tmp 21) (Operand.tmp 29) 24 rfl (w.heap.size + 1) 3 i0 (.int .i64 0) 1 8 Try.underlying24 hi hz0 hz1 hz2 rfl (by decide) (.slice adv k capv) k (intL (wtF n z s) k) rfl (row_below HOw4.out ((Below.refl _ _).alloc (Nat.le_refl _) _)) ⟨w4.heap.size, 0, none⟩ 1 1 [.int .i64 D] rfl rfl (cell_one_at rfl) (fun u hu => by simp at hu; subst hu; rfl) (by unfold maxLen; omega) (by omega) (by have := CB.lt HMw4.out; simp; omega) ?_
      intro v' w6 hown6 hgrow6 hloc6
      obtain ⟨ad6, cap6, rfl⟩ := row_form hown6
      have hlo : ∀ zz, Value.ownBlock (.slice adv k capv) = some zz → w.heap.size + 1 ≤ zz := fun zz hzz => (HOw4.out.lt zz hzz).1
      have HM6 : Hid (MB w6 w.heap.size F) := CB.keep HM5.out (hgrow6.block _ (CB.lt HM5.out) (fun q => by have := hlo _ q.symm; omega))
      have HO6 : Hid (w6.ownsRow (w.heap.size + 1) 3 1 (.slice ad6 (k + 1) cap6) (k + 1) (intL (wtF n z s) (k + 1))) := by rw [intL_succ, HDW.out]; exact hown6
      have HB6 : Hid (Below w.heap.size w w6) := below_grown (HBw4.out.alloc HBw4.out.size _) (Nat.le_refl _) hgrow6 (fun rr q => by have := hlo rr q; omega)
      clear hown6 hgrow6 hloc6 hlo
      first | refine hK.out _ _ (by exact ⟨(CB.cell HM6.out 0).trans rfl, (CB.cell HM6.out 1).trans rfl, (CB.cell HM6.out 2).trans rfl, (CB.cell HM6.out 3).trans rfl, (CB.cell HM6.out 4).trans rfl, (CB.cell HM6.out 5).trans rfl, (CB.cell HM6.out 6).trans rfl, (CB.cell HM6.out 7).trans rfl, (CB.cell HM6.out 8).trans rfl⟩) (fun hHeld => ?_) | (go_wp2_with fail; refine hK.out _ _ (by exact ⟨(CB.cell HM6.out 0).trans rfl, (CB.cell HM6.out 1).trans rfl, (CB.cell HM6.out 2).trans rfl, (CB.cell HM6.out 3).trans rfl, (CB.cell HM6.out 4).trans rfl, (CB.cell HM6.out 5).trans rfl, (CB.cell HM6.out 6).trans rfl, (CB.cell HM6.out 7).trans rfl, (CB.cell HM6.out 8).trans rfl⟩) (fun hHeld => ?_))
      clear hK K
      try simp only [Act.put, List.setIfInBounds_toArray, List.set_cons_zero, List.set_cons_succ]
      refine wpAnyH_take (i := 10) (oi := { dst := some 7, op := Go.Op.assign (Go.Operand.tmp 30), type := 24, pos := "l07_allocate.go:142", after := #[{ on := 9, ground := Go.Ground.data }, { on := 9, ground := Go.Ground.chain }, { on := 0, ground := Go.Ground.phase }, { on := 1, ground := Go.Ground.phase }, { on := 2, ground := Go.Ground.phase }, { on := 3, ground := Go.Ground.phase }, { on := 4, ground := Go.Ground.phase }, { on := 5, ground := Go.Ground.phase }, { on := 6, ground := Go.Ground.phase }, { on := 7, ground := Go.Ground.phase }, { on := 8, ground := Go.Ground.phase }, { on := 9, ground := Go.Ground.phase }], guard := none }) (v := ?_) rfl (by kernel_rfl) (by kernel_rfl) (by kernel_rfl) (fun _ _ _ h => h) (Or.inl ⟨by rfl, ?_⟩) (by assumption) ?_
      rotate_left
      · (intro w hSw; (try dsimp only at hSw); go_simp <;> try with_reducible rfl)
      try simp only [Act.put, List.setIfInBounds_toArray, List.set_cons_zero, List.set_cons_succ]
      refine wpAnyH_done (by kernel_rfl) ?_ _
      clear hHeld
      clear c1
      go_wp2
      go_roundw
      case rel => exact ⟨k + 1, ad6, cap6, by omega, by go_num, rfl, HM6.out, HO6.out, HB6.out⟩
      case measure => simp [intOf]; omega
    · obtain rfl : N - n = k := by omega
      have lkk : ¬ ((n + (N - n) : Nat) : Int) < (N : Int) := by omega
      clear r1
      go_wp2
      go_returns
      exact ⟨adv, capv, rfl, row_lower HV.out.2.1 (by omega), HV.out.2.2⟩
end Go.Proofs.Ytjlniinahfgakaa
