/- The program's handOnAll. -/
import Derived.Test.YtjlniinahfgakaaMt
import Derived.Deep.Cut
namespace Go.Proofs.Ytjlniinahfgakaa
open Go Go.ChangeShapes Go.WideShapes Go.ChangeAt Go.RowKit
set_option linter.unusedVariables false
set_option linter.unusedSimpArgs false

/-- What stands by between two services: the matrix's box, what is made, the costs, what came. -/
structure HS (n N : Nat) (z : Nat → Nat → Int) (c : Nat → Int) (w : World) (BM : Nat) (F : Nat → Nat → Int) (H C cc cx i : Nat) (cad : Option Addr) (ccap : Nat) (vs : List Value) (o : Nat → Int) (W : World) : Prop where
  mb : MB W BM F
  hb : CB W H #[.slice (some ⟨C, 0, none⟩) N cc, .slice cad i ccap] 85
  nb : NB W C N cx o
  cw : CW w i cad ccap (H + 1) vs n N z c W
  r0 : CB W w.heap.size #[.slice none 0 0, .slice none 0 0] 85
  bel : Below w.heap.size w W
  lo : w.heap.size < BM ∧ BM < C ∧ C < H
section
variable {n N : Nat} {z : Nat → Nat → Int} {c : Nat → Int} {w : World} {BM : Nat} {F : Nat → Nat → Int} {H C cc cx i : Nat} {cad : Option Addr} {ccap : Nat} {vs : List Value} {o : Nat → Int} {W W' : World}
theorem HS.below (h : HS n N z c w BM F H C cc cx i cad ccap vs o W) (b : Below W.heap.size W W') : HS n N z c w BM F H C cc cx i cad ccap vs o W' :=
  ⟨CB.below h.mb b (CB.lt h.mb), h.hb.below b h.hb.lt, h.nb.on b, h.cw.below b, h.r0.below b h.r0.lt, bel_on h.bel b, h.lo⟩
theorem HS.put (h : HS n N z c w BM F H C cc cx i cad ccap vs o W) {k : Nat} (hk : k < N) (y : Int) : HS n N z c w BM F H C cc cx i cad ccap vs (upd o k y) (W.setCell ⟨C, k, none⟩ (.int .i64 y)) := by
  have hlo := h.lo
  obtain ⟨cs, hcs, _⟩ := h.nb
  exact ⟨CB.other h.mb _ (by omega), h.hb.other _ (by omega), h.nb.set hk y, h.cw.set _ hcs (by decide) (by omega), h.r0.other _ (by omega), h.bel.setCell (by show w.heap.size ≤ C; omega) _, h.lo⟩
theorem HS.came (h : HS n N z c w BM F H C cc cx i cad ccap vs o W) {a1 : Option Addr} {cp1 : Nat} {cad' : Option Addr} {ccap' : Nat} {ob : Obj} (h1 : W.ownsRow (H + 1) 3 1 (.slice a1 (cmN n N z c i) cp1) (cmN n N z c i) (intL (cmV n N z c i) (cmN n N z c i)))
    (hown : W'.ownsRow w.heap.size 24 1 (.slice cad' (i + 1) ccap') (i + 1) (vs ++ [.slice a1 (cmN n N z c i) cp1])) (hg : (W.alloc ob).grownBy W' (Value.ownBlock (.slice cad i ccap))) :
    HS n N z c w BM F H C cc cx (i + 1) cad' ccap' (vs ++ [.slice a1 (cmN n N z c i) cp1]) o (W'.setCell ⟨H, 1, none⟩ (.slice cad' (i + 1) ccap')) := by
  have hlo := h.lo
  have hal := (Below.refl W.heap.size W).alloc (Nat.le_refl _) ob
  have kb : ∀ {b : Nat} {cs : Array Value} {t : TypeId}, CB W b cs t → t ≠ 24 → CB W' b cs t := fun {b cs t} hb ht => by
    have hb2 := hb.below hal hb.lt
    exact hb2.keep (hg.block b hb2.lt (CB.ne hb h.cw.row ht))
  obtain ⟨cs, n1, n2, n3⟩ := h.nb
  have hH := kb h.hb (by decide)
  have hBW : Below w.heap.size w W' := below_grown (bel_on h.bel hal) (Nat.le_refl _) hg (fun r q => (h.cw.row.lt r q).1)
  have hcw := h.cw.app h1 hown hg
  exact ⟨CB.other (kb h.mb (by decide)) _ (by omega), hH.set 1 _, ⟨cs, (kb n1 (by decide)).other _ (by omega), n2, n3⟩, hcw.set _ hH (by decide) (by omega), (kb h.r0 (by decide)).other _ (by omega), hBW.setCell (by show w.heap.size ≤ H; omega) _, h.lo⟩
end

/-- The costs behind the services and what came of each, and whether all costs are amounts. -/
def HoP (n N : Nat) (z : Nat → Nat → Int) (c : Nat → Int) (w : World) (e : Ending) (w' : World) : Prop := ∃ C cc cad ccap, e = .returned (.tuple #[.agg #[.slice (some ⟨C, 0, none⟩) N cc, .slice cad n ccap], .bool (costB N (hC n N z c n))]) ∧ w'.ownsRow w.heap.size 3 1 (.slice (some ⟨C, 0, none⟩) N cc) N (intL (hC n N z c n) N) ∧ SR w' cad n (cmN n N z c) (cmV n N z c) ∧ Below w.heap.size w w'

set_option maxRecDepth 20000 in
set_option maxHeartbeats 8000000 in
theorem handOnAll_ok (ca : Option Addr) (N ccap0 : Nat) (c : Nat → Int) (ad : Option Addr) (n cap : Nat) (ln : Nat → Nat) (z : Nat → Nat → Int) (w : World) (hcost : CostP N c) (hsh : ShS N (n : Int) n ln z) (hD : dl (mF n z) 3 (oF false false false) ≠ 0) (hc : IR w ca N c) (hr : SR w ad n ln z) :
    Calls Try.prog 63 #[.slice ca N ccap0, .int .i64 (n : Int), .slice ad n cap] w (HoP n N z c w) := by
  obtain ⟨i0, hi0, hz0, hz1, hz2⟩ := infoS
  have hNb : N ≤ 200 := hcost.1.2
  have hN1 : 0 < N := by have := hcost.1.1; omega
  have hn : n ≤ 3 := by have := hsh.1; omega
  have hn1 : 1 ≤ n := by have := hsh.1; omega
  have hnN : n ≤ N := by have := hsh.2.1; omega
  have hnN2 : (n : Int) < (N : Int) := hsh.2.1
  have hN2 : (N : Int) ≤ 1048576 := by omega
  have HLN : Hid (∀ i, i < n → ln i = N) := fun i hi => (hsh.2.2.2 i hi).1
  have HZ : Hid (∀ i j, i < n → j < N → 0 ≤ z i j ∧ z i j ≤ 100) := fun i j hi hj => hunB_iff.1 ((hsh.2.2.2 i hi).2.2.1 j hj)
  have hcb : costB N c = true := costB_t hcost
  have hsb : shsB N (n : Int) n ln z = true := shsB_t hsh
  have HCO : Hid (CostP N c) := hcost
  have HSR : Hid (SR w ad n ln z) := hr
  have HIC0 : Hid (IR w ca N c) := hc
  obtain ⟨ka, oa, rfl, hka⟩ := hc.addr hN1
  have HIC : Hid (∀ (i : Nat) (W : World), i < N → Below w.heap.size w W → W.cell? ⟨ka, oa + i, none⟩ = some (.int .i64 (c i))) := fun i W hi hW => (HIC0.out.below hW).cell hi
  obtain ⟨F, hF⟩ : ∃ F, mF n z = F := ⟨_, rfl⟩
  have HFF : Hid (mF n z = F) := hF
  have HFB : Hid (∀ i j, -100 ≤ F i j ∧ F i j ≤ 100) := by have := mF_bound hnN HZ.out; rw [hF] at this; exact this
  have hwo : ∀ (i : Nat) (W : World), i < n → Below w.heap.size w W → Calls Try.prog 81 #[.agg (mcs (mF n z)), .int .i64 (i : Int), .slice ad n cap] W (NewI (N - n) (intL (wtF n z i) (N - n)) W) := fun i W hi hW => weightsOf_any _ n _ N i ln z _ hn hi hnN hNb HLN.out HZ.out (HSR.out.below hW)
  rw [hF] at hD hwo
  have HWO : Hid (∀ (i : Nat) (W : World), i < n → Below w.heap.size w W → Calls Try.prog 81 #[.agg (mcs F), .int .i64 (i : Int), .slice ad n cap] W (NewI (N - n) (intL (wtF n z i) (N - n)) W)) := hwo
  clear hwo
  obtain ⟨D, hDD⟩ : ∃ D, dl F 3 (oF false false false) = D := ⟨_, rfl⟩
  rw [hDD] at hD
  have HD : Hid (dl F 3 (oF false false false) = D) := hDD
  have hD0 : (D == 0) = false := by simpa using hD
  have HLL : Hid (∀ j, j < n → (ln j : Int) ≤ 1048576) := fun j hj => by rw [HLN.out j hj]; omega
  have HLM : Hid (∀ i, i < n → n ≤ ln i ∧ (ln i : Int) ≤ 1048576) := fun i hi => by rw [HLN.out i hi]; omega
  have HZM : Hid (∀ i j, i < n → j < n → 0 ≤ z i j ∧ z i j ≤ 100) := fun i j hi hj => HZ.out i j hi (by omega)
  have HA0 : Hid (Below w.heap.size w (w.alloc (.cells #[.slice none 0 0, .slice none 0 0] 85 (0, 0)))) := (Below.refl _ _).alloc (Nat.le_refl _) _
  clear hcost hsh hc hr hDD hF hD hka
  go_enter Try.func63, Try.ntmps63
  go_upto_region 8 with (first
    | (go_at_call 55; go_loud (refine (areCosts_any _ _ _ c _ hN2 (HIC0.out.below HA0.out)).mono ?_; rintro e w' ⟨rfl, ew⟩; replace ew := ew.symm; subst ew; rw [hcb]))
    | (go_at_call 78; go_loud (refine (areShareLists_eq _ _ _ N _ ln z _ (by omega) hNb HLL.out (HSR.out.below HA0.out) hsb).mono ?_; rintro e w' ⟨rfl, ew⟩; replace ew := ew.symm; subst ew))
    | (go_at_call 79; go_loud (refine (matrixOf_any _ n _ ln z _ hn HLM.out HZM.out (HSR.out.below HA0.out)).mono ?_; rintro e w1 ⟨rfl, b1⟩; rw [HFF.out]; unfold mcs; have HR1 : Hid (CB w1 w.heap.size #[.slice none 0 0, .slice none 0 0] 85) := (CB.new _ _).below b1 (by simp); have HB1 : Hid (Below w.heap.size w w1) := bel_on HA0.out b1; clear b1))
    | (go_at_call 80; go_loud (refine (determinant_any F HFB.out _).mono ?_; rintro e w2 ⟨rfl, b2⟩; rw [HD.out]; have HMB : Hid (MB w2 w1.heap.size F) := (CB.new _ _).below b2 (by simp); have HR2 : Hid (CB w2 w.heap.size #[.slice none 0 0, .slice none 0 0] 85) := (HR1.out.alloc _).below b2 (HR1.out.alloc _).lt; have HB2 : Hid (Below w.heap.size w w2) := bel_on (bel_on HB1.out ((Below.refl _ _).alloc (Nat.le_refl _) _)) b2; have hs12 : w1.heap.size < w2.heap.size := CB.lt HMB.out; clear b2))
    | (go_at_call 56; go_loud (refine (cloneI_any _ N _ c _ hN1 (by omega) (HIC0.out.below HB2.out)).mono ?_; rintro e w3 ⟨ad3, cp3, rfl, o3, b3⟩; obtain ⟨C, cc, cx, eC, hCb, hNB, hOwn⟩ := row_NB o3 hN1; simp only [Value.slice.injEq] at eC; obtain ⟨rfl, _, rfl⟩ := eC; have HMB3 : Hid (MB w3 w1.heap.size F) := CB.below HMB.out b3 (CB.lt HMB.out); have HR3 : Hid (CB w3 w.heap.size #[.slice none 0 0, .slice none 0 0] 85) := HR2.out.below b3 HR2.out.lt; have HB3 : Hid (Below w.heap.size w w3) := bel_on HB2.out b3; have HNB : Hid (NB w3 C N cx c) := hNB; have HOW : Hid (∀ (w' : World) (o' : Nat → Int), NB w' C N cx o' → w'.ownsRow w2.heap.size 3 1 (.slice (some ⟨C, 0, none⟩) N cp3) N (intL o' N)) := hOwn; have HCB : Hid (w2.heap.size ≤ C ∧ C < w3.heap.size) := ⟨hCb, hNB.lt⟩; clear b3 o3 hNB hOwn hCb)))
  obtain ⟨BM, hBM⟩ : ∃ BM, w1.heap.size = BM := ⟨_, rfl⟩
  rw [hBM] at HMB3 ⊢
  have hlo1 : w.heap.size < BM := by rw [← hBM]; exact HR1.out.lt
  have hlo2 : BM < C := by have := HCB.out.1; omega
  have HS0 : Hid (HS n N z c w BM F w3.heap.size C cp3 cx 0 none 0 [] c (w3.alloc (.cells #[.slice (some ⟨C, 0, none⟩) N cp3, .slice none 0 0] 85 (0, 0)))) := ⟨CB.alloc HMB3.out _, CB.new _ _, HNB.out.on ((Below.refl _ _).alloc (Nat.le_refl _) _), ⟨⟨rfl, .inl ⟨rfl, rfl⟩⟩, fun q hq => by omega⟩, HR3.out.alloc _, bel_on HB3.out ((Below.refl _ _).alloc (Nat.le_refl _) _), hlo1, hlo2, HCB.out.2⟩
  obtain ⟨H, hH⟩ : ∃ H, w3.heap.size = H := ⟨_, rfl⟩
  have HOW2 : Hid (∀ (w' : World) (o' : Nat → Int), NB w' C N cx o' → w'.ownsRow w.heap.size 3 1 (.slice (some ⟨C, 0, none⟩) N cp3) N (intL o' N)) := fun w' o' h => row_lower (HOW.out w' o' h) HB2.out.size
  rw [hH] at HS0 ⊢
  clear HR1 HB1 HMB HR2 HB2 HMB3 HR3 HB3 HNB HOW HCB hs12 hBM hlo1 hlo2 hH
  go_loopw [10, 11, 12, 13, 36] (fun _ _ _ _ v wr => ∃ (i : Nat) (cad : Option Addr) (ccap : Nat) (vs : List Value), i ≤ n ∧ v = .int .i64 (i : Int) ∧ Hid (HS n N z c w BM F H C cp3 cx i cad ccap vs (hC n N z c i) wr)) (fun _ _ _ _ v _ => n - (intOf v).toNat)
  case atStart => exact ⟨0, none, 0, [], by omega, rfl, HS0.out⟩
  case round =>
    clear HS0
    obtain ⟨i, cad, ccap, vs, hi, rfl, HV⟩ := hrel
    by_cases hlt : i < n
    · have hlt2 : (i : Int) < (n : Int) := by omega
      have hiN : i < N := by omega
      have hiN2 : (i : Int) < (N : Int) := by omega
      obtain ⟨x, hx⟩ : ∃ x, c i = x := ⟨_, rfl⟩
      have HCI : Hid (∀ W : World, Below w.heap.size w W → W.cell? ⟨ka, oa + i, none⟩ = some (.int .i64 x)) := fun W hW => by rw [← hx]; exact HIC.out i W hiN hW
      obtain ⟨M, hMM⟩ : ∃ M, cmN n N z c i = M := ⟨_, rfl⟩
      have HMX : Hid (shM x (N - n) (wtF n z i) = M ∧ shV x (N - n) (wtF n z i) = cmV n N z c i) := ⟨by rw [← hMM, ← hx]; rfl, by rw [← hx]; rfl⟩
      have HMM : Hid (cmN n N z c i = M) := hMM
      have hML : M ≤ N - n := by rw [← hMM]; exact cmN_le n N z c i
      have HSw : Hid (HS n N z c w BM F H C cp3 cx i cad ccap vs (hC n N z c i) wr.drew) := HV.out.below (Below.refl _ _).drew
      have cx0 : wr.drew.cell? ⟨ka, oa + i, none⟩ = some (.int .i64 x) := HCI.out _ HSw.out.bel
      clear HV hx hMM
      go_upto_region 10 with (fail)
      refine wp_region_held_drew (S := fun w' => w'.cell? ⟨ka, oa + i, none⟩ = some (.int .i64 x) ∧ w'.cell? ⟨BM, 0, none⟩ = some (.int .i64 (F 0 0)) ∧ w'.cell? ⟨BM, 1, none⟩ = some (.int .i64 (F 0 1)) ∧ w'.cell? ⟨BM, 2, none⟩ = some (.int .i64 (F 0 2)) ∧ w'.cell? ⟨BM, 3, none⟩ = some (.int .i64 (F 1 0)) ∧ w'.cell? ⟨BM, 4, none⟩ = some (.int .i64 (F 1 1)) ∧ w'.cell? ⟨BM, 5, none⟩ = some (.int .i64 (F 1 2)) ∧ w'.cell? ⟨BM, 6, none⟩ = some (.int .i64 (F 2 0)) ∧ w'.cell? ⟨BM, 7, none⟩ = some (.int .i64 (F 2 1)) ∧ w'.cell? ⟨BM, 8, none⟩ = some (.int .i64 (F 2 2))) (by kernel_rfl) (by exact ⟨cx0, (CB.cell HSw.out.mb 0).trans rfl, (CB.cell HSw.out.mb 1).trans rfl, (CB.cell HSw.out.mb 2).trans rfl, (CB.cell HSw.out.mb 3).trans rfl, (CB.cell HSw.out.mb 4).trans rfl, (CB.cell HSw.out.mb 5).trans rfl, (CB.cell HSw.out.mb 6).trans rfl, (CB.cell HSw.out.mb 7).trans rfl, (CB.cell HSw.out.mb 8).trans rfl⟩) (fun hHeld => ?_)
      refine wpAnyH_take (i := 0) (oi := { dst := some 39, op := Go.Op.move (Go.Operand.tmp 0), type := 24, pos := "l07_allocate.go:188", after := #[], guard := none }) (v := ?_) rfl (by kernel_rfl) (by kernel_rfl) (by kernel_rfl) (fun _ _ _ h => h) (Or.inl ⟨by rfl, ?_⟩) (by assumption) ?_
      rotate_left
      · (intro w hSw; (try dsimp only at hSw); go_simp <;> try with_reducible rfl)
      try simp only [Act.put, List.setIfInBounds_toArray, List.set_cons_zero, List.set_cons_succ]
      refine wpAnyH_take (i := 1) (oi := { dst := some 40, op := Go.Op.move (Go.Operand.tmp 10), type := 3, pos := "l07_allocate.go:188", after := #[], guard := none }) (v := ?_) rfl (by kernel_rfl) (by kernel_rfl) (by kernel_rfl) (fun _ _ _ h => h) (Or.inl ⟨by rfl, ?_⟩) (by assumption) ?_
      rotate_left
      · (intro w hSw; (try dsimp only at hSw); go_simp <;> try with_reducible rfl)
      try simp only [Act.put, List.setIfInBounds_toArray, List.set_cons_zero, List.set_cons_succ]
      refine wpAnyH_take (i := 2) (oi := { dst := some 41, op := Go.Op.indexAddr 24 (Go.Operand.tmp 39) (Go.Operand.tmp 40), type := 0, pos := "l07_allocate.go:188", after := #[{ on := 0, ground := Go.Ground.data }, { on := 1, ground := Go.Ground.data }], guard := none }) (v := ?_) rfl (by kernel_rfl) (by kernel_rfl) (by kernel_rfl) (fun _ _ _ h => h) (Or.inl ⟨by rfl, ?_⟩) (by assumption) ?_
      rotate_left
      · (intro w hSw; (try dsimp only at hSw); go_simp <;> try with_reducible rfl)
      try simp only [Act.put, List.setIfInBounds_toArray, List.set_cons_zero, List.set_cons_succ]
      refine wpAnyH_take (i := 3) (oi := { dst := some 42, op := Go.Op.load 3 (Go.Operand.tmp 41), type := 3, pos := "l07_allocate.go:188", after := #[{ on := 2, ground := Go.Ground.data }], guard := none }) (v := ?_) rfl (by kernel_rfl) (by kernel_rfl) (by kernel_rfl) (fun _ _ _ h => h) (Or.inl ⟨by rfl, ?_⟩) (by assumption) ?_
      rotate_left
      · (intro w hSw; (try dsimp only at hSw); go_simp <;> try with_reducible rfl)
      try simp only [Act.put, List.setIfInBounds_toArray, List.set_cons_zero, List.set_cons_succ]
      refine wpAnyH_take (i := 4) (oi := { dst := some 43, op := Go.Op.load 104 (Go.Operand.tmp 8), type := 104, pos := "l07_allocate.go:188", after := #[], guard := none }) (v := ?_) rfl (by kernel_rfl) (by kernel_rfl) (by kernel_rfl) (fun _ _ _ h => h) (Or.inl ⟨by rfl, ?_⟩) (by assumption) ?_
      rotate_left
      · (intro w hSw; (try dsimp only at hSw); go_simp <;> try with_reducible rfl)
      try simp only [Act.put, List.setIfInBounds_toArray, List.set_cons_zero, List.set_cons_succ]
      refine wpAnyH_take (i := 5) (oi := { dst := some 44, op := Go.Op.move (Go.Operand.tmp 10), type := 3, pos := "l07_allocate.go:188", after := #[], guard := none }) (v := ?_) rfl (by kernel_rfl) (by kernel_rfl) (by kernel_rfl) (fun _ _ _ h => h) (Or.inl ⟨by rfl, ?_⟩) (by assumption) ?_
      rotate_left
      · (intro w hSw; (try dsimp only at hSw); go_simp <;> try with_reducible rfl)
      try simp only [Act.put, List.setIfInBounds_toArray, List.set_cons_zero, List.set_cons_succ]
      refine wpAnyH_take (i := 6) (oi := { dst := some 45, op := Go.Op.move (Go.Operand.tmp 2), type := 37, pos := "l07_allocate.go:188", after := #[], guard := none }) (v := ?_) rfl (by kernel_rfl) (by kernel_rfl) (by kernel_rfl) (fun _ _ _ h => h) (Or.inl ⟨by rfl, ?_⟩) (by assumption) ?_
      rotate_left
      · (intro w hSw; (try dsimp only at hSw); go_simp <;> try with_reducible rfl)
      try simp only [Act.put, List.setIfInBounds_toArray, List.set_cons_zero, List.set_cons_succ]
      refine wpAnyH_ready (rs := [7]) (by kernel_rfl) (by simp) ?_
      refine AllReadyH.cons (o := { dst := some 46, op := Go.Op.call { callee := Go.Callee.value (Go.Operand.func 81), args := #[Go.Operand.tmp 43, Go.Operand.tmp 44, Go.Operand.tmp 45], argTypes := #[104, 3, 37] }, type := 24, pos := "l07_allocate.go:188", after := #[{ on := 4, ground := Go.Ground.data }, { on := 5, ground := Go.Ground.data }, { on := 6, ground := Go.Ground.data }], guard := none }) rfl (fun K hK => ?_) (AllReadyH.nil)
      go_simp
      refine (HWO.out i _ hlt HSw.out.bel).mono ?_
      rintro e w4 ⟨aw, cpw, rfl, ow, b4⟩
      have HWt : Hid (IR w4 aw (N - n) (wtF n z i)) := row_IR ow (fun j hj => intL_get hj)
      clear ow
      have Hw4 : Hid (HS n N z c w BM F H C cp3 cx i cad ccap vs (hC n N z c i) w4) := HSw.out.below b4
      clear b4
      have cx2 : w4.cell? ⟨ka, oa + i, none⟩ = some (.int .i64 x) := HCI.out _ Hw4.out.bel
      first | refine hK.out _ _ (by exact ⟨cx2, (CB.cell Hw4.out.mb 0).trans rfl, (CB.cell Hw4.out.mb 1).trans rfl, (CB.cell Hw4.out.mb 2).trans rfl, (CB.cell Hw4.out.mb 3).trans rfl, (CB.cell Hw4.out.mb 4).trans rfl, (CB.cell Hw4.out.mb 5).trans rfl, (CB.cell Hw4.out.mb 6).trans rfl, (CB.cell Hw4.out.mb 7).trans rfl, (CB.cell Hw4.out.mb 8).trans rfl⟩) (fun hHeld => ?_) | (go_wp2_with fail; refine hK.out _ _ (by exact ⟨cx2, (CB.cell Hw4.out.mb 0).trans rfl, (CB.cell Hw4.out.mb 1).trans rfl, (CB.cell Hw4.out.mb 2).trans rfl, (CB.cell Hw4.out.mb 3).trans rfl, (CB.cell Hw4.out.mb 4).trans rfl, (CB.cell Hw4.out.mb 5).trans rfl, (CB.cell Hw4.out.mb 6).trans rfl, (CB.cell Hw4.out.mb 7).trans rfl, (CB.cell Hw4.out.mb 8).trans rfl⟩) (fun hHeld => ?_))
      clear hK K
      try simp only [Act.put, List.setIfInBounds_toArray, List.set_cons_zero, List.set_cons_succ]
      refine wpAnyH_ready (rs := [8]) (by kernel_rfl) (by simp) ?_
      refine AllReadyH.cons (o := { dst := some 47, op := Go.Op.call { callee := Go.Callee.value (Go.Operand.func 14), args := #[Go.Operand.tmp 42, Go.Operand.tmp 46], argTypes := #[3, 24] }, type := 24, pos := "l07_allocate.go:188", after := #[{ on := 3, ground := Go.Ground.data }, { on := 7, ground := Go.Ground.data }, { on := 7, ground := Go.Ground.chain }], guard := none }) rfl (fun K hK => ?_) (AllReadyH.nil)
      go_simp
      refine (implShares_any x _ _ _ (wtF n z i) _ (by omega) HWt.out).mono ?_
      rintro e w5 ⟨a1, cp1, rfl, o5, b5⟩
      have hh4 := Hw4.out.hb.lt
      have HO5 : Hid (w5.ownsRow (H + 1) 3 1 (.slice a1 M cp1) M (intL (cmV n N z c i) M)) := by have := row_lower o5 (show H + 1 ≤ w4.heap.size by omega); rw [HMX.out.1, HMX.out.2] at this; exact this
      rw [HMX.out.1]
      clear o5
      have Hw5 : Hid (HS n N z c w BM F H C cp3 cx i cad ccap vs (hC n N z c i) w5) := Hw4.out.below b5
      clear b5
      have cx3 : w5.cell? ⟨ka, oa + i, none⟩ = some (.int .i64 x) := HCI.out _ Hw5.out.bel
      first | refine hK.out _ _ (by exact ⟨cx3, (CB.cell Hw5.out.mb 0).trans rfl, (CB.cell Hw5.out.mb 1).trans rfl, (CB.cell Hw5.out.mb 2).trans rfl, (CB.cell Hw5.out.mb 3).trans rfl, (CB.cell Hw5.out.mb 4).trans rfl, (CB.cell Hw5.out.mb 5).trans rfl, (CB.cell Hw5.out.mb 6).trans rfl, (CB.cell Hw5.out.mb 7).trans rfl, (CB.cell Hw5.out.mb 8).trans rfl⟩) (fun hHeld => ?_) | (go_wp2_with fail; refine hK.out _ _ (by exact ⟨cx3, (CB.cell Hw5.out.mb 0).trans rfl, (CB.cell Hw5.out.mb 1).trans rfl, (CB.cell Hw5.out.mb 2).trans rfl, (CB.cell Hw5.out.mb 3).trans rfl, (CB.cell Hw5.out.mb 4).trans rfl, (CB.cell Hw5.out.mb 5).trans rfl, (CB.cell Hw5.out.mb 6).trans rfl, (CB.cell Hw5.out.mb 7).trans rfl, (CB.cell Hw5.out.mb 8).trans rfl⟩) (fun hHeld => ?_))
      clear hK K
      try simp only [Act.put, List.setIfInBounds_toArray, List.set_cons_zero, List.set_cons_succ]
      refine wpAnyH_take (i := 9) (oi := { dst := some 11, op := Go.Op.assign (Go.Operand.tmp 47), type := 24, pos := "l07_allocate.go:188", after := #[{ on := 8, ground := Go.Ground.data }, { on := 8, ground := Go.Ground.chain }, { on := 0, ground := Go.Ground.phase }, { on := 1, ground := Go.Ground.phase }, { on := 2, ground := Go.Ground.phase }, { on := 3, ground := Go.Ground.phase }, { on := 4, ground := Go.Ground.phase }, { on := 5, ground := Go.Ground.phase }, { on := 6, ground := Go.Ground.phase }, { on := 7, ground := Go.Ground.phase }, { on := 8, ground := Go.Ground.phase }], guard := none }) (v := ?_) rfl (by kernel_rfl) (by kernel_rfl) (by kernel_rfl) (fun _ _ _ h => h) (Or.inl ⟨by rfl, ?_⟩) (by assumption) ?_
      rotate_left
      · (intro w hSw; (try dsimp only at hSw); go_simp <;> try with_reducible rfl)
      try simp only [Act.put, List.setIfInBounds_toArray, List.set_cons_zero, List.set_cons_succ]
      refine wpAnyH_done (by kernel_rfl) ?_ _
      clear hHeld
      clear cx0 cx2 cx3 HWt HSw Hw4
      obtain ⟨wy, hwy⟩ : ∃ wy, wy = w5 := ⟨_, rfl⟩
      subst hwy
      go_wp2
      go_loopw [12, 13, 50] (fun _ _ v wr => ∃ (k : Nat), k ≤ M ∧ v = .int .i64 (k : Int) ∧ Hid (HS n N z c w BM F H C cp3 cx i cad ccap vs (adC n (hC n N z c i) (cmV n N z c i) k) wr ∧ wr.ownsRow (H + 1) 3 1 (.slice a1 M cp1) M (intL (cmV n N z c i) M))) (fun _ _ v _ => M - (intOf v).toNat)
      case atStart => exact ⟨0, by omega, rfl, by rw [adC_zero]; exact Hw5.out, HO5.out⟩
      case round =>
        clear Hw5 HO5
        obtain ⟨k, hk, rfl, HU⟩ := hrel
        by_cases hltk : k < M
        · have hltk2 : (k : Int) < (M : Int) := by omega
          obtain ⟨g, cpg, eg, hgl, hgb, hcg⟩ := row_get HU.out.2 hltk
          simp only [Value.slice.injEq] at eg
          obtain ⟨rfl, _, rfl⟩ := eg
          have cv := (hcg k hltk).trans (intL_get hltk)
          have co := HU.out.1.nb.cell (show n + k < N by omega)
          rw [adC_at] at co
          have hob := hC_bd (n := n) (z := z) hnN HCO.out.2 i (n + k) (by omega)
          have hvb := cmV_bd (n := n) (N := N) (z := z) (c := c) (i := i) (k := k) (by rw [HMM.out]; exact hltk)
          obtain ⟨ov, hov⟩ : ∃ y, hC n N z c i (n + k) = y := ⟨_, rfl⟩
          obtain ⟨vv, hvv⟩ : ∃ y, cmV n N z c i k = y := ⟨_, rfl⟩
          have HAD : Hid (adC n (hC n N z c i) (cmV n N z c i) (k + 1) = upd (adC n (hC n N z c i) (cmV n N z c i) k) (n + k) (ov + vv)) := by rw [← hov, ← hvv]; exact adC_succ n _ _ k
          rw [hov] at co hob
          rw [hvv] at cv hvb
          have hob1 : -700000000000 ≤ ov := by omega
          have hob2 : ov ≤ 700000000000 := by omega
          obtain ⟨hvb1, hvb2⟩ := hvb
          have h0 := (HU.out.1.hb.cell 0).trans rfl
          have cf := HU.out.1.nb.fr (n + k)
          have hnk2 : ((n : Int) + (k : Int)) < (N : Int) := by omega
          have HN : Hid (HS n N z c w BM F H C cp3 cx i cad ccap vs (adC n (hC n N z c i) (cmV n N z c i) (k + 1)) (wr.setCell ⟨C, n + k, none⟩ (.int .i64 (ov + vv))) ∧ (wr.setCell ⟨C, n + k, none⟩ (.int .i64 (ov + vv))).ownsRow (H + 1) 3 1 (.slice (some ⟨g, 0, none⟩) M cp1) M (intL (cmV n N z c i) M)) := by
            refine ⟨?_, row_block HU.out.2 (fun y hy => heap_set (by have := (HU.out.2.lt y hy).1; have := HU.out.1.lo; omega))⟩
            rw [HAD.out]; exact HU.out.1.put (by omega) _
          clear HU hcg hov hvv hob hgl hgb
          go_wp2
          go_roundw
          case rel => exact ⟨k + 1, by omega, by go_num, HN⟩
          case measure => simp [intOf]; omega
        · obtain rfl : k = M := by omega
          have lkk : ¬ (k : Int) < (k : Int) := by omega
          have h0 := (HU.out.1.hb.cell 0).trans rfl
          have h1 := (HU.out.1.hb.cell 1).trans rfl
          have ci := HU.out.1.nb.cell hiN
          have cf := HU.out.1.nb.fr i
          have hlo := HU.out.1.lo
          have HN : Hid (HS n N z c w BM F H C cp3 cx i cad ccap vs (hC n N z c (i + 1)) (wr.setCell ⟨C, i, none⟩ (.int .i64 0)) ∧ (wr.setCell ⟨C, i, none⟩ (.int .i64 0)).ownsRow (H + 1) 3 1 (.slice a1 k cp1) k (intL (cmV n N z c i) k)) := by
            refine ⟨?_, row_block HU.out.2 (fun y hy => heap_set (by have := (HU.out.2.lt y hy).1; omega))⟩
            have := HU.out.1.put hiN 0
            have e : upd (adC n (hC n N z c i) (cmV n N z c i) k) i 0 = hC n N z c (i + 1) := by rw [← HMM.out]; rfl
            rw [e] at this; exact this
          have hCH : H ≠ C := by omega
          have hHl := HU.out.1.hb.lt
          have hwl := HU.out.1.r0.lt
          clear HU
          go_wp2_with (at_builtin; go_loud (refine wpList_append_own_at _ rfl _ _ 37 rfl w.heap.size 24 i0 (.slice none 0 0) 1 24 Try.underlying37 hi0 hz0 hz1 hz2 rfl (by decide) (.slice cad i ccap) i vs rfl (row_below HN.out.1.cw.row ((Below.refl _ _).alloc (Nat.le_refl _) _)) ⟨wr.heap.size, 0, none⟩ 1 1 [.slice a1 k cp1] rfl rfl (cell_one_at (by simp [World.setCell])) (fun u hu => by simp at hu; subst hu; rfl) (by unfold maxLen; omega) (by omega) (by simp [World.setCell]; omega) ?_; intro v' w6 hown6 hgrow6 _ hloc6; obtain ⟨ad6, cap6, rfl⟩ := row_form hown6; have HN6 : Hid (HS n N z c w BM F H C cp3 cx (i + 1) ad6 cap6 (vs ++ [.slice a1 (cmN n N z c i) cp1]) (hC n N z c (i + 1)) (w6.setCell ⟨H, 1, none⟩ (.slice ad6 (i + 1) cap6))) := HN.out.1.came (by rw [HMM.out]; exact HN.out.2) (by rw [HMM.out]; exact hown6) hgrow6; have hbH : CB w6 H #[.slice (some ⟨C, 0, none⟩) N cp3, .slice cad i ccap] 85 := (HN.out.1.hb.alloc _).keep (hgrow6.block _ (HN.out.1.hb.alloc _).lt (CB.ne HN.out.1.hb HN.out.1.cw.row (by decide))); have x1 := (hbH.cell 1).trans rfl; have x2 := hbH.fr 1; clear hown6 hgrow6 hloc6 hbH))
          go_roundw
          case rel => exact ⟨i + 1, ad6, cap6, _, by omega, by go_num, HN6⟩
          case measure => simp [intOf]; omega
    · obtain rfl : i = n := by omega
      have lkk : ¬ (i : Int) < (i : Int) := by omega
      have HE : Hid (HS i N z c w BM F H C cp3 cx i cad ccap vs (hC i N z c i) wr.drew) := HV.out.below (Below.refl _ _).drew
      clear HV
      go_upto_region 19 with (fail)
      refine wp_region_held_drew (S := fun w' => w'.cell? ⟨H, 0, none⟩ = some (.slice (some ⟨C, 0, none⟩) N cp3) ∧ w'.cell? ⟨H, 1, none⟩ = some (.slice cad i ccap)) (by kernel_rfl) (by exact ⟨(HE.out.hb.cell 0).trans rfl, (HE.out.hb.cell 1).trans rfl⟩) (fun hHeld => ?_)
      refine wpAnyH_take (i := 0) (oi := { dst := some 77, op := Go.Op.load 85 (Go.Operand.tmp 9), type := 85, pos := "l07_allocate.go:195", after := #[], guard := none }) (v := ?_) rfl (by kernel_rfl) (by kernel_rfl) (by kernel_rfl) (fun _ _ _ h => h) (Or.inl ⟨by rfl, ?_⟩) (by assumption) ?_
      rotate_left
      · (intro w hSw; (try dsimp only at hSw); go_simp <;> try with_reducible rfl)
      try simp only [Act.put, List.setIfInBounds_toArray, List.set_cons_zero, List.set_cons_succ]
      refine wpAnyH_take (i := 1) (oi := { dst := some 78, op := Go.Op.fieldAddr 85 (Go.Operand.tmp 9) 0, type := 0, pos := "l07_allocate.go:195", after := #[], guard := none }) (v := ?_) rfl (by kernel_rfl) (by kernel_rfl) (by kernel_rfl) (fun _ _ _ h => h) (Or.inl ⟨by rfl, ?_⟩) (by assumption) ?_
      rotate_left
      · (intro w hSw; (try dsimp only at hSw); go_simp <;> try with_reducible rfl)
      try simp only [Act.put, List.setIfInBounds_toArray, List.set_cons_zero, List.set_cons_succ]
      refine wpAnyH_take (i := 2) (oi := { dst := some 79, op := Go.Op.load 24 (Go.Operand.tmp 78), type := 24, pos := "l07_allocate.go:195", after := #[{ on := 1, ground := Go.Ground.data }], guard := none }) (v := ?_) rfl (by kernel_rfl) (by kernel_rfl) (by kernel_rfl) (fun _ _ _ h => h) (Or.inl ⟨by rfl, ?_⟩) (by assumption) ?_
      rotate_left
      · (intro w hSw; (try dsimp only at hSw); go_simp <;> try with_reducible rfl)
      try simp only [Act.put, List.setIfInBounds_toArray, List.set_cons_zero, List.set_cons_succ]
      refine wpAnyH_ready (rs := [3]) (by kernel_rfl) (by simp) ?_
      refine AllReadyH.cons (o := { dst := some 80, op := Go.Op.call { callee := Go.Callee.value (Go.Operand.func 55), args := #[Go.Operand.tmp 79], argTypes := #[24] }, type := 4, pos := "l07_allocate.go:195", after := #[{ on := 2, ground := Go.Ground.data }], guard := none }) rfl (fun K hK => ?_) (AllReadyH.nil)
      go_simp
      refine (areCosts_any _ _ _ (hC i N z c i) _ hN2 HE.out.nb.ir).mono ?_
      rintro e w7 ⟨rfl, ew⟩
      replace ew := ew.symm
      subst ew
      first | refine hK.out _ _ (by exact ⟨(HE.out.hb.cell 0).trans rfl, (HE.out.hb.cell 1).trans rfl⟩) (fun hHeld => ?_) | (go_wp2_with fail; refine hK.out _ _ (by exact ⟨(HE.out.hb.cell 0).trans rfl, (HE.out.hb.cell 1).trans rfl⟩) (fun hHeld => ?_))
      clear hK K
      try simp only [Act.put, List.setIfInBounds_toArray, List.set_cons_zero, List.set_cons_succ]
      refine wpAnyH_ready (rs := [4]) (by kernel_rfl) (by simp) ?_
      refine AllReadyH.cons (o := { dst := none, op := Go.Op.store 85 (Go.Operand.tmp 6) (Go.Operand.tmp 77), type := 0, pos := "l07_allocate.go:195", after := #[{ on := 0, ground := Go.Ground.data }, { on := 3, ground := Go.Ground.chain }, { on := 0, ground := Go.Ground.phase }, { on := 1, ground := Go.Ground.textOnly Go.Departure.lateStores }, { on := 2, ground := Go.Ground.textOnly Go.Departure.lateStores }, { on := 3, ground := Go.Ground.textOnly Go.Departure.lateStoresUnsure }], guard := none }) rfl (fun K hK => ?_) (AllReadyH.nil)
      have q0 : wr.cell? ⟨w.heap.size, 0, none⟩ = some (.slice none 0 0) := (HE.out.r0.cell 0).trans rfl
      have q1 : wr.cell? ⟨w.heap.size, 1, none⟩ = some (.slice none 0 0) := (HE.out.r0.cell 1).trans rfl
      have g0 : wr.frozen? ⟨w.heap.size, 0, none⟩ = false := HE.out.r0.fr 0
      have g1 : wr.frozen? ⟨w.heap.size, 1, none⟩ = false := HE.out.r0.fr 1
      have hX := (HE.out.r0.set 0 (.slice (some ⟨C, 0, none⟩) N cp3)).set 1 (.slice cad i ccap)
      have hlo := HE.out.lo
      have HE2 : Hid (CB (((wr.drew).setCell ⟨w.heap.size, 0, none⟩ (.slice (some ⟨C, 0, none⟩) N cp3)).setCell ⟨w.heap.size, 1, none⟩ (.slice cad i ccap)) H #[.slice (some ⟨C, 0, none⟩) N cp3, .slice cad i ccap] 85) := (HE.out.hb.other _ (by omega)).other _ (by omega)
      go_simp
      first | refine hK.out _ _ (by exact ⟨(HE2.out.cell 0).trans rfl, (HE2.out.cell 1).trans rfl⟩) (fun hHeld => ?_) | (go_wp2_with fail; refine hK.out _ _ (by exact ⟨(HE2.out.cell 0).trans rfl, (HE2.out.cell 1).trans rfl⟩) (fun hHeld => ?_))
      clear hK K
      try simp only [Act.put, List.setIfInBounds_toArray, List.set_cons_zero, List.set_cons_succ]
      refine wpAnyH_take (i := 5) (oi := { dst := some 7, op := Go.Op.assign (Go.Operand.tmp 80), type := 4, pos := "l07_allocate.go:195", after := #[{ on := 3, ground := Go.Ground.data }, { on := 4, ground := Go.Ground.chain }, { on := 0, ground := Go.Ground.phase }, { on := 1, ground := Go.Ground.phase }, { on := 2, ground := Go.Ground.phase }, { on := 3, ground := Go.Ground.phase }, { on := 4, ground := Go.Ground.phase }], guard := none }) (v := ?_) rfl (by kernel_rfl) (by kernel_rfl) (by kernel_rfl) (fun _ _ _ h => h) (Or.inl ⟨by rfl, ?_⟩) (by assumption) ?_
      rotate_left
      · (intro w hSw; (try dsimp only at hSw); go_simp <;> try with_reducible rfl)
      try simp only [Act.put, List.setIfInBounds_toArray, List.set_cons_zero, List.set_cons_succ]
      refine wpAnyH_done (by kernel_rfl) ?_ _
      clear hHeld
      have hSR := HE.out.cw.sr
      have hBl := HE.out.bel
      have hOw := HOW2.out _ _ HE.out.nb
      have hlo3 := HE.out.lo
      have hY : SR (((wr.drew).setCell ⟨w.heap.size, 0, none⟩ (.slice (some ⟨C, 0, none⟩) N cp3)).setCell ⟨w.heap.size, 1, none⟩ (.slice cad i ccap)) cad i (cmN i N z c) (cmV i N z c) := ((HE.out.cw.set _ HE.out.r0 (by decide) (by omega)).set _ (HE.out.r0.set 0 _) (by decide) (by omega)).sr
      have hZ := (hBl.setCell (p := ⟨w.heap.size, 0, none⟩) (by simp) (.slice (some ⟨C, 0, none⟩) N cp3)).setCell (p := ⟨w.heap.size, 1, none⟩) (by simp) (.slice cad i ccap)
      have hO2 := HOW2.out _ _ ((HE.out.nb.other (c := w.heap.size) (i := 0) (.slice (some ⟨C, 0, none⟩) N cp3) (by omega)).other (c := w.heap.size) (i := 1) (.slice cad i ccap) (by omega))
      clear q0 q1 g0 g1 HE2 HE hSR hBl hOw
      go_wp2_with fail
      obtain ⟨W5, hW5⟩ : ∃ W5, W5 = ((wr.setCell ⟨w.heap.size, 0, none⟩ (.slice (some ⟨C, 0, none⟩) N cp3)).setCell ⟨w.heap.size, 1, none⟩ (.slice cad i ccap)).drew := ⟨_, rfl⟩
      rw [← hW5]
      replace hX : CB W5 w.heap.size #[.slice (some ⟨C, 0, none⟩) N cp3, .slice cad i ccap] 85 := by rw [hW5]; exact hX
      replace hY : SR W5 cad i (cmN i N z c) (cmV i N z c) := by rw [hW5]; exact hY
      replace hZ : Below w.heap.size w W5 := by rw [hW5]; exact hZ
      replace hO2 : W5.ownsRow w.heap.size 3 1 (.slice (some ⟨C, 0, none⟩) N cp3) N (intL (hC i N z c i) N) := by rw [hW5]; exact hO2
      clear hW5
      have e0 := (hX.cell 0).trans rfl
      have e1 := (hX.cell 1).trans rfl
      refine bodyPost_ret (by simp [results, Try.results63, go_sem, e0, e1]; try rfl) rfl ?_
      exact ⟨C, cp3, cad, ccap, rfl, hO2, hY, hZ⟩
end Go.Proofs.Ytjlniinahfgakaa
