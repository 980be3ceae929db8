/- FindPaper, of the program and of the model: both tell the lowest place whose text it is. -/
import Derived.Test.YtdhpadcihlmhiaaDoorSl
namespace Go.Proofs.YtdhpadcihlmhiaaDoor
open Go.ChangeShapes Go.WideShapes Go.ChangeAt Go.RowKit
open Go.Lib (decDigits)
set_option linter.unusedVariables false
set_option linter.unusedSimpArgs false

open Classical in
/-- Whether the paper k of a right register has the text. -/
noncomputable def isT (len : Nat) (c : Nat → S2) (np : Nat) (p : Nat → P4) (t : ByteArray) (k : Nat) : Bool := decide (showV len c np p (k : Int) = t)
open Classical in
theorem isT_t {len : Nat} {c : Nat → S2} {np : Nat} {p : Nat → P4} {t : ByteArray} {k : Nat} (h : isT len c np p t k = true) : showV len c np p (k : Int) = t := by unfold isT at h; exact of_decide_eq_true h
open Classical in
theorem isT_f {len : Nat} {c : Nat → S2} {np : Nat} {p : Nat → P4} {t : ByteArray} {k : Nat} (h : isT len c np p t k = false) : ¬ showV len c np p (k : Int) = t := by unfold isT at h; exact of_decide_eq_false h
open Classical in
noncomputable def findV (len : Nat) (c : Nat → S2) (np : Nat) (p : Nat → P4) (t : ByteArray) : Int := if RegP len c np p then fstF (isT len c np p t) np 0 else -1
theorem findV_f {len : Nat} {c : Nat → S2} {np : Nat} {p : Nat → P4} {t : ByteArray} (h : ¬ RegP len c np p) : findV len c np p t = -1 := by unfold findV; rw [if_neg h]
theorem findV_t {len : Nat} {c : Nat → S2} {np : Nat} {p : Nat → P4} {t : ByteArray} (h : RegP len c np p) : findV len c np p t = fstF (isT len c np p t) np 0 := by unfold findV; rw [if_pos h]

set_option maxRecDepth 20000 in
set_option maxHeartbeats 4000000 in
theorem fcl_any (br bt : Nat) (ad : Option Addr) (len cap : Nat) (c : Nat → S2) (ap : Option Addr) (np pcap : Nat) (p : Nat → P4) (t : ByteArray) (k : Nat) (v : Bool) (w : World) (h : (len : Int) ≤ 1048576) (hr : SRw w ad len c) (hT : TP w) (hP : RegP len c np p) (hk : k < np)
    (h1 : CB w br #[.slice ad len cap, .slice ap np pcap] 27) (h2 : CB w bt #[.string t] 9) (hv : isT len c np p t k = v) :
    Calls Tryd.prog 62 #[(p k).val, .pointer (some ⟨br, 0, none⟩), .pointer (some ⟨bt, 0, none⟩)] w fun e w' => e = .returned (.bool v) ∧ Below w.heap.size w w' := by
  obtain ⟨i, m, hse, hi, hnu, hm, hd1, hd2, hpz⟩ := hP.pap hk
  have hsv := showV_t (k := k) ⟨hP, by omega, by omega⟩ hse hnu
  obtain ⟨X, hX⟩ : ∃ X, ptxt (c i) m = X := ⟨_, rfl⟩
  have HTX : Hid (ptxt (c i) m = X) := hX
  rw [hX] at hsv
  obtain ⟨q, hq⟩ : ∃ q, p k = q := ⟨_, rfl⟩
  rw [hq] at hse hnu ⊢
  obtain ⟨ps, pn, pd, pv⟩ := q
  simp only at hse hnu
  subst hse hnu
  unfold P4.val
  dsimp only
  have HR : Hid (SRw w ad len c) := hr
  have HT : Hid (TP w) := hT
  have hB0 : Below w.heap.size w (w.alloc (.cells #[.int .i64 (i : Int), .int .i64 (m : Int), .int .i64 pd, .bool pv] 32 (0, 0))) := (Below.refl _ _).alloc (Nat.le_refl _) _
  have hB1 : Below w.heap.size w (w.alloc (.cells #[.int .i64 (i : Int), .int .i64 (m : Int), .int .i64 pd, .bool pv] 32 (0, 0))).drew := hB0.drew
  have k0 : w.cell? ⟨br, 0, none⟩ = some (.slice ad len cap) := (h1.cell 0).trans rfl
  have k1 : w.cell? ⟨br, 1, none⟩ = some (.slice ap np pcap) := (h1.cell 1).trans rfl
  have k2 : w.cell? ⟨bt, 0, none⟩ = some (.string t) := (h2.cell 0).trans rfl
  by_cases g : X = t
  · have HV : Hid (true = v) := hid (by rw [← hv]; unfold isT; simp [hsv, g])
    have e1 := lists_t g
    clear g hv hsv hr hT hX hq h1 h2 hP
    go_enter Tryd.func62, Tryd.ntmps62
    go_wp2
    refine wp_region_noPanic ?_
    refine wp_region_held_drew (S := fun w' => w'.cell? ⟨br, 0, none⟩ = some (.slice ad len cap) ∧ w'.cell? ⟨br, 1, none⟩ = some (.slice ap np pcap) ∧ w'.cell? ⟨bt, 0, none⟩ = some (.string t) ∧ w'.cell? ⟨w.heap.size, 0, none⟩ = some (.int .i64 (i : Int)) ∧ w'.cell? ⟨w.heap.size, 1, none⟩ = some (.int .i64 (m : Int)) ∧ w'.cell? ⟨w.heap.size, 2, none⟩ = some (.int .i64 pd) ∧ w'.cell? ⟨w.heap.size, 3, none⟩ = some (.bool pv) ∧ Below w.heap.size w w') (by kernel_rfl) ?_ (fun hHeld => ?_)
    · (try dsimp only); refine ⟨?_, ?_, ?_, ?_, ?_, ?_, ?_, ?_⟩ <;> first | assumption | (simp [*, World.cell?_alloc_some]; done) | exact Below.alloc (by assumption) (by first | exact Nat.le_refl _ | simp) _
    refine wpAnyH_take (i := 0) (oi := { dst := some 5, op := Go.Op.load 27 (Go.Operand.tmp 1), type := 27, pos := "l11_papers.go:201", after := #[], guard := none }) (v := ?_) rfl (by kernel_rfl) (by kernel_rfl) (by kernel_rfl) (fun _ _ _ h => h) (Or.inl ⟨by rfl, ?_⟩) (by assumption) ?_
    rotate_left
    · (intro w hSw; (try dsimp only at hSw); go_simp <;> try with_reducible rfl)
    try simp only [Act.put, List.setIfInBounds_toArray, List.set_cons_zero, List.set_cons_succ]
    refine wpAnyH_take (i := 1) (oi := { dst := some 6, op := Go.Op.load 32 (Go.Operand.tmp 3), type := 32, pos := "l11_papers.go:201", after := #[], guard := none }) (v := ?_) rfl (by kernel_rfl) (by kernel_rfl) (by kernel_rfl) (fun _ _ _ h => h) (Or.inl ⟨by rfl, ?_⟩) (by assumption) ?_
    rotate_left
    · (intro w hSw; (try dsimp only at hSw); go_simp <;> try with_reducible rfl)
    try simp only [Act.put, List.setIfInBounds_toArray, List.set_cons_zero, List.set_cons_succ]
    refine wpAnyH_take (i := 3) (oi := { dst := some 8, op := Go.Op.load 9 (Go.Operand.tmp 2), type := 9, pos := "l11_papers.go:201", after := #[], guard := none }) (v := ?_) rfl (by kernel_rfl) (by kernel_rfl) (by kernel_rfl) (fun _ _ _ h => h) (Or.inl ⟨by rfl, ?_⟩) (by assumption) ?_
    rotate_left
    · (intro w hSw; (try dsimp only at hSw); go_simp <;> try with_reducible rfl)
    try simp only [Act.put, List.setIfInBounds_toArray, List.set_cons_zero, List.set_cons_succ]
    refine wpAnyH_ready (rs := [2]) (by kernel_rfl) (by simp) ?_
    refine AllReadyH.cons (o := { dst := some 7, op := Go.Op.call { callee := Go.Callee.value (Go.Operand.func 60), args := #[Go.Operand.tmp 5, Go.Operand.tmp 6], argTypes := #[27, 32] }, type := 9, pos := "l11_papers.go:201", after := #[{ on := 0, ground := Go.Ground.data }, { on := 1, ground := Go.Ground.data }], guard := none }) rfl (fun K hK => ?_) AllReadyH.nil
    go_simp
    (go_at_call 60; refine (regText_any _ _ _ c _ _ _ i m pd pv _ h (HR.out.below (by assumption)) (HT.out.below (by assumption)) hi hpz hd1 hd2 hm).mono ?_; rintro e w2 ⟨rfl, b2⟩; rw [HTX.out]; have q1_0 : w2.cell? ⟨br, 0, none⟩ = some (.slice ad len cap) := keep_cell b2 (by simp [*]); have q1_1 : w2.cell? ⟨br, 1, none⟩ = some (.slice ap np pcap) := keep_cell b2 (by simp [*]); have q1_2 : w2.cell? ⟨bt, 0, none⟩ = some (.string t) := keep_cell b2 (by simp [*]); have q1_3 : w2.cell? ⟨w.heap.size, 0, none⟩ = some (.int .i64 (i : Int)) := keep_cell b2 (by simp [*]); have q1_4 : w2.cell? ⟨w.heap.size, 1, none⟩ = some (.int .i64 (m : Int)) := keep_cell b2 (by simp [*]); have q1_5 : w2.cell? ⟨w.heap.size, 2, none⟩ = some (.int .i64 pd) := keep_cell b2 (by simp [*]); have q1_6 : w2.cell? ⟨w.heap.size, 3, none⟩ = some (.bool pv) := keep_cell b2 (by simp [*]); have p1 : Below w.heap.size w w2 := bel_on (by assumption) b2; clear b2)
    first | refine hK.out _ _ ?_ (fun hHeld => ?_) | (go_wp2_with fail; refine hK.out _ _ ?_ (fun hHeld => ?_))
    · (try dsimp only); refine ⟨?_, ?_, ?_, ?_, ?_, ?_, ?_, ?_⟩ <;> first | assumption | (simp [*, World.cell?_alloc_some]; done) | exact Below.alloc (by assumption) (by first | exact Nat.le_refl _ | simp) _
    clear hK K
    try simp only [Act.put, List.setIfInBounds_toArray, List.set_cons_zero, List.set_cons_succ]
    refine wpAnyH_take (i := 4) (oi := { dst := some 9, op := Go.Op.binOp Go.BinOp.eql 9 (Go.Operand.tmp 7) (Go.Operand.tmp 8) 9, type := 4, pos := "l11_papers.go:201", after := #[{ on := 2, ground := Go.Ground.data }, { on := 3, ground := Go.Ground.data }], guard := none }) (v := ?_) rfl (by kernel_rfl) (by kernel_rfl) (by kernel_rfl) (fun _ _ _ h => h) (Or.inl ⟨by rfl, ?_⟩) (by assumption) ?_
    rotate_left
    · (intro w hSw; (try dsimp only at hSw); go_simp <;> try with_reducible rfl)
    try simp only [Act.put, List.setIfInBounds_toArray, List.set_cons_zero, List.set_cons_succ]
    refine wpAnyH_ready (rs := [5]) (by kernel_rfl) (by simp) ?_
    refine AllReadyH.cons (o := { dst := some 4, op := Go.Op.assign (Go.Operand.tmp 9), type := 4, pos := "l11_papers.go:201", after := #[{ on := 4, ground := Go.Ground.data }, { on := 2, ground := Go.Ground.chain }, { on := 0, ground := Go.Ground.phase }, { on := 1, ground := Go.Ground.phase }, { on := 2, ground := Go.Ground.phase }, { on := 3, ground := Go.Ground.phase }, { on := 4, ground := Go.Ground.phase }], guard := none }) rfl (fun K hK => ?_) AllReadyH.nil
    go_simp
    skip
    first | refine hK.out _ _ ?_ (fun hHeld => ?_) | (go_wp2_with fail; refine hK.out _ _ ?_ (fun hHeld => ?_))
    · (try dsimp only); refine ⟨?_, ?_, ?_, ?_, ?_, ?_, ?_, ?_⟩ <;> first | assumption | (simp [*, World.cell?_alloc_some]; done) | exact Below.alloc (by assumption) (by first | exact Nat.le_refl _ | simp) _
    clear hK K
    try simp only [Act.put, List.setIfInBounds_toArray, List.set_cons_zero, List.set_cons_succ]
    refine wpAnyH_done (by kernel_rfl) ?_ _
    refine NoPanic.normal ?_
    go_wp2
    go_returns
    exact ⟨ret_bool HV.out, p1⟩
  · have HV : Hid (false = v) := hid (by rw [← hv]; unfold isT; simp [hsv, g])
    have e1 := lists_f g
    clear g hv hsv hr hT hX hq h1 h2 hP
    go_enter Tryd.func62, Tryd.ntmps62
    go_wp2
    refine wp_region_noPanic ?_
    refine wp_region_held_drew (S := fun w' => w'.cell? ⟨br, 0, none⟩ = some (.slice ad len cap) ∧ w'.cell? ⟨br, 1, none⟩ = some (.slice ap np pcap) ∧ w'.cell? ⟨bt, 0, none⟩ = some (.string t) ∧ w'.cell? ⟨w.heap.size, 0, none⟩ = some (.int .i64 (i : Int)) ∧ w'.cell? ⟨w.heap.size, 1, none⟩ = some (.int .i64 (m : Int)) ∧ w'.cell? ⟨w.heap.size, 2, none⟩ = some (.int .i64 pd) ∧ w'.cell? ⟨w.heap.size, 3, none⟩ = some (.bool pv) ∧ Below w.heap.size w w') (by kernel_rfl) ?_ (fun hHeld => ?_)
    · (try dsimp only); refine ⟨?_, ?_, ?_, ?_, ?_, ?_, ?_, ?_⟩ <;> first | assumption | (simp [*, World.cell?_alloc_some]; done) | exact Below.alloc (by assumption) (by first | exact Nat.le_refl _ | simp) _
    refine wpAnyH_take (i := 0) (oi := { dst := some 5, op := Go.Op.load 27 (Go.Operand.tmp 1), type := 27, pos := "l11_papers.go:201", after := #[], guard := none }) (v := ?_) rfl (by kernel_rfl) (by kernel_rfl) (by kernel_rfl) (fun _ _ _ h => h) (Or.inl ⟨by rfl, ?_⟩) (by assumption) ?_
    rotate_left
    · (intro w hSw; (try dsimp only at hSw); go_simp <;> try with_reducible rfl)
    try simp only [Act.put, List.setIfInBounds_toArray, List.set_cons_zero, List.set_cons_succ]
    refine wpAnyH_take (i := 1) (oi := { dst := some 6, op := Go.Op.load 32 (Go.Operand.tmp 3), type := 32, pos := "l11_papers.go:201", after := #[], guard := none }) (v := ?_) rfl (by kernel_rfl) (by kernel_rfl) (by kernel_rfl) (fun _ _ _ h => h) (Or.inl ⟨by rfl, ?_⟩) (by assumption) ?_
    rotate_left
    · (intro w hSw; (try dsimp only at hSw); go_simp <;> try with_reducible rfl)
    try simp only [Act.put, List.setIfInBounds_toArray, List.set_cons_zero, List.set_cons_succ]
    refine wpAnyH_take (i := 3) (oi := { dst := some 8, op := Go.Op.load 9 (Go.Operand.tmp 2), type := 9, pos := "l11_papers.go:201", after := #[], guard := none }) (v := ?_) rfl (by kernel_rfl) (by kernel_rfl) (by kernel_rfl) (fun _ _ _ h => h) (Or.inl ⟨by rfl, ?_⟩) (by assumption) ?_
    rotate_left
    · (intro w hSw; (try dsimp only at hSw); go_simp <;> try with_reducible rfl)
    try simp only [Act.put, List.setIfInBounds_toArray, List.set_cons_zero, List.set_cons_succ]
    refine wpAnyH_ready (rs := [2]) (by kernel_rfl) (by simp) ?_
    refine AllReadyH.cons (o := { dst := some 7, op := Go.Op.call { callee := Go.Callee.value (Go.Operand.func 60), args := #[Go.Operand.tmp 5, Go.Operand.tmp 6], argTypes := #[27, 32] }, type := 9, pos := "l11_papers.go:201", after := #[{ on := 0, ground := Go.Ground.data }, { on := 1, ground := Go.Ground.data }], guard := none }) rfl (fun K hK => ?_) AllReadyH.nil
    go_simp
    (go_at_call 60; refine (regText_any _ _ _ c _ _ _ i m pd pv _ h (HR.out.below (by assumption)) (HT.out.below (by assumption)) hi hpz hd1 hd2 hm).mono ?_; rintro e w2 ⟨rfl, b2⟩; rw [HTX.out]; have q1_0 : w2.cell? ⟨br, 0, none⟩ = some (.slice ad len cap) := keep_cell b2 (by simp [*]); have q1_1 : w2.cell? ⟨br, 1, none⟩ = some (.slice ap np pcap) := keep_cell b2 (by simp [*]); have q1_2 : w2.cell? ⟨bt, 0, none⟩ = some (.string t) := keep_cell b2 (by simp [*]); have q1_3 : w2.cell? ⟨w.heap.size, 0, none⟩ = some (.int .i64 (i : Int)) := keep_cell b2 (by simp [*]); have q1_4 : w2.cell? ⟨w.heap.size, 1, none⟩ = some (.int .i64 (m : Int)) := keep_cell b2 (by simp [*]); have q1_5 : w2.cell? ⟨w.heap.size, 2, none⟩ = some (.int .i64 pd) := keep_cell b2 (by simp [*]); have q1_6 : w2.cell? ⟨w.heap.size, 3, none⟩ = some (.bool pv) := keep_cell b2 (by simp [*]); have p1 : Below w.heap.size w w2 := bel_on (by assumption) b2; clear b2)
    first | refine hK.out _ _ ?_ (fun hHeld => ?_) | (go_wp2_with fail; refine hK.out _ _ ?_ (fun hHeld => ?_))
    · (try dsimp only); refine ⟨?_, ?_, ?_, ?_, ?_, ?_, ?_, ?_⟩ <;> first | assumption | (simp [*, World.cell?_alloc_some]; done) | exact Below.alloc (by assumption) (by first | exact Nat.le_refl _ | simp) _
    clear hK K
    try simp only [Act.put, List.setIfInBounds_toArray, List.set_cons_zero, List.set_cons_succ]
    refine wpAnyH_take (i := 4) (oi := { dst := some 9, op := Go.Op.binOp Go.BinOp.eql 9 (Go.Operand.tmp 7) (Go.Operand.tmp 8) 9, type := 4, pos := "l11_papers.go:201", after := #[{ on := 2, ground := Go.Ground.data }, { on := 3, ground := Go.Ground.data }], guard := none }) (v := ?_) rfl (by kernel_rfl) (by kernel_rfl) (by kernel_rfl) (fun _ _ _ h => h) (Or.inl ⟨by rfl, ?_⟩) (by assumption) ?_
    rotate_left
    · (intro w hSw; (try dsimp only at hSw); go_simp <;> try with_reducible rfl)
    try simp only [Act.put, List.setIfInBounds_toArray, List.set_cons_zero, List.set_cons_succ]
    refine wpAnyH_ready (rs := [5]) (by kernel_rfl) (by simp) ?_
    refine AllReadyH.cons (o := { dst := some 4, op := Go.Op.assign (Go.Operand.tmp 9), type := 4, pos := "l11_papers.go:201", after := #[{ on := 4, ground := Go.Ground.data }, { on := 2, ground := Go.Ground.chain }, { on := 0, ground := Go.Ground.phase }, { on := 1, ground := Go.Ground.phase }, { on := 2, ground := Go.Ground.phase }, { on := 3, ground := Go.Ground.phase }, { on := 4, ground := Go.Ground.phase }], guard := none }) rfl (fun K hK => ?_) AllReadyH.nil
    go_simp
    skip
    first | refine hK.out _ _ ?_ (fun hHeld => ?_) | (go_wp2_with fail; refine hK.out _ _ ?_ (fun hHeld => ?_))
    · (try dsimp only); refine ⟨?_, ?_, ?_, ?_, ?_, ?_, ?_, ?_⟩ <;> first | assumption | (simp [*, World.cell?_alloc_some]; done) | exact Below.alloc (by assumption) (by first | exact Nat.le_refl _ | simp) _
    clear hK K
    try simp only [Act.put, List.setIfInBounds_toArray, List.set_cons_zero, List.set_cons_succ]
    refine wpAnyH_done (by kernel_rfl) ?_ _
    refine NoPanic.normal ?_
    go_wp2
    go_returns
    exact ⟨ret_bool HV.out, p1⟩

set_option maxRecDepth 20000 in
set_option maxHeartbeats 2000000 in
theorem idxFind_any (br bt : Nat) (ad : Option Addr) (len cap : Nat) (c : Nat → S2) (ap : Option Addr) (np pcap : Nat) (p : Nat → P4) (t : ByteArray) (w : World) (h : (len : Int) ≤ 1048576) (hn : (np : Int) ≤ 1048576) (hr : SRw w ad len c) (hp : PRw w ap np p) (hT : TP w) (hP : RegP len c np p)
    (h1 : CB w br #[.slice ad len cap, .slice ap np pcap] 27) (h2 : CB w bt #[.string t] 9) :
    Calls Tryd.prog 61 #[.slice ap np pcap, .func (Fn.func 62) #[] #[.pointer (some ⟨br, 0, none⟩), .pointer (some ⟨bt, 0, none⟩)]] w fun e w' => e = .returned (.int .i64 (fstF (isT len c np p t) np 0)) ∧ Below w.heap.size w w' := by
  have HR : Hid (SRw w ad len c) := hr
  have HP : Hid (PRw w ap np p) := hp
  have HT : Hid (TP w) := hT
  have HRP : Hid (RegP len c np p) := hP
  have H1 := hid h1
  have H2 := hid h2
  clear hr hp hT hP h1 h2
  go_enter Tryd.func61, Tryd.ntmps61
  go_wp2
  go_loopw [8] (fun i wr => ∃ k : Nat, k ≤ np ∧ i = .int .i64 (k : Int) ∧ Hid (fstF (isT len c np p t) (np - k) k = fstF (isT len c np p t) np 0) ∧ Hid (Below w.heap.size w wr)) (fun i _ => np - (intOf i).toNat)
  case atStart => exact ⟨0, Nat.zero_le _, rfl, rfl, Below.refl _ _⟩
  case round =>
    obtain ⟨k, hk, rfl, hP, HB⟩ := hrel
    by_cases hlt : k < np
    · have hlt2 : (k : Int) < (np : Int) := by omega
      obtain ⟨kb, off, rfl, _⟩ := HP.out.addr (by omega)
      obtain ⟨c0, c1, c2, c3⟩ := (HP.out.below HB.out).cell hlt
      have HCL : ∀ v, isT len c np p t k = v → Hid (Calls Tryd.prog 62 #[(p k).val, .pointer (some ⟨br, 0, none⟩), .pointer (some ⟨bt, 0, none⟩)] wr fun e w' => e = .returned (.bool v) ∧ Below wr.heap.size wr w') := fun v hv => fcl_any br bt ad len cap c _ np pcap p t k v wr h (HR.out.below HB.out) (HT.out.below HB.out) HRP.out hlt (H1.out.below HB.out H1.out.lt) (H2.out.below HB.out H2.out.lt) hv
      unfold P4.val at HCL
      cases g : isT len c np p t k
      · have HF : Hid (fstF (isT len c np p t) (np - (k + 1)) (k + 1) = fstF (isT len c np p t) np 0) := hid (by rw [← hP.out]; exact (fstF_miss hlt g).symm)
        have HG := HCL _ g
        clear g HCL
        go_wp2_with (go_at_call 62; refine HG.out.mono ?_; rintro e w1 ⟨rfl, b1⟩; have HB1 : Hid (Below w.heap.size w w1) := bel_on HB.out b1; clear b1)
        go_roundw
        case rel => exact ⟨k + 1, by omega, by go_num, HF, HB1⟩
        case measure => simp [intOf]; omega
      · have HF : Hid (fstF (isT len c np p t) np 0 = (k : Int)) := hid (by rw [← hP.out]; exact fstF_hit hlt g)
        have HG := HCL _ g
        clear g HCL
        go_wp2_with (go_at_call 62; refine HG.out.mono ?_; rintro e w1 ⟨rfl, b1⟩; have HB1 : Hid (Below w.heap.size w w1) := bel_on HB.out b1; clear b1)
        go_returns
        exact ⟨ret_i HF.out.symm, HB1.out⟩
    · obtain rfl : k = np := by omega
      have lkk : ¬ (k : Int) < (k : Int) := by omega
      have HF : Hid (fstF (isT len c k p t) k 0 = -1) := hid (by rw [← hP.out]; exact fstF_end)
      go_wp2
      go_returns
      exact ⟨ret_i HF.out.symm, HB.out⟩

set_option maxRecDepth 20000 in
set_option maxHeartbeats 2000000 in
theorem implFind_any (ad : Option Addr) (len cap : Nat) (c : Nat → S2) (ap : Option Addr) (np pcap : Nat) (p : Nat → P4) (t : ByteArray) (w : World) (h : (len : Int) ≤ 1048576) (hcap : len ≤ cap) (hs : ∀ j, (c j).pre.size ≤ maxLen) (hr : SRw w ad len c) (hn : (np : Int) ≤ 1048576) (hp : PRw w ap np p) (hw : ∀ j, (Lit.int .i64 (p j).ser).wf = true) (hT : TP w) :
    Calls Tryd.prog 22 #[.agg #[.slice ad len cap, .slice ap np pcap], .string t] w fun e w' => e = .returned (.int .i64 (findV len c np p t)) ∧ Below w.heap.size w w' := by
  have HR : Hid (SRw w ad len c) := hr
  have HP : Hid (PRw w ap np p) := hp
  have HT : Hid (TP w) := hT
  have HBA : Hid (Below w.heap.size w ((w.alloc (.cells #[.slice ad len cap, .slice ap np pcap] 27 (0, 0))).alloc (.cells #[.string t] 9 (0, 0)))) := ((Below.refl _ _).alloc (Nat.le_refl _) _).alloc (by simp) _
  have HC : ∀ v, regB len c np p = v → Hid (Calls Tryd.prog 16 #[.agg #[.slice ad len cap, .slice ap np pcap]] ((w.alloc (.cells #[.slice ad len cap, .slice ap np pcap] 27 (0, 0))).alloc (.cells #[.string t] 9 (0, 0))) _) := fun v hv => implReg_any ad len cap c ap np pcap p v _ h hcap hs (hr.below HBA.out) hn (hp.below HBA.out) hw (hT.below HBA.out) hv
  clear hr hp hT hw hs
  cases hb : regB len c np p
  · have HCF := HC _ hb
    have HV : Hid (findV len c np p t = -1) := findV_f fun H => by rw [regB_t H] at hb; cases hb
    clear HC hb
    go_enter Tryd.func22, Tryd.ntmps22
    go_wp2_with (go_at_call 16; go_loud (refine HCF.out.mono ?_; rintro e w1 ⟨rfl, b1⟩; have HB1 : Hid (Below w.heap.size w w1) := bel_on HBA.out b1; clear b1 HCF))
    go_returns
    exact ⟨ret_i HV.out.symm, HB1.out⟩
  have HCF := HC _ hb
  have HRP : Hid (RegP len c np p) := regB_of hb
  have HV : Hid (findV len c np p t = fstF (isT len c np p t) np 0) := findV_t HRP.out
  clear HC hb
  go_enter Tryd.func22, Tryd.ntmps22
  go_wp2_with (first
    | (go_at_call 16; go_loud (refine HCF.out.mono ?_; rintro e w1 ⟨rfl, b1⟩; obtain ⟨X1, X2, b2⟩ := two_bl b1; have HB1 : Hid (Below w.heap.size w w1) := b2; have k1 : w1.cell? ⟨w.heap.size, 1, none⟩ = some (.slice ap np pcap) := (X1.cell 1).trans rfl; have HX1 := hid X1; have HX2 := hid X2; clear b1 b2 HCF X1 X2))
    | (go_at_call 61; go_loud (refine (idxFind_any _ _ ad len cap c _ _ _ p t _ h hn (HR.out.below HB1.out) (HP.out.below HB1.out) (HT.out.below HB1.out) HRP.out HX1.out HX2.out).mono ?_; rintro e w2 ⟨rfl, b2⟩; rw [← HV.out]; have HB2 : Hid (Below w.heap.size w w2) := bel_on HB1.out b2; clear b2)))
  go_returns
  exact ⟨rfl, HB2.out⟩

set_option maxRecDepth 20000 in
set_option maxHeartbeats 4000000 in
theorem specFind_any (ad : Option Addr) (len cap : Nat) (c : Nat → S2) (ap : Option Addr) (np pcap : Nat) (p : Nat → P4) (t : ByteArray) (w : World) (h : (len : Int) ≤ 1048576) (hs : ∀ j, (c j).pre.size ≤ maxLen) (hr : SRw w ad len c) (hn : (np : Int) ≤ 1048576) (hp : PRw w ap np p) :
    Calls Tryd.prog 34 #[.agg #[.slice ad len cap, .slice ap np pcap], .string t] w fun e w' => e = .returned (.int .i64 (findV len c np p t)) ∧ Below w.heap.size w w' := by
  have HR : Hid (SRw w ad len c) := hr
  have HP : Hid (PRw w ap np p) := hp
  have HS : Hid (∀ j, (c j).pre.size ≤ maxLen) := hs
  have HBA : Hid (Below w.heap.size w (w.alloc (.cells #[.slice ad len cap, .slice ap np pcap] 27 (0, 0)))) := (Below.refl _ _).alloc (Nat.le_refl _) _
  obtain ⟨bb, hbb⟩ : ∃ v, regB len c np p = v := ⟨_, rfl⟩
  have HBB : Hid (regB len c np p = bb) := hbb
  clear hr hp hs hbb
  go_enter Tryd.func34, Tryd.ntmps34
  go_wp2
  go_loopw [5] (fun i wr => ∃ k : Nat, k ≤ np ∧ i = .int .i64 (k : Int) ∧ Hid ((0 < k → RegP len c np p) ∧ fstF (isT len c np p t) (np - k) k = fstF (isT len c np p t) np 0) ∧ Hid (CB wr w.heap.size #[.slice ad len cap, .slice ap np pcap] 27) ∧ Hid (Below w.heap.size w wr)) (fun i _ => np - (intOf i).toNat)
  case atStart => exact ⟨0, Nat.zero_le _, rfl, ⟨fun h => absurd h (Nat.lt_irrefl _), rfl⟩, CB.new _ _, HBA.out⟩
  case round =>
    obtain ⟨k, hk, rfl, HK, HC, HB⟩ := hrel
    obtain ⟨wo, rfl⟩ : ∃ x, x = wr := ⟨wr, rfl⟩
    have k0 : wo.cell? ⟨w.heap.size, 0, none⟩ = some (.slice ad len cap) := (HC.out.cell 0).trans rfl
    have k1 : wo.cell? ⟨w.heap.size, 1, none⟩ = some (.slice ap np pcap) := (HC.out.cell 1).trans rfl
    by_cases hlt : k < np
    · have hlt2 : (k : Int) < (np : Int) := by omega
      have HSR := specReg_any ad len cap c ap np pcap p wo h HS.out (HR.out.below HB.out) hn (HP.out.below HB.out)
      rw [HBB.out] at HSR
      have HSR2 := hid HSR
      clear HSR
      cases bb
      · have HV : Hid (findV len c np p t = -1) := findV_f fun H => by have := HBB.out; rw [regB_t H] at this; cases this
        go_wp2_with (go_at_call 15; go_loud (refine HSR2.out.mono ?_; rintro e w1 ⟨rfl, b1⟩; have HB1 : Hid (Below w.heap.size w w1) := bel_on HB.out b1; clear b1 HSR2))
        go_returns
        exact ⟨ret_i HV.out.symm, HB1.out⟩
      have HRP : Hid (RegP len c np p) := regB_of HBB.out
      have HV : Hid (findV len c np p t = fstF (isT len c np p t) np 0) := findV_t HRP.out
      obtain ⟨X, hX⟩ : ∃ X, showV len c np p (k : Int) = X := ⟨_, rfl⟩
      have HX : Hid (showV len c np p (k : Int) = X) := hX
      by_cases g : X = t
      · have HG : Hid (isT len c np p t k = true) := hid (by unfold isT; simp [hX, g])
        have HF : Hid (fstF (isT len c np p t) np 0 = (k : Int)) := hid (by rw [← HK.out.2]; exact fstF_hit hlt HG.out)
        have e1 := lists_t g
        clear g hX
        go_wp2_with (first
          | (go_at_call 15; go_loud (refine HSR2.out.mono ?_; rintro e w1 ⟨rfl, b1⟩; have HB1 : Hid (Below w.heap.size w w1) := bel_on HB.out b1; have n0 := keep_cell b1 k0; have n1 := keep_cell b1 k1; clear b1 HSR2))
          | (go_at_call 33; go_loud (refine (specShow_any _ _ _ c _ _ _ p _ _ h HS.out (HR.out.below HB1.out) hn (HP.out.below HB1.out)).mono ?_; rintro e w2 ⟨rfl, b2⟩; rw [HX.out]; have HB2 : Hid (Below w.heap.size w w2) := bel_on HB1.out b2; clear b2)))
        go_returns
        exact ⟨ret_i (by rw [HV.out, HF.out]), HB2.out⟩
      · have HG : Hid (isT len c np p t k = false) := hid (by unfold isT; simp [hX, g])
        have HF : Hid (fstF (isT len c np p t) (np - (k + 1)) (k + 1) = fstF (isT len c np p t) np 0) := hid (by rw [← HK.out.2]; exact (fstF_miss hlt HG.out).symm)
        have e1 := lists_f g
        clear g hX
        go_wp2_with (first
          | (go_at_call 15; go_loud (refine HSR2.out.mono ?_; rintro e w1 ⟨rfl, b1⟩; have HB1 : Hid (Below w.heap.size w w1) := bel_on HB.out b1; have HC1 := hid (HC.out.below b1 HC.out.lt); have n0 := keep_cell b1 k0; have n1 := keep_cell b1 k1; clear b1 HSR2))
          | (go_at_call 33; go_loud (refine (specShow_any _ _ _ c _ _ _ p _ _ h HS.out (HR.out.below HB1.out) hn (HP.out.below HB1.out)).mono ?_; rintro e w2 ⟨rfl, b2⟩; rw [HX.out]; have HB2 : Hid (Below w.heap.size w w2) := bel_on HB1.out b2; have HC2 := hid (HC1.out.below b2 HC1.out.lt); clear b2)))
        go_roundw
        case rel => exact ⟨k + 1, by omega, by go_num, ⟨fun _ => HRP.out, HF.out⟩, HC2, HB2⟩
        case measure => simp [intOf]; omega
    · obtain rfl : k = np := by omega
      have lkk : ¬ (k : Int) < (k : Int) := by omega
      have HF : Hid (findV len c k p t = -1) := hid (by
        by_cases g : RegP len c k p
        · rw [findV_t g, ← HK.out.2]; exact fstF_end
        · exact findV_f g)
      go_wp2
      go_returns
      exact ⟨ret_i HF.out.symm, HB.out⟩
end Go.Proofs.YtdhpadcihlmhiaaDoor
