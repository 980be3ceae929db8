/- Discounts: rates that are right, a chain of closures. -/
import Derived.Test.YtlhgmdmbjpaakaaOb
import Derived.Test.YtlhgmdmbjpaakaaIx
import Derived.Test.YtlhgmdmbjpaakaaLc
import Derived.Test.YtlhgmdmbjpaakaaCa
import Derived.Test.YtlhgmdmbjpaakaaXo
namespace Go.Proofs.Ytlhgmdmbjpaakaa
open Go Go.ChangeShapes Go.WideShapes Go.ChangeAt Go.RowKit
set_option linter.unusedVariables false
set_option linter.unusedSimpArgs false

theorem rateWrong_eq (r : Int) (v : Bool) (w : World) (h : inB r 0 100000 = v) : Calls Try.prog 112 #[.int .i64 r] w fun e w' => e = .returned (.bool (!v)) ∧ Below w.heap.size w w' := by
  go_enter Try.func112, Try.ntmps112
  go_wp2_with (go_at_call 80; refine (isRate_eq _ _ _ h).mono ?_; rintro e w1 ⟨rfl, ew⟩; replace ew := ew.symm; subst ew)
  go_returns
  exact ⟨rfl, Below.refl _ _⟩
set_option maxRecDepth 20000 in
set_option maxHeartbeats 2000000 in
theorem idxRate_any (ad : Option Addr) (len cap : Nat) (c : Nat → Int) (w : World) (h : (len : Int) ≤ 1048576) (hr : IR w ad len c) :
    Calls Try.prog 125 #[.slice ad len cap, .func (Fn.func 112) #[] #[]] w fun e w' => e = .returned (.int .i64 (fstF (fun j => !inB (c j) 0 100000) len 0)) ∧ Below w.heap.size w w' := by
  have HR : Hid (IR w ad len c) := hr
  clear hr
  go_enter Try.func125, Try.ntmps125
  go_wp2
  go_loopw [8] (fun i wr => ∃ k : Nat, k ≤ len ∧ i = .int .i64 (k : Int) ∧ Hid (fstF (fun j => !inB (c j) 0 100000) (len - k) k = fstF (fun j => !inB (c j) 0 100000) len 0) ∧ Hid (Below w.heap.size w wr)) (fun i _ => len - (intOf i).toNat)
  case atStart => exact ⟨0, Nat.zero_le _, rfl, rfl, Below.refl _ _⟩
  case round =>
    obtain ⟨k, hk, rfl, hP, HB⟩ := hrel
    by_cases hlt : k < len
    · have hlt2 : (k : Int) < (len : Int) := by omega
      obtain ⟨kb, off, rfl, _⟩ := HR.out.addr (by omega)
      have c0 := (HR.out.below HB.out).cell hlt
      cases g : inB (c k) 0 100000
      · have HF : Hid (fstF (fun j => !inB (c j) 0 100000) len 0 = (k : Int)) := hid (by rw [← hP.out]; exact fstF_hit hlt (by simp [g]))
        have HG : Hid (inB (c k) 0 100000 = false) := g
        clear g
        go_wp2_with (go_at_call 112; refine (rateWrong_eq (c k) _ _ HG.out).mono ?_; rintro e w1 ⟨rfl, b1⟩; have HB1 : Hid (Below w.heap.size w w1) := bel_on HB.out b1; clear b1)
        go_returns
        exact ⟨ret_i HF.out.symm, HB1.out⟩
      · have HF : Hid (fstF (fun j => !inB (c j) 0 100000) (len - (k + 1)) (k + 1) = fstF (fun j => !inB (c j) 0 100000) len 0) := hid (by rw [← hP.out]; exact (fstF_miss hlt (by simp [g])).symm)
        have HG : Hid (inB (c k) 0 100000 = true) := g
        clear g
        go_wp2_with (go_at_call 112; refine (rateWrong_eq (c k) _ _ HG.out).mono ?_; rintro e w1 ⟨rfl, b1⟩; have HB1 : Hid (Below w.heap.size w w1) := bel_on HB.out b1; clear b1)
        go_roundw
        case rel => exact ⟨k + 1, by omega, by go_num, HF, HB1⟩
        case measure => simp [intOf]; omega
    · obtain rfl : k = len := by omega
      have lkk : ¬ (k : Int) < (k : Int) := by omega
      have HF : Hid (fstF (fun j => !inB (c j) 0 100000) k 0 = -1) := hid (by rw [← hP.out]; exact fstF_end)
      go_wp2
      go_returns
      exact ⟨ret_i HF.out.symm, HB.out⟩

theorem anyRate (ad : Option Addr) (len cap : Nat) (c : Nat → Int) (v : Bool) (w : World) (h : (len : Int) ≤ 1048576) (hr : IR w ad len c) (hv : decide (0 ≤ fstF (fun j => !inB (c j) 0 100000) len 0) = v) :
    Calls Try.prog 111 #[.slice ad len cap, .func (Fn.func 112) #[] #[]] w fun e w' => e = .returned (.bool v) ∧ Below w.heap.size w w' := by
  have HC := idxRate_any ad len cap c w h hr
  obtain ⟨x, hx⟩ : ∃ x, fstF (fun j => !inB (c j) 0 100000) len 0 = x := ⟨_, rfl⟩
  rw [hx] at HC hv
  have HC2 : Hid (Calls Try.prog 125 #[.slice ad len cap, .func (Fn.func 112) #[] #[]] w fun e w' => e = .returned (.int .i64 x) ∧ Below w.heap.size w w') := HC
  obtain ⟨fv, hf⟩ : ∃ f, Value.func (Fn.func 112) #[] #[] = f := ⟨_, rfl⟩
  rw [hf] at HC2 ⊢
  clear HC hr hx hf
  subst hv
  go_enter Try.func111, Try.ntmps111
  go_wp2_with (go_at_call 125; refine HC2.out.mono ?_; rintro e w1 ⟨rfl, b1⟩)
  all_goals go_returns
  all_goals exact ⟨rfl, b1⟩

def DeP (n : Nat) (c : Nat → Int) : Prop := n ≤ 8 ∧ ∀ j, j < n → inB (c j) 0 100000 = true
open Classical in
noncomputable def deB (n : Nat) (c : Nat → Int) : Bool := decide (DeP n c)
open Classical in
theorem deB_t {n : Nat} {c : Nat → Int} (h : DeP n c) : deB n c = true := by unfold deB; exact decide_eq_true h
open Classical in
theorem deB_f {n : Nat} {c : Nat → Int} (h : ¬ DeP n c) : deB n c = false := by unfold deB; exact decide_eq_false h
open Classical in
theorem deB_p {n : Nat} {c : Nat → Int} (h : deB n c = true) : DeP n c := by unfold deB at h; exact of_decide_eq_true h
theorem deB_bad {n j : Nat} {c : Nat → Int} (hj : j < n) (h : inB (c j) 0 100000 = false) : deB n c = false := deB_f fun H => by have := H.2 j hj; rw [h] at this; cases this
theorem fst_deB {len : Nat} {c : Nat → Int} (h6 : len ≤ 8) : deB len c = !decide (0 ≤ fstF (fun j => !inB (c j) 0 100000) len 0) := by
  rcases fstF_spec (fun j => !inB (c j) 0 100000) len 0 with ⟨h, g⟩ | ⟨k, h, _, hk, hp, _⟩
  · rw [h, deB_t ⟨h6, fun j hj => by have := g j (by omega) (by omega); simpa using this⟩]; rfl
  · rw [h, deB_bad (j := k) (by omega) (by simpa using hp)]; simp
set_option maxRecDepth 20000 in
set_option maxHeartbeats 2000000 in
theorem areDisc_any (ad : Option Addr) (len cap : Nat) (c : Nat → Int) (w : World) (h : (len : Int) ≤ 1048576) (hr : IR w ad len c) :
    Calls Try.prog 92 #[.slice ad len cap] w fun e w' => e = .returned (.bool (deB len c)) ∧ Below w.heap.size w w' := by
  have HR : Hid (IR w ad len c) := hr
  clear hr
  by_cases h6 : (8 : Int) < (len : Int)
  · have HV : Hid (deB len c = false) := deB_f fun H => by have := H.1; omega
    have h7 : ¬ (len : Int) ≤ 8 := by omega
    go_enter Try.func92, Try.ntmps92
    go_wp2
    go_returns
    exact ⟨ret_bool HV.out.symm, Below.refl _ _⟩
  have g6 : (len : Int) ≤ 8 := by omega
  clear h6
  obtain ⟨v, hv⟩ : ∃ v, decide (0 ≤ fstF (fun j => !inB (c j) 0 100000) len 0) = v := ⟨_, rfl⟩
  have HV : Hid (deB len c = !v) := hid (by rw [fst_deB (by omega), hv])
  have HW : Hid (decide (0 ≤ fstF (fun j => !inB (c j) 0 100000) len 0) = v) := hv
  clear hv
  go_enter Try.func92, Try.ntmps92
  go_wp2_with (go_at_call 111; refine (anyRate ad len cap c v w h HR.out HW.out).mono ?_; rintro e w1 ⟨rfl, b1⟩)
  go_returns
  exact ⟨ret_bool HV.out.symm, b1⟩

def FV (b : Nat) : Value := .func (Fn.func 126) #[] #[.pointer (some ⟨b, 0, none⟩)]
theorem discOf_any (r : Int) (w : World) : Calls Try.prog 113 #[.int .i64 r] w fun e w' => e = .returned (.func (Fn.func 126) #[] #[.pointer (some ⟨w.heap.size, 0, none⟩)]) ∧ CB w' w.heap.size #[.int .i64 r] 3 ∧ Below w.heap.size w w' := by
  go_enter Try.func113, Try.ntmps113
  go_wp2
  go_returns
  exact ⟨rfl, CB.new _ _, by go_grown⟩
set_option maxRecDepth 20000 in
theorem disc1_any (x r : Int) (b : Nat) (w : World) (h0 : -10000000000000 ≤ x) (h1 : x ≤ 10000000000000) (hc : w.cell? ⟨b, 0, none⟩ = some (.int .i64 r)) :
    Calls Try.prog 126 #[.int .i64 x, .pointer (some ⟨b, 0, none⟩)] w fun e w' => e = .returned (.int .i64 (x - mdV x r 100000 3)) ∧ Below w.heap.size w w' := by
  have hmd := md_abs x r 100000 3
  have HMD : Hid (∀ w, Calls Try.prog 24 #[.int .i64 x, .int .i64 r, .int .i64 100000, .int .i64 3] w fun e w' => e = .returned (.tuple #[.int .i64 (mdV x r 100000 3), .bool (mdB x r 100000 3)]) ∧ Below w.heap.size w w') := fun w => implMulDiv_any x r 100000 3 w
  obtain ⟨M, hM⟩ : ∃ M, mdV x r 100000 3 = M := ⟨_, rfl⟩
  obtain ⟨MB, hMB⟩ : ∃ M, mdB x r 100000 3 = M := ⟨_, rfl⟩
  rw [hM, hMB] at HMD
  rw [hM] at hmd ⊢
  clear hM hMB
  go_enter Try.func126, Try.ntmps126
  go_wp2_with (go_at_call 24; refine (HMD.out _).mono ?_; rintro e w1 ⟨rfl, b1⟩)
  go_returns
  exact ⟨rfl, b1⟩
/-- The first rate, and the others behind it. -/
def rtF (f : Int) (z : Nat → Int) (j : Nat) : Int := if j = 0 then f else z (j - 1)
/-- Block g holds n closures, each over a box with its rate. -/
def Disc (w : World) (g n : Nat) (rt : Nat → Int) : Prop := g < w.heap.size ∧ ∀ j, j < n → ∃ b, w.cell? ⟨g, j, none⟩ = some (FV b) ∧ w.cell? ⟨b, 0, none⟩ = some (.int .i64 (rt j))
theorem Disc.below {w w' : World} {g n : Nat} {rt : Nat → Int} (h : Disc w g n rt) (b : Below w.heap.size w w') : Disc w' g n rt :=
  ⟨Nat.lt_of_lt_of_le h.1 b.size, fun j hj => by obtain ⟨q, h1, h2⟩ := h.2 j hj; exact ⟨q, keep_cell b h1, keep_cell b h2⟩⟩
set_option maxRecDepth 100000 in
theorem infoD : ∃ i, Try.prog.info? 120 = some i ∧ i.zero = some Value.nilFunc ∧ i.size = 1 ∧ i.bytes = 8 := by
  obtain ⟨i0, hi⟩ : ∃ i, Try.prog.info? 120 = some i := ⟨_, rfl⟩
  have hz0 : i0.zero = some Value.nilFunc := by
    have : (Try.prog.info? 120).bind (·.zero) = some Value.nilFunc := by kernel_rfl
    rw [hi] at this; exact this
  have hz1 : i0.size = 1 := by
    have : (Try.prog.info? 120).map (·.size) = some 1 := by kernel_rfl
    rw [hi] at this; simpa using this
  have hz2 : i0.bytes = 8 := by
    have : (Try.prog.info? 120).map (·.bytes) = some 8 := by kernel_rfl
    rw [hi] at this; simpa using this
  exact ⟨i0, hi, hz0, hz1, hz2⟩
/-- The chain in the making: k closures in a row of its own at block g. -/
structure DQ (w : World) (g k oc : Nat) (xs : List Value) (rt : Nat → Int) (W : World) : Prop where
  own : W.ownsRow w.heap.size 120 1 (.slice (some ⟨g, 0, none⟩) k oc) k xs
  box : ∀ j, j < k → ∃ b, xs[j]? = some (FV b) ∧ W.cell? ⟨b, 0, none⟩ = some (.int .i64 (rt j)) ∧ b ≠ g ∧ b < W.heap.size
  bel : Below w.heap.size w W
theorem DQ.below {w W W' : World} {g k oc : Nat} {xs : List Value} {rt : Nat → Int} (h : DQ w g k oc xs rt W) (b : Below W.heap.size W W') : DQ w g k oc xs rt W' :=
  ⟨arow_block h.own (fun q hq => b.block q (h.own.lt q hq).2), fun j hj => by obtain ⟨q, h1, h2, h3, h4⟩ := h.box j hj; exact ⟨q, h1, keep_cell b h2, h3, Nat.lt_of_lt_of_le h4 b.size⟩, bel_on h.bel b⟩
theorem DQ.disc {w W : World} {g k oc : Nat} {xs : List Value} {rt : Nat → Int} (h : DQ w g k oc xs rt W) : Disc W g k rt := by
  refine ⟨(h.own.lt g rfl).2, fun j hj => ?_⟩
  obtain ⟨q, h1, h2, _, _⟩ := h.box j hj
  refine ⟨q, ?_, h2⟩
  rcases h.own.2 with ⟨e, _⟩ | ⟨g', cap, cur, e, hb, hg, h3, h4, h5, h6⟩
  · cases e
  · simp only [Value.slice.injEq, Option.some.injEq, Addr.mk.injEq] at e
    obtain ⟨⟨rfl, _, _⟩, _, rfl⟩ := e
    rw [CB.cell hg, ← h1, ← h6, List.getElem?_take, if_pos (by omega)]
    simp
theorem DQ.grow {w W w9 : World} {g k oc g9 oc9 bx : Nat} {xs : List Value} {rt : Nat → Int} (h : DQ w g k oc xs rt W) (hg : W.grownBy w9 (Value.slice (some ⟨g, 0, none⟩) k oc).ownBlock) (hown : w9.ownsRow w.heap.size 120 1 (.slice (some ⟨g9, 0, none⟩) (k + 1) oc9) (k + 1) (xs ++ [FV bx])) (hat : (Value.slice (some ⟨g9, 0, none⟩) (k + 1) oc9).ownBlock = (Value.slice (some ⟨g, 0, none⟩) k oc).ownBlock ∨ (Value.slice (some ⟨g9, 0, none⟩) (k + 1) oc9).ownBlock = some W.heap.size) (hbx : W.cell? ⟨bx, 0, none⟩ = some (.int .i64 (rt k))) (hne : bx ≠ g) (hlt : bx < W.heap.size) : DQ w g9 (k + 1) oc9 (xs ++ [FV bx]) rt w9 := by
  have hl : xs.length = k := by have := h.own.1; omega
  have hgg := h.own.lt g rfl
  have hg9 : g9 = g ∨ g9 = W.heap.size := by simpa [Value.ownBlock] using hat
  have keep : ∀ b, b ≠ g → b < W.heap.size → ∀ v, W.cell? ⟨b, 0, none⟩ = some v → w9.cell? ⟨b, 0, none⟩ = some v := fun b h1 h2 v hv => by
    rw [World.cell?_of_block (w := W) (hg.block b h2 (by simpa [Value.ownBlock] using h1))]; exact hv
  refine ⟨hown, fun j hj => ?_, bel_grown h.bel (Nat.le_refl _) hg (fun r hr => ?_)⟩
  · by_cases e : j = k
    · subst e
      refine ⟨bx, by rw [List.getElem?_append_right (by omega), hl, Nat.sub_self]; rfl, keep bx hne hlt _ hbx, by omega, by have := hg.size; omega⟩
    · obtain ⟨q, h1, h2, h3, h4⟩ := h.box j (by omega)
      refine ⟨q, by rw [List.getElem?_append_left (by omega)]; exact h1, keep q h3 h4 _ h2, by omega, by have := hg.size; omega⟩
  · have : r = g := by simpa [Value.ownBlock] using hr.symm
    omega
set_option maxRecDepth 20000 in
set_option maxHeartbeats 4000000 in
theorem discounts_any (f : Int) (ad : Option Addr) (n cap : Nat) (z : Nat → Int) (w : World) (hn : (n : Int) ≤ 8) (hr : IR w ad n z) :
    Calls Try.prog 93 #[.int .i64 f, .slice ad n cap] w fun e w' => (∃ g oc, e = .returned (.slice (some ⟨g, 0, none⟩) (n + 1) oc) ∧ Disc w' g (n + 1) (rtF f z)) ∧ Below w.heap.size w w' := by
  obtain ⟨i0, hi, hz0, hz1, hz2⟩ := infoD
  have HR : Hid (IR w ad n z) := hr
  clear hr
  go_enter Try.func93, Try.ntmps93
  go_wp2_with (go_at_call 113; refine (discOf_any _ _).mono ?_; rintro e w1 ⟨rfl, hc1, b1⟩; have HC1 : Hid (CB w1 w.heap.size #[.int .i64 f] 3) := hc1; have HB1 : Hid (Below w.heap.size w w1) := b1; clear hc1 b1)
  have HQ : Hid (DQ w w1.heap.size 1 1 [FV w.heap.size] (rtF f z) (w1.alloc (.cells #[FV w.heap.size] 120 (0, 0)))) := hid ⟨⟨rfl, .inr ⟨w1.heap.size, 1, #[FV w.heap.size], rfl, HB1.out.size, CB.new _ _, Nat.le_refl _, by unfold maxLen; omega, rfl, rfl⟩⟩, fun j hj => by
      obtain rfl : j = 0 := (by omega)
      have hlt := HC1.out.lt
      refine ⟨w.heap.size, rfl, keep_cell ((Below.refl _ _).alloc (Nat.le_refl _) _) ((HC1.out.cell 0).trans rfl), by omega, by simp; omega⟩, HB1.out.alloc HB1.out.size _⟩
  go_loopw [5, 13] (fun v i wr => ∃ (k g oc : Nat) (xs : List Value), k ≤ n ∧ v = .slice (some ⟨g, 0, none⟩) (k + 1) oc ∧ i = .int .i64 (k : Int) ∧ Hid (DQ w g (k + 1) oc xs (rtF f z) wr)) (fun _ i _ => n - (intOf i).toNat)
  case atStart => exact ⟨0, _, 1, _, Nat.zero_le _, rfl, rfl, HQ⟩
  case round =>
    obtain ⟨k, g, oc, xs, hk, rfl, rfl, HH⟩ := hrel
    obtain ⟨wo, rfl⟩ : ∃ x, x = wr := ⟨wr, rfl⟩
    by_cases hlt : k < n
    · have hlt2 : (k : Int) < (n : Int) := by omega
      obtain ⟨kb, off, rfl, hkb⟩ := HR.out.addr (by omega)
      have c0 := (HR.out.below HH.out.bel).cell hlt
      obtain ⟨r, hr⟩ : ∃ r, z k = r := ⟨_, rfl⟩
      rw [hr] at c0
      have HRT : Hid (rtF f z (k + 1) = r) := hid (by unfold rtF; rw [if_neg (by omega)]; exact hr)
      clear hr
      go_wp2_with (first
        | (go_at_call 113; refine (discOf_any _ _).mono ?_; rintro e w3 ⟨rfl, hc3, b3⟩; have HC3 : Hid (CB w3 wo.heap.size #[.int .i64 r] 3) := hc3; have HQ3 : Hid (DQ w g (k + 1) oc xs (rtF f z) w3) := HH.out.below b3; have hgo : g < wo.heap.size := (HH.out.own.lt g rfl).2; clear hc3 b3)
        | (at_builtin; go_loud (refine wpList_append_own_at _ rfl _ _ 117 rfl w.heap.size 120 i0 Value.nilFunc 1 8 Try.underlying117 hi hz0 hz1 hz2 rfl (by decide) (.slice (some ⟨g, 0, none⟩) (k + 1) oc) (k + 1) xs rfl (HQ3.out.below ((Below.refl _ _).alloc (Nat.le_refl _) _)).own ⟨w3.heap.size, 0, none⟩ 1 1 [FV wo.heap.size] rfl rfl (ocells_at rfl) (fun u hu => by simp at hu; subst hu; rfl) (by unfold maxLen; omega) (by omega) (own_base (HQ3.out.below ((Below.refl _ _).alloc (Nat.le_refl _) _)).own rfl) ?_); intro v9 w9 hown hgrow hnil hat; obtain ⟨g9, oc9, rfl, _⟩ := ownsRow_some hown (by omega); have R9 : Hid (DQ w g9 (k + 1 + 1) oc9 (xs ++ [FV wo.heap.size]) (rtF f z) w9) := hid ((HQ3.out.below ((Below.refl _ _).alloc (Nat.le_refl _) _)).grow hgrow hown hat (by rw [HRT.out]; exact keep_cell ((Below.refl _ _).alloc (Nat.le_refl _) _) ((HC3.out.cell 0).trans rfl)) (by omega) (by have := HC3.out.lt; simp; omega)); clear hown hgrow hnil hat))
      go_roundw
      case rel => exact ⟨k + 1, g9, oc9, _, by omega, rfl, by go_num, R9⟩
      case measure => simp [intOf]; omega
    · obtain rfl : k = n := by omega
      have lkk : ¬ (k : Int) < (k : Int) := by omega
      go_wp2
      go_returns
      exact ⟨⟨g, ⟨oc, rfl⟩, HH.out.disc⟩, HH.out.bel⟩
end Go.Proofs.Ytlhgmdmbjpaakaa
