/- What a slice of bytes that came in is to a walk: a row of bytes that can be read. -/
import Derived.Test.YtmbdeafpfdeigaaJ1
import Derived.ProofKit
import Derived.OpenShut
import Derived.ShutString
import Derived.ChangeOld
import Derived.Test.YtmbdeafpfdeigaaProg
import Derived.WalkKit
import Derived.Handy
import Derived.Test.YtmbdeafpfdeigaaDfM
import Derived.Test.YtmbdeafpfdeigaaJe
import Derived.Test.YtmbdeafpfdeigaaJi
import Derived.Test.YtmbdeafpfdeigaaLx
import Derived.Deep.QuietTactic
import Derived.BigQuiet
namespace Go.Proofs.Ytmbdeafpfdeigaa
open Go.ChangeShapes Go.WideShapes Go.ChangeAt Go.WideMaps Go.WideElems Go.RowKit
set_option linter.unusedVariables false

def IsRow (k : IntKind) (w : World) (a : Option Addr) (len cap : Nat) (zs : List Int) : Prop :=
  (a = none ∧ len = 0 ∧ cap = 0 ∧ zs = []) ∨
  ∃ x, a = some x ∧ len ≤ cap ∧ cap ≤ maxLen ∧ zs.length = cap ∧ (∀ i, i < zs.length → w.cell? (x.add i) = some (.int k (zs.getD i 0))) ∧ ∀ n ∈ zs, (Lit.int k n).wf = true

theorem row_of {w : World} {a : Option Addr} {len cap : Nat} {zs : List Int} (h : IsRow .u8 w a len cap zs) : ByteRow w w.heap.size a len := by
  rcases h with ⟨_, h, _⟩ | ⟨x, rfl, h1, h2, h3, hc, hw⟩
  · exact .inl h
  · by_cases h0 : len = 0
    · exact .inl h0
    · obtain ⟨b, off, spot⟩ := x
      have hc0 := hc 0 (by omega)
      have hspot : spot = none := by simpa [Addr.add] using World.cell?_spot hc0
      subst hspot
      have hlt : b < w.heap.size := by
        simp only [Addr.add, World.cell?] at hc0
        cases hh : w.heap[b]? with
        | none => simp [hh] at hc0
        | some o => exact lt_of_block hh
      refine .inr ⟨b, off, rfl, by omega, hlt, fun j hj => ?_⟩
      have hcj := hc j (by omega)
      have hb := range_u8 hw j
      refine ⟨zs[j]?.getD 0, hb.1, hb.2, ?_⟩
      by_cases hj0 : j = 0
      · subst hj0; simpa [Addr.add] using hcj
      · simpa [Addr.add, hj0] using hcj

end Go.Proofs.Ytmbdeafpfdeigaa

namespace Go.Proofs.Ytmbdeafpfdeigaa
open Go.ChangeShapes Go.WideShapes Go.ChangeAt Go.RowKit
set_option linter.unusedVariables false

theorem ret_b {a b : Bool} (h : a = b) : Ending.returned (.bool a) = .returned (.bool b) := by rw [h]

set_option maxRecDepth 20000 in
theorem big_t (ad : Option Addr) (len cap : Nat) (w : World) (h : (1048576 : Int) < (len : Int)) :
    Calls Try.prog 16 #[.slice ad len cap] w fun e w' => e = .returned (.bool true) ∧ w' = w := by
  have hd : decide ((1048576 : Int) < (len : Int)) = true := decide_eq_true h
  go_enter Try.func16, Try.ntmps16
  go_wp2
  go_returns
  exact ⟨rfl, rfl⟩

end Go.Proofs.Ytmbdeafpfdeigaa

namespace Go.Proofs.Ytmbdeafpfdeigaa
open Go Go.ChangeShapes Go.WideShapes Go.ChangeAt Go.RowKit
set_option linter.unusedVariables false
set_option linter.unusedSimpArgs false

def DlP (w : World) (e : Ending) (w' : World) : Prop := ∃ (ia : Option Addr) (n ic : Nat) (d : Nat → IT), e = .returned (.slice ia n ic) ∧ n ≤ 60 ∧ ITr w' ia n d ∧ (∀ j, j < n → (d j).name.size ≤ 40 ∧ (d j).parn ≤ 5 ∧ (d j).alsn ≤ 1) ∧ Below w.heap.size w w'
theorem DlP.of {b : Nat} {w w1 w' : World} {ad : Option Addr} {n cap : Nat} {c : Nat → IV} (hb : b = w.heap.size) (h : SX b w1 (.slice ad n cap) n c w') (hn : n ≤ 60) (hw : Below w.heap.size w w1) : DlP w (.returned (.slice ad n cap)) w' := by
  obtain ⟨d, h1, h2⟩ := h.row
  exact ⟨ad, n, cap, d, rfl, hn, h1, h2, moved_bel hb hw h.m⟩
set_option maxRecDepth 20000 in
set_option maxHeartbeats 8000000 in
theorem drawLevels_any (ad : Option Addr) (len cap : Nat) (w : World) (hl : (len : Int) ≤ 1048576) (hr : ByteRow w w.heap.size ad len) :
    Calls Try.prog 29 #[.slice ad len cap] w (DlP w) := by
  have HN : Hid (Calls Try.prog 52 #[.slice ad len cap] w fun e w' => e = .returned (.pointer (some ⟨w.heap.size, 0, none⟩)) ∧ Cursor w' w.heap.size ∧ Below w.heap.size w w') := new_any ad len cap w (by omega) hr
  clear hr
  go_enter Try.func29, Try.ntmps29
  go_wp2_with (first
    | (go_at_call 52; refine HN.out.mono ?_; rintro e w1 ⟨rfl, c1, b1⟩; have HB1 : Hid (Below w.heap.size w w1 ∧ Cursor w1 w.heap.size) := hid ⟨b1, c1⟩; clear c1 b1)
    | (go_at_call 68; refine (size_any _ _ _ _ _ hl (by omega)).mono ?_; rintro e wq ⟨s, rfl, s0, s1, ew⟩; replace ew := ew.symm; subst ew)
    | (go_at_call 54; refine (drawItems_any w.heap.size _ _ HB1.out.2 (by omega) (by omega)).mono ?_; rintro e w2 ⟨v, n, c, rfl, n2, n3, ho⟩; have HO : Hid (OX w.heap.size w1 v n c w2) := ho; clear ho)
    | (go_at_call 53; refine (spoilItems_any w.heap.size _ _ _ _ _ HO.out ⟨n2, by omega⟩).mono ?_; rintro e w3 ⟨a3, n9, cap9, c9, rfl, n4, hs, hsa⟩; clear hsa; have HS : Hid (SX w.heap.size w1 (.slice a3 n9 cap9) n9 c9 w3) := hs; clear hs))
  go_returns
  exact DlP.of rfl HS.out n4 HB1.out.1
end Go.Proofs.Ytmbdeafpfdeigaa

namespace Go.Proofs.Ytmbdeafpfdeigaa
open Go.ChangeShapes Go.WideShapes Go.ChangeAt Go.RowKit
set_option linter.unusedVariables false
set_option linter.unusedSimpArgs false

theorem lvP_no {L : Nat → Int} {i j : Nat} {z : Nat → PA6} : ∀ k, (∀ q, q < k → (z q).item.toNat ≠ j) → lvP L i z k j = L j
  | 0, _ => rfl
  | k + 1, h => by
    show upI _ _ _ j = L j
    rw [upI_ne (fun e => h k (by omega) e.symm)]
    exact lvP_no k (fun q hq => h q (by omega))
theorem lvP_yes {L : Nat → Int} {i j : Nat} {z : Nat → PA6} : ∀ k, (∀ q, q < k → (i : Int) + 1 ≤ (z q).item) → (∃ q, q < k ∧ (z q).item.toNat = j) → lvP L i z k j = max (L j) (L i + 1)
  | 0, _, ⟨q, hq, _⟩ => by omega
  | k + 1, h, ⟨q, hq, e⟩ => by
    have ho := lvP_own (L := L) (z := z) k (fun j hj => h j (by omega))
    show upI _ _ _ j = _
    by_cases e1 : j = (z k).item.toNat
    · subst e1
      rw [upI_eq, ho]
      by_cases e2 : ∃ q, q < k ∧ (z q).item.toNat = (z k).item.toNat
      · rw [lvP_yes k (fun j hj => h j (by omega)) e2]; omega
      · rw [lvP_no k (fun q hq e => e2 ⟨q, hq, e⟩)]
    · rw [upI_ne e1]
      refine lvP_yes k (fun j hj => h j (by omega)) ⟨q, ?_, e⟩
      by_cases e3 : q = k
      · subst e3; exact absurd e.symm e1
      · omega
theorem lvS_up {n : Nat} {c : Nat → IT} (h : LvOk n c) {m : Nat} (hm : m < n) (j : Nat) : lvS c m j ≤ lvS c (m + 1) j := by
  show _ ≤ lvP _ _ _ _ j
  by_cases e : ∃ q, q < (c m).parn ∧ ((c m).parz q).item.toNat = j
  · rw [lvP_yes _ (fun q hq => ((h m hm).2 q hq).1) e]; omega
  · rw [lvP_no _ (fun q hq e2 => e ⟨q, hq, e2⟩)]; exact Int.le_refl _
theorem lvS_mono {n : Nat} {c : Nat → IT} (h : LvOk n c) {m : Nat} (j : Nat) : ∀ k, m + k ≤ n → lvS c m j ≤ lvS c (m + k) j
  | 0, _ => Int.le_refl _
  | k + 1, hk => Int.le_trans (lvS_mono h j k (by omega)) (lvS_up h (by omega) j)
theorem lvS_keep {n : Nat} {c : Nat → IT} (h : LvOk n c) {i : Nat} : ∀ k, i + k ≤ n → lvS c (i + k) i = lvS c i i
  | 0, _ => rfl
  | k + 1, hk => by
    have ih := lvS_keep h (i := i) k (by omega)
    show lvP _ _ _ _ i = _
    rw [lvP_no _ (fun q hq e => by
      have e9 : ((c (i + k)).parz q).item.toNat = i := e
      have := ((h (i + k) (by omega)).2 q hq).1
      omega)]
    exact ih
/-- What stands at the end is what stood when its own turn came. -/
theorem lvS_end {n : Nat} {c : Nat → IT} (h : LvOk n c) {i : Nat} (hi : i ≤ n) : lvS c n i = lvS c i i := by
  have := lvS_keep h (i := i) (n - i) (by omega)
  rw [show i + (n - i) = n by omega] at this
  exact this
/-- A part stands at least one step lower. -/
theorem lv_low {n : Nat} {c : Nat → IT} (h : LvOk n c) {i k : Nat} (hi : i < n) (hk : k < (c i).parn) : lvS c n i + 1 ≤ lvS c n ((c i).parz k).item.toNat := by
  rw [lvS_end h (i := i) (by omega)]
  have h1 : lvS c i i + 1 ≤ lvS c (i + 1) ((c i).parz k).item.toNat := by
    show _ ≤ lvP _ _ _ _ _
    rw [lvP_yes _ (fun q hq => ((h i hi).2 q hq).1) ⟨k, hk, rfl⟩]
    omega
  have h2 := lvS_mono h (m := i + 1) ((c i).parz k).item.toNat (n - (i + 1)) (by omega)
  rw [show i + 1 + (n - (i + 1)) = n by omega] at h2
  exact Int.le_trans h1 h2
theorem lv_way {n : Nat} {c : Nat → IT} (h : LvOk n c) (p : Nat) : ∀ m, m ≤ n → (lvS c m p = 0 ∧ ∀ i, i < m → ∀ k, k < (c i).parn → ((c i).parz k).item.toNat ≠ p) ∨ (∃ i k, i < m ∧ k < (c i).parn ∧ ((c i).parz k).item.toNat = p ∧ lvS c m p = lvS c i i + 1)
  | 0, _ => .inl ⟨rfl, fun i hi => by omega⟩
  | m + 1, hm => by
    have ih := lv_way h p m (by omega)
    have hb := (lvS_bd h m (by omega) m).1
    by_cases e : ∃ q, q < (c m).parn ∧ ((c m).parz q).item.toNat = p
    · have hv : lvS c (m + 1) p = max (lvS c m p) (lvS c m m + 1) := lvP_yes _ (fun q hq => ((h m (by omega)).2 q hq).1) e
      obtain ⟨q, hq, eq⟩ := e
      rcases ih with ⟨h0, _⟩ | ⟨i, k, hi, hk, e1, e2⟩
      · exact .inr ⟨m, q, by omega, hq, eq, by rw [hv, h0]; omega⟩
      · by_cases g : lvS c m p ≤ lvS c m m + 1
        · exact .inr ⟨m, q, by omega, hq, eq, by rw [hv]; omega⟩
        · exact .inr ⟨i, k, by omega, hk, e1, by rw [hv, ← e2]; omega⟩
    · have hv : lvS c (m + 1) p = lvS c m p := lvP_no _ (fun q hq e2 => e ⟨q, hq, e2⟩)
      rcases ih with ⟨h0, h1⟩ | ⟨i, k, hi, hk, e1, e2⟩
      · refine .inl ⟨by rw [hv, h0], fun i hi k hk e2 => ?_⟩
        by_cases e3 : i = m
        · subst e3; exact e ⟨k, hk, e2⟩
        · exact h1 i (by omega) k hk e2
      · exact .inr ⟨i, k, by omega, hk, e1, by rw [hv, e2]⟩
/-- What is part of nothing stands at 0; what is part of something stands just one lower than one of those. -/
theorem lv_tight {n : Nat} {c : Nat → IT} (h : LvOk n c) (p : Nat) : (lvS c n p = 0 ∧ ∀ i, i < n → ∀ k, k < (c i).parn → ((c i).parz k).item.toNat ≠ p) ∨ (∃ i k, i < n ∧ k < (c i).parn ∧ ((c i).parz k).item.toNat = p ∧ lvS c n p = lvS c n i + 1) := by
  rcases lv_way h p n (Nat.le_refl _) with g | ⟨i, k, hi, hk, e1, e2⟩
  · exact .inl g
  · exact .inr ⟨i, k, hi, hk, e1, by rw [lvS_end h (i := i) (by omega)]; exact e2⟩
end Go.Proofs.Ytmbdeafpfdeigaa

namespace Go.Proofs.Ytmbdeafpfdeigaa
open Go Go.ChangeShapes Go.WideShapes Go.ChangeAt Go.RowKit
set_option linter.unusedVariables false
set_option linter.unusedSimpArgs false

theorem ByteRow.up {w W : World} {ad : Option Addr} {len : Nat} (H : ByteRow w w.heap.size ad len) (b : Below w.heap.size w W) : ByteRow W W.heap.size ad len := by
  rcases H with h | ⟨k, off, e, h1, h2, h3⟩
  · exact .inl h
  · exact .inr ⟨k, off, e, by have := b.size; omega, by have := b.size; omega, fun j hj => by obtain ⟨c, c0, c1, hc⟩ := h3 j hj; exact ⟨c, c0, c1, by rw [World.cell?_of_block (w := w) (b.block k h2)]; exact hc⟩⟩
set_option maxRecDepth 20000 in
theorem big_f (ad : Option Addr) (len cap : Nat) (w : World) (h : (len : Int) ≤ 1048576) :
    Calls Try.prog 16 #[.slice ad len cap] w fun e w' => e = .returned (.bool false) ∧ w' = w := by
  have hd : decide ((1048576 : Int) < (len : Int)) = false := decide_eq_false (by omega)
  go_enter Try.func16, Try.ntmps16
  go_wp2
  go_returns
  exact ⟨rfl, rfl⟩
def zerosB (n : Nat) : Array Value := madeCells #[.bool false] n
theorem zerosB_get {n j : Nat} (h : j < n) : (zerosB n)[j]? = some (.bool false) := by
  simp [zerosB, madeCells, h, Nat.mod_one]
set_option maxRecDepth 100000 in
theorem mkBo (n : Nat) (h : (n : Int) ≤ 1048576) (w : World) : (Instr.makeSlice 45 (.int .i64 (n : Int)) (.int .i64 (n : Int))).run Try.prog w = .ok (.slice (some ⟨w.heap.size, 0, none⟩) n n) (w.alloc (.cells (zerosB n) 4)) := by
  obtain ⟨i, hi⟩ : ∃ i, Try.prog.info? 4 = some i := ⟨_, rfl⟩
  have hz : i.zero = some (.bool false) := by
    have : (Try.prog.info? 4).bind (·.zero) = some (.bool false) := by kernel_rfl
    rw [hi] at this; exact this
  have hs : i.size = 1 := by
    have : (Try.prog.info? 4).map (·.size) = some 1 := by kernel_rfl
    rw [hi] at this; simpa using this
  have hb : i.bytes = 1 := by
    have : (Try.prog.info? 4).map (·.bytes) = some 1 := by kernel_rfl
    rw [hi] at this; simpa using this
  have hr := run_make (P := Try.prog) w 45 4 i (.bool false) Try.underlying45 hi hz .i64 .i64 n n (by omega) (by omega) (by rw [hb]; omega) (by omega)
  simp only [Int.toNat_natCast, hs, Nat.mul_one] at hr
  exact hr
/-- A row of truths in a block of its own. -/
def BA (W : World) (b n : Nat) (f : Nat → Bool) : Prop := ∃ cs, CB W b cs 4 ∧ cs.size = n ∧ ∀ j, j < n → cs[j]? = some (.bool (f j))
section
variable {W W' : World} {b n : Nat} {f : Nat → Bool}
theorem BA.lt (h : BA W b n f) : b < W.heap.size := by obtain ⟨cs, h, _⟩ := h; exact h.lt
theorem BA.cell (h : BA W b n f) {j : Nat} (hj : j < n) : W.cell? ⟨b, j, none⟩ = some (.bool (f j)) := by obtain ⟨cs, h1, _, h2⟩ := h; rw [h1.cell]; exact h2 j hj
theorem BA.fr (h : BA W b n f) (j : Nat) : W.frozen? ⟨b, j, none⟩ = false := by obtain ⟨cs, h1, _⟩ := h; exact h1.fr j
theorem BA.keep (h : BA W b n f) (hb : W'.heap[b]? = W.heap[b]?) : BA W' b n f := by obtain ⟨cs, h1, h2⟩ := h; exact ⟨cs, by unfold CB at h1 ⊢; rw [hb]; exact h1, h2⟩
theorem BA.below (h : BA W b n f) (k : Below W.heap.size W W') : BA W' b n f := h.keep (k.block b h.lt)
theorem BA.set (h : BA W b n f) {p : Nat} (hp : p < n) (v : Bool) : BA (W.setCell ⟨b, p, none⟩ (.bool v)) b n (fun j => if j = p then v else f j) := by
  obtain ⟨cs, h1, h2, h3⟩ := h
  refine ⟨cs.setIfInBounds p (.bool v), h1.set p _, by simpa using h2, fun j hj => ?_⟩
  by_cases e : j = p
  · subst e; simp [h2, hj]
  · simp only [e, if_false]; rw [Array.getElem?_setIfInBounds_ne (fun q => e q.symm)]; exact h3 j hj
end
/-- Which have been met as a part of one of the first i, or of the first k of the next. -/
def PT (c : Nat → IT) (i k p : Nat) : Prop := ∃ i' k', (i' < i ∨ (i' = i ∧ k' < k)) ∧ k' < (c i').parn ∧ ((c i').parz k').item.toNat = p
def TT (c : Nat → IT) (L : Nat → Int) (i k p : Nat) : Prop := ∃ i' k', (i' < i ∨ (i' = i ∧ k' < k)) ∧ k' < (c i').parn ∧ ((c i').parz k').item.toNat = p ∧ L p = L i' + 1
theorem PT.next {c : Nat → IT} {i p : Nat} : PT c i (c i).parn p ↔ PT c (i + 1) 0 p := by
  constructor
  · rintro ⟨i', k', h1, h2, h3⟩; exact ⟨i', k', .inl (by omega), h2, h3⟩
  · rintro ⟨i', k', h1, h2, h3⟩
    by_cases e : i' = i
    · subst e; exact ⟨i', k', .inr ⟨rfl, h2⟩, h2, h3⟩
    · exact ⟨i', k', .inl (by omega), h2, h3⟩
theorem TT.next {c : Nat → IT} {L : Nat → Int} {i p : Nat} : TT c L i (c i).parn p ↔ TT c L (i + 1) 0 p := by
  constructor
  · rintro ⟨i', k', h1, h2, h3⟩; exact ⟨i', k', .inl (by omega), h2, h3⟩
  · rintro ⟨i', k', h1, h2, h3⟩
    by_cases e : i' = i
    · subst e; exact ⟨i', k', .inr ⟨rfl, h2⟩, h2, h3⟩
    · exact ⟨i', k', .inl (by omega), h2, h3⟩
theorem PT.step {c : Nat → IT} {i k p : Nat} (hk : k < (c i).parn) : PT c i (k + 1) p ↔ (PT c i k p ∨ p = ((c i).parz k).item.toNat) := by
  constructor
  · rintro ⟨i', k', h1, h2, h3⟩
    rcases h1 with h1 | ⟨rfl, h1⟩
    · exact .inl ⟨i', k', .inl h1, h2, h3⟩
    · by_cases e : k' = k
      · subst e; exact .inr h3.symm
      · exact .inl ⟨i', k', .inr ⟨rfl, by omega⟩, h2, h3⟩
  · rintro (⟨i', k', h1, h2, h3⟩ | rfl)
    · exact ⟨i', k', by rcases h1 with h1 | ⟨h1, h4⟩; exact .inl h1; exact .inr ⟨h1, by omega⟩, h2, h3⟩
    · exact ⟨i, k, .inr ⟨rfl, by omega⟩, hk, rfl⟩
theorem TT.step {c : Nat → IT} {L : Nat → Int} {i k p : Nat} (hk : k < (c i).parn) : TT c L i (k + 1) p ↔ (TT c L i k p ∨ (p = ((c i).parz k).item.toNat ∧ L p = L i + 1)) := by
  constructor
  · rintro ⟨i', k', h1, h2, h3, h4⟩
    rcases h1 with h1 | ⟨rfl, h1⟩
    · exact .inl ⟨i', k', .inl h1, h2, h3, h4⟩
    · by_cases e : k' = k
      · subst e; exact .inr ⟨h3.symm, h4⟩
      · exact .inl ⟨i', k', .inr ⟨rfl, by omega⟩, h2, h3, h4⟩
  · rintro (⟨i', k', h1, h2, h3, h4⟩ | ⟨rfl, h4⟩)
    · exact ⟨i', k', by rcases h1 with h1 | ⟨h1, h5⟩; exact .inl h1; exact .inr ⟨h1, by omega⟩, h2, h3, h4⟩
    · exact ⟨i, k, .inr ⟨rfl, by omega⟩, hk, rfl, h4⟩
theorem BA.drew {W : World} {b n : Nat} {f : Nat → Bool} (h : BA W b n f) : BA W.drew b n f := h
theorem BA.other {W : World} {b n : Nat} {f : Nat → Bool} (h : BA W b n f) {q o : Nat} {v : Value} (hq : b ≠ q) : BA (W.setCell ⟨q, o, none⟩ v) b n f := h.keep (Below.heap_setCell _ _ _ _ (by simpa using hq))
theorem hp_step {n : Nat} {c : Nat → IT} {i k P : Nat} {g : Nat → Bool} (hp : ∀ p, p < n → (g p = true ↔ PT c i k p)) (hk : k < (c i).parn) (hP : ((c i).parz k).item.toNat = P) : ∀ p, p < n → ((if p = P then true else g p) = true ↔ PT c i (k + 1) p) := fun p h => by
  rw [PT.step hk, hP, ← hp p h]
  by_cases e : p = P <;> simp [e]
theorem ht_yes {n : Nat} {c : Nat → IT} {L : Nat → Int} {i k P : Nat} {f : Nat → Bool} (ht : ∀ p, p < n → (f p = true ↔ TT c L i k p)) (hk : k < (c i).parn) (hP : ((c i).parz k).item.toNat = P) (e : L P = L i + 1) : ∀ p, p < n → ((if p = P then true else f p) = true ↔ TT c L i (k + 1) p) := fun p h => by
  rw [TT.step hk, hP, ← ht p h]
  by_cases e1 : p = P
  · subst e1; simp [e]
  · simp [e1]
theorem ht_no {n : Nat} {c : Nat → IT} {L : Nat → Int} {i k P : Nat} {f : Nat → Bool} (ht : ∀ p, p < n → (f p = true ↔ TT c L i k p)) (hk : k < (c i).parn) (hP : ((c i).parz k).item.toNat = P) (e : ¬ L P = L i + 1) : ∀ p, p < n → (f p = true ↔ TT c L i (k + 1) p) := fun p h => by
  rw [TT.step hk, hP, ← ht p h]
  constructor
  · exact .inl
  · rintro (q | ⟨rfl, q⟩)
    · exact q
    · exact absurd q e
/-- The two rows of marks, as far as they go. -/
structure MK (n : Nat) (c : Nat → IT) (L : Nat → Int) (tb pb i k : Nat) (f g : Nat → Bool) (W : World) : Prop where
  t : BA W tb n f
  p : BA W pb n g
  ht : ∀ p, p < n → (f p = true ↔ TT c L i k p)
  hp : ∀ p, p < n → (g p = true ↔ PT c i k p)
  ne : tb ≠ pb
/-- At the end both rows say the same, and what is part of nothing stands at 0. -/
theorem mk_end {n : Nat} {c : Nat → IT} {tb pb : Nat} {f g : Nat → Bool} {W : World} (h : MK n c (lvS c n) tb pb n 0 f g W) (hl : LvOk n c) {p : Nat} (hp : p < n) : g p = f p ∧ (g p = false → lvS c n p = 0) := by
  rcases lv_tight hl p with ⟨h0, h1⟩ | ⟨i, k, hi, hk, e1, e2⟩
  · have hg : g p = false := by
      cases hg : g p
      · rfl
      · obtain ⟨i', k', a1, a2, a3⟩ := (h.hp p hp).1 hg
        exact absurd a3 (h1 i' (by omega) k' a2)
    have hf : f p = false := by
      cases hf : f p
      · rfl
      · obtain ⟨i', k', a1, a2, a3, _⟩ := (h.ht p hp).1 hf
        exact absurd a3 (h1 i' (by omega) k' a2)
    exact ⟨by rw [hg, hf], fun _ => h0⟩
  · have hg : g p = true := (h.hp p hp).2 ⟨i, k, .inl hi, hk, e1⟩
    have hf : f p = true := (h.ht p hp).2 ⟨i, k, .inl hi, hk, e1, e2⟩
    exact ⟨by rw [hg, hf], fun e => by rw [hg] at e; cases e⟩
end Go.Proofs.Ytmbdeafpfdeigaa

namespace Go.Proofs.Ytmbdeafpfdeigaa
open Go Go.ChangeShapes Go.WideShapes Go.ChangeAt Go.RowKit
set_option linter.unusedVariables false
set_option linter.unusedSimpArgs false

set_option maxRecDepth 20000 in
set_option maxHeartbeats 2000000 in
theorem badDay_any (b : Nat) (x : Int) (w : World) (hc : Cursor w b) : Calls Try.prog 105 #[.pointer (some ⟨b, 0, none⟩), .int .i64 x] w fun e w' => ∃ d : Int, e = .returned (.int .i64 d) ∧ Moved b w w' := by
  have HC : Hid (Cursor w b) := hc
  clear hc
  go_enter Try.func105, Try.ntmps105
  go_wp2_with (go_at_call 61; refine (spoil_any b _ _ [-1, 40001, -9223372036854775808] _ _ _ (HC.out.alloc _) (IntRow.made HC.out.lt _ _ _ rfl) rfl (by decide) (by decide)).mono ?_; rintro e w2 ⟨x2, rfl, _, m2⟩; have M2 := hid (((Moved.refl HC.out).alloc _).trans m2); clear m2)
  go_returns
  exact ⟨_, rfl, M2.out⟩
def AkP (b : Nat) (w : World) (e : Ending) (w' : World) : Prop := ∃ a q d : Int, e = .returned (.tuple #[.int .i64 a, .int .i64 q, .int .i64 d]) ∧ (-1 ≤ q ∧ q ≤ 1000001) ∧ Moved b w w'
theorem AkP.of {b : Nat} {w w' : World} {a q d : Int} (h : -1 ≤ q ∧ q ≤ 1000001) (m : Moved b w w') : AkP b w (.returned (.tuple #[.int .i64 a, .int .i64 q, .int .i64 d])) w' := ⟨a, q, d, rfl, h, m⟩
set_option maxRecDepth 20000 in
set_option maxHeartbeats 4000000 in
theorem drawAsk_any (b : Nat) (ad : Option Addr) (n cap : Nat) (w : World) (hc : Cursor w b) (hn : n ≤ 60) : Calls Try.prog 55 #[.pointer (some ⟨b, 0, none⟩), .slice ad n cap] w (AkP b w) := by
  have HM : Hid (Moved b w w) := hid (Moved.refl hc)
  clear hc
  have t1 : True := trivial
  have t2 : True := trivial
  have t3 : True := trivial
  have t4 : True := trivial
  have t5 : True := trivial
  go_enter Try.func55, Try.ntmps55
  go_wp2_with (first
    | (go_at_call 78; clear t1; refine (once_any b _ _ HM.out.1).mono ?_; rintro e w1 ⟨v, rfl, m⟩; replace HM := hid (HM.out.trans m); clear m; cases v; clear t2 t3)
    | (go_at_call 60; clear t2; refine (below_any b _ _ HM.out.1).mono ?_; rintro e w1 ⟨x, rfl, _, _, _, m⟩; replace HM := hid (HM.out.trans m); clear m)
    | (go_at_call 61; clear t3; refine (spoil_any b _ _ [-1, (n : Int)] _ _ _ (HM.out.1.alloc _) (IntRow.made HM.out.1.lt _ _ _ rfl) rfl (by simp) (by simp)).mono ?_; rintro e w2 ⟨x2, rfl, _, m⟩; replace HM := hid ((HM.out.alloc _).trans m); clear m)
    | (go_at_call 60; clear t4; refine (below_any b _ _ HM.out.1).mono ?_; rintro e w3 ⟨x3, rfl, x3a, x3b, _, m⟩; replace x3b := x3b (by omega); replace HM := hid (HM.out.trans m); clear m)
    | (go_at_call 61; refine (spoil_any b _ _ [-1, 1000000, 1000001, 100000] _ _ _ (HM.out.1.alloc _) (IntRow.made HM.out.1.lt _ _ _ rfl) rfl (by decide) (by decide)).mono ?_; rintro e w4 ⟨x4, rfl, hx4, m⟩; replace HM := hid ((HM.out.alloc _).trans m); clear m; have HQ : Hid (-1 ≤ x4 ∧ x4 ≤ 1000001) := hid (by rcases hx4 with rfl | h; (omega); (simp at h; omega)); clear hx4)
    | (go_at_call 60; clear t5; refine (below_any b _ _ HM.out.1).mono ?_; rintro e w5 ⟨x5, rfl, _, _, _, m⟩; replace HM := hid (HM.out.trans m); clear m)
    | (go_at_call 105; refine (badDay_any b _ _ HM.out.1).mono ?_; rintro e w6 ⟨x6, rfl, m⟩; replace HM := hid (HM.out.trans m); clear m))
  all_goals go_returns
  all_goals exact AkP.of HQ.out HM.out
def DnP (w : World) (e : Ending) (w' : World) : Prop := ∃ (ia : Option Addr) (n ic : Nat) (d : Nat → IT) (a q y : Int), e = .returned (.tuple #[.slice ia n ic, .int .i64 a, .int .i64 q, .int .i64 y]) ∧ n ≤ 60 ∧ ITr w' ia n d ∧ (∀ j, j < n → (d j).name.size ≤ 40 ∧ (d j).parn ≤ 5 ∧ (d j).alsn ≤ 1) ∧ (-1 ≤ q ∧ q ≤ 1000001) ∧ Below w.heap.size w w' ∧ ∃ a, ia = some a
theorem DnP.of {b : Nat} {w w1 w' : World} {ad : Option Addr} {n cap : Nat} {c : Nat → IV} {a q y : Int} (hb : b = w.heap.size) (h : SX b w1 (.slice ad n cap) n c w') (hn : n ≤ 60) (hq : -1 ≤ q ∧ q ≤ 1000001) (hw : Below w.heap.size w w1) (hsa : ∃ a, ad = some a) : DnP w (.returned (.tuple #[.slice ad n cap, .int .i64 a, .int .i64 q, .int .i64 y])) w' := by
  obtain ⟨d, h1, h2⟩ := h.row
  exact ⟨ad, n, cap, d, a, q, y, rfl, hn, h1, h2, hq, moved_bel hb hw h.m, hsa⟩
set_option maxRecDepth 20000 in
set_option maxHeartbeats 8000000 in
theorem drawNeeds_any (ad : Option Addr) (len cap : Nat) (w : World) (hl : (len : Int) ≤ 1048576) (hr : ByteRow w w.heap.size ad len) :
    Calls Try.prog 18 #[.slice ad len cap] w (DnP w) := by
  have HN : Hid (Calls Try.prog 52 #[.slice ad len cap] w fun e w' => e = .returned (.pointer (some ⟨w.heap.size, 0, none⟩)) ∧ Cursor w' w.heap.size ∧ Below w.heap.size w w') := new_any ad len cap w (by omega) hr
  clear hr
  go_enter Try.func18, Try.ntmps18
  go_wp2_with (first
    | (go_at_call 52; refine HN.out.mono ?_; rintro e w1 ⟨rfl, c1, b1⟩; have HB1 : Hid (Below w.heap.size w w1 ∧ Cursor w1 w.heap.size) := hid ⟨b1, c1⟩; clear c1 b1)
    | (go_at_call 54; refine (drawItems_any w.heap.size _ _ HB1.out.2 (by omega) (by omega)).mono ?_; rintro e w2 ⟨v, n, c, rfl, n2, n3, ho⟩; have HO : Hid (OX w.heap.size w1 v n c w2) := ho; clear ho)
    | (go_at_call 53; refine (spoilItems_any w.heap.size _ _ _ _ _ HO.out ⟨n2, by omega⟩).mono ?_; rintro e w3 ⟨a3, n9, cap9, c9, rfl, n4, hs, hsa⟩; have HSA := hid hsa; clear hsa; have HS : Hid (SX w.heap.size w1 (.slice a3 n9 cap9) n9 c9 w3) := hs; clear hs)
    | (go_at_call 55; refine (drawAsk_any w.heap.size _ _ _ _ HS.out.m.1 n4).mono ?_; rintro e w4 ⟨a4, q4, y4, rfl, hq, m⟩; replace HS := hid (HS.out.turn m); have HQ : Hid (-1 ≤ q4 ∧ q4 ≤ 1000001) := hq; clear m hq))
  go_returns
  exact DnP.of rfl HS.out n4 HQ.out HB1.out.1 HSA.out
set_option maxRecDepth 20000 in
set_option maxHeartbeats 8000000 in
theorem drawExplode_any (ad : Option Addr) (len cap : Nat) (w : World) (hl : (len : Int) ≤ 1048576) (hr : ByteRow w w.heap.size ad len) :
    Calls Try.prog 21 #[.slice ad len cap] w (DnP w) := by
  have HN : Hid (Calls Try.prog 52 #[.slice ad len cap] w fun e w' => e = .returned (.pointer (some ⟨w.heap.size, 0, none⟩)) ∧ Cursor w' w.heap.size ∧ Below w.heap.size w w') := new_any ad len cap w (by omega) hr
  clear hr
  go_enter Try.func21, Try.ntmps21
  go_wp2_with (first
    | (go_at_call 52; refine HN.out.mono ?_; rintro e w1 ⟨rfl, c1, b1⟩; have HB1 : Hid (Below w.heap.size w w1 ∧ Cursor w1 w.heap.size) := hid ⟨b1, c1⟩; clear c1 b1)
    | (go_at_call 54; refine (drawItems_any w.heap.size _ _ HB1.out.2 (by omega) (by omega)).mono ?_; rintro e w2 ⟨v, n, c, rfl, n2, n3, ho⟩; have HO : Hid (OX w.heap.size w1 v n c w2) := ho; clear ho)
    | (go_at_call 53; refine (spoilItems_any w.heap.size _ _ _ _ _ HO.out ⟨n2, by omega⟩).mono ?_; rintro e w3 ⟨a3, n9, cap9, c9, rfl, n4, hs, hsa⟩; have HSA := hid hsa; clear hsa; have HS : Hid (SX w.heap.size w1 (.slice a3 n9 cap9) n9 c9 w3) := hs; clear hs)
    | (go_at_call 55; refine (drawAsk_any w.heap.size _ _ _ _ HS.out.m.1 n4).mono ?_; rintro e w4 ⟨a4, q4, y4, rfl, hq, m⟩; replace HS := hid (HS.out.turn m); have HQ : Hid (-1 ≤ q4 ∧ q4 ≤ 1000001) := hq; clear m hq))
  go_returns
  exact DnP.of rfl HS.out n4 HQ.out HB1.out.1 HSA.out
end Go.Proofs.Ytmbdeafpfdeigaa

namespace Go.Proofs.Ytmbdeafpfdeigaa
open Go Go.ChangeShapes Go.WideShapes Go.ChangeAt Go.RowKit
set_option linter.unusedVariables false
set_option linter.unusedSimpArgs false

/-- One row is from 0 to the other. -/
def Dn (a f : Nat → Int) : Prop := ∀ j, 0 ≤ a j ∧ a j ≤ f j
theorem Dn.q {a f : Nat → Int} (h : Dn a f) (hf : FQ f) : FQ a := fun j => ⟨(h j).1, Int.le_trans (h j).2 (hf j).2⟩
theorem ex_dn {na nf : Int} {c : Nat → PA6} (h0 : 0 ≤ na) (hn : na ≤ nf) : ∀ k, (∀ j, j < k → CP (c j)) → ∀ f a : Nat → Int, Dn a f → FQ f → exB f nf c k = true → exB a na c k = true ∧ Dn (exF a na c k) (exF f nf c k)
  | 0, _, _, _, h, _, _ => ⟨rfl, h⟩
  | k + 1, hc, f, a, h, hf, e => by
    simp only [exB, Bool.and_eq_true] at e ⊢
    obtain ⟨ih1, ih2⟩ := ex_dn h0 hn k (fun j hj => hc j (by omega)) f a h hf e.1
    have q1 := exF_q hf k e.1
    obtain ⟨hq, hs0, hs1⟩ := hc k (by omega)
    have s1 := e.2
    simp only [stB, Bool.and_eq_true] at s1 ⊢
    have i1 := inB_t s1.1; have i2 := inB_t s1.2
    have m0 : 0 ≤ na * (c k).qty := Int.mul_nonneg h0 (by omega)
    have m1 : na * (c k).qty ≤ nf * (c k).qty := Int.mul_le_mul_of_nonneg_right hn (by omega)
    have m2 : na * (c k).qty * (100 + (c k).scr) ≤ nf * (c k).qty * (100 + (c k).scr) := Int.mul_le_mul_of_nonneg_right m1 (by omega)
    have m3 : 0 ≤ na * (c k).qty * (100 + (c k).scr) := Int.mul_nonneg m0 (by omega)
    have t1 := tk_val m0 (by omega) ⟨hs0, hs1⟩
    have t2 := tk_val i1.1 i1.2 ⟨hs0, hs1⟩
    have g := ih2 (c k).item.toNat
    rw [t2] at i2
    have bd : 0 ≤ tk na (c k) ∧ tk na (c k) ≤ tk nf (c k) := by
      rw [t1, t2]
      generalize na * (c k).qty * (100 + (c k).scr) = X at *
      generalize nf * (c k).qty * (100 + (c k).scr) = Y at *
      omega
    rw [← t2] at i2
    refine ⟨⟨ih1, inB_y m0 (by omega), inB_y (by omega) (by omega)⟩, fun j => ?_⟩
    show 0 ≤ upI _ _ _ j ∧ upI _ _ _ j ≤ upI _ _ _ j
    by_cases q : j = (c k).item.toNat
    · subst q; rw [upI_eq, upI_eq]; omega
    · rw [upI_ne q, upI_ne q]; exact ih2 j
theorem xp_dn {n : Nat} {c : Nat → IT} {d : Int} {f a : Nat → Int} {i : Nat} {q q1 : Int} (hI : isB n c = true) (hi : i < n) (h : Dn a f) (hf : FQ f) (h0 : 0 ≤ q1) (hm : q1 ≤ q) (e : xpB c d f i q = true) : xpB c d a i q1 = true ∧ Dn (xpF c d a i q1) (xpF c d f i q) := by
  obtain ⟨g1, _⟩ := isB_it hI hi
  unfold xpB at e ⊢
  simp only [Bool.and_eq_true] at e ⊢
  have b0 := (bat_bd h0 g1.1).1
  have bm := bat_mono g1.1 hm
  have p0 := inB_t e.1
  have p1 : bat q1 (c i).batch * (c i).batch ≤ bat q (c i).batch * (c i).batch := Int.mul_le_mul_of_nonneg_right bm (by omega)
  have p2 : 0 ≤ bat q1 (c i).batch * (c i).batch := Int.mul_nonneg b0 (by omega)
  have x := ex_dn b0 bm _ (cp_of hI hi) f a h hf e.2
  exact ⟨⟨inB_y p2 (by omega), x.1⟩, x.2⟩
theorem sn_dn {n : Nat} {c : Nat → IT} {d : Int} {p : Nat} (hI : isB n c = true) {f a : Nat → Int} (h : Dn a f) (ff : FQ f) : ∀ k, p + k ≤ n → snB c d p f k = true → snB c d p a k = true ∧ Dn (snF c d p a k) (snF c d p f k)
  | 0, _, _ => ⟨rfl, h⟩
  | k + 1, hk, e1 => by
    simp only [snB, Bool.and_eq_true] at e1 ⊢
    obtain ⟨i1, i2⟩ := sn_dn hI h ff k (by omega) e1.1
    have qf := snF_q ff k e1.1
    have qa := i2.q qf
    have s1 := e1.2
    show (_ ∧ _) ∧ Dn (nS c d (snF c d p a k) (p + k)) (nS c d (snF c d p f k) (p + k))
    generalize snF c d p f k = F at *
    generalize snF c d p a k = A at *
    cases hph : (c (p + k)).pha
    · obtain ⟨y1, y2⟩ := nS_no (c := c) (d := d) (f := F) (i := p + k) (fun q => by rw [hph] at q; cases q.1)
      obtain ⟨z1, z2⟩ := nS_no (c := c) (d := d) (f := A) (i := p + k) (fun q => by rw [hph] at q; cases q.1)
      rw [y1, z1]
      exact ⟨⟨i1, z2⟩, i2⟩
    · obtain ⟨x1, y1⟩ := nS_xp (d := d) hI (show p + k < n by omega) qf hph
      obtain ⟨x2, y2⟩ := nS_xp (d := d) hI (show p + k < n by omega) qa hph
      rw [x1, x2, y2]
      have l0 : Dn (upI A (p + k) 0) (upI F (p + k) 0) := fun j => by
        by_cases e : j = p + k
        · subst e; rw [upI_eq, upI_eq]; omega
        · rw [upI_ne e, upI_ne e]; exact i2 j
      have x := xp_dn (d := d) hI (show p + k < n by omega) l0 (qf.up _ (Int.le_refl _) (by omega)) (i2 (p + k)).1 (i2 (p + k)).2 (y1 ▸ s1)
      exact ⟨⟨i1, x.1⟩, x.2⟩
theorem ne_dn {n : Nat} {c : Nat → IT} {d : Int} {i : Nat} {q q1 : Int} (hI : isB n c = true) (hi : i < n) (h0 : 0 ≤ q1) (hm : q1 ≤ q) (e : neB n c d i q = true) : neB n c d i q1 = true := by
  unfold neB at e ⊢
  rw [(nd_sn c d _ _ _).2, Bool.and_eq_true] at e ⊢
  have x := xp_dn (d := d) hI hi (f := z0) (a := z0) (fun j => ⟨Int.le_refl _, Int.le_refl _⟩) z0_q h0 hm e.1
  exact ⟨x.1, (sn_dn hI x.2 (xpF_q (n := 0) z0_q e.1) _ (by omega) e.2).1⟩
theorem rk_dn {n : Nat} {c : Nat → IT} {a q q1 d : Int} (h : rkB neB n c a q d = true) (h0 : 0 ≤ q1) (hm : q1 ≤ q) : rkB neB n c a q1 d = true := by
  unfold rkB at h ⊢
  rw [Bool.and_eq_true] at h ⊢
  obtain ⟨hI, ha, hq, hd⟩ := akB_p h.1
  refine ⟨?_, ne_dn hI (by omega) h0 hm h.2⟩
  unfold akB
  rw [hI, inB_y ha.1 ha.2, inB_y h0 (by omega), inB_y hd.1 hd.2]; rfl
theorem ne_q {n : Nat} {c : Nat → IT} {a q d : Int} (h : rkB neB n c a q d = true) : FQ (neF n c d a.toNat q) := by
  unfold rkB at h
  rw [Bool.and_eq_true] at h
  have e := h.2
  unfold neB at e
  unfold neF
  rw [(nd_sn c d _ _ _).2, Bool.and_eq_true] at e
  rw [(nd_sn c d _ _ _).1]
  exact snF_q (xpF_q (n := 0) z0_q e.1) _ e.2
theorem rk_m {X : Nat → (Nat → IT) → Int → Nat → Int → Bool} {n : Nat} {c : Nat → IT} {a q d : Int} (h : rkB X n c a q d = true) : rkM X n c a q d = n := if_pos h
theorem rk_hv {n : Nat} {c : Nat → IT} {a q p d : Int} (h : rkB neB n c a q d = true) (h0 : 0 ≤ p) (h1 : p ≤ q) : Hv (neF n c d a.toNat q) (neF n c d a.toNat p) (neF n c d a.toNat (q - p)) := by
  have h2 := rk_dn h h0 h1
  have h3 := rk_dn (q1 := q - p) h (by omega) (by omega)
  unfold rkB at h h2 h3
  rw [Bool.and_eq_true] at h h2 h3
  obtain ⟨hI, ha, hq, hd⟩ := akB_p h.1
  exact ne_halves hI (by omega) (by omega) h1 h0 (by omega) h.2 h2.2 h3.2
theorem rk_qty {X : Nat → (Nat → IT) → Int → Nat → Int → Bool} {n : Nat} {c : Nat → IT} {a q d : Int} (h : rkB X n c a q d = true) : 0 ≤ q ∧ q ≤ 1000000 := by
  unfold rkB at h
  rw [Bool.and_eq_true] at h
  exact (akB_p h.1).2.2.1

/-- The two items of the example. -/
def litC : Nat → IT := fun j => if j = 0 then ⟨⟨#[97]⟩, 5, false, 1, fun _ => ⟨1, 3, 10, 0, 9, 0⟩, 0, fun _ => ⟨0, 0, 0, 0, 0, 0⟩⟩ else ⟨⟨#[98]⟩, 1, false, 0, fun _ => ⟨0, 0, 0, 0, 0, 0⟩, 0, fun _ => ⟨0, 0, 0, 0, 0, 0⟩⟩
theorem lit_is : isB 2 litC = true := isB_t ⟨by omega, fun j hj => by
    have ap0 : ∀ (T : PA6 → Bool) (z : Nat → PA6), apB T 0 z = true := fun T z => apB_t ⟨by omega, fun j hj => by omega⟩
    have ap1 : apB (paB ((0 : Nat) : Int) ((2 : Nat) : Int)) 1 (litC 0).parz = true := apB_t ⟨by omega, fun j hj => by show paB 0 2 ⟨1, 3, 10, 0, 9, 0⟩ = true; decide⟩
    rcases (show j = 0 ∨ j = 1 by omega) with rfl | rfl
    · show (nameB _ && _ && _ && apB _ 1 _ && apB _ 0 _) = true
      rw [ap1, ap0]; decide
    · show (nameB _ && _ && _ && apB _ 0 _ && apB _ 0 _) = true
      rw [ap0, ap0]; decide,
  fun i j h1 h2 => by
    obtain ⟨rfl, rfl⟩ : i = 0 ∧ j = 1 := ⟨by omega, by omega⟩
    decide,
  fun j hj => by
    rcases (show j = 0 ∨ j = 1 by omega) with rfl | rfl <;> decide⟩
theorem lit_ne : neB 2 litC 4 0 7 = true := by kernel_rfl
theorem lit_nf : neF 2 litC 4 0 7 1 = 7 := by kernel_rfl
theorem lit_rk : rkB neB 2 litC 0 7 4 = true := by
  unfold rkB akB
  rw [lit_is, show neB 2 litC 4 (0 : Int).toNat 7 = true from lit_ne]; decide
theorem lit_IZ : IZ 2 litC := fun j hj => by
  rcases (show j = 0 ∨ j = 1 by omega) with rfl | rfl
  · exact ⟨by show (1 : Nat) ≤ maxLen; unfold maxLen; omega, by decide, by decide⟩
  · exact ⟨by show (1 : Nat) ≤ maxLen; unfold maxLen; omega, by decide, by decide⟩
def litP : Array Value := #[.int .i64 1, .int .i64 3, .int .i64 10, .int .i64 0, .int .i64 9, .int .i64 0]
def litI (b : Nat) : Array Value := #[.string ⟨#[97]⟩, .int .i64 5, .bool false, .slice (some ⟨b, 0, none⟩) 1 1, .slice none 0 0, .string ⟨#[98]⟩, .int .i64 1, .bool false, .slice none 0 0, .slice none 0 0]
theorem lit_ITr (w : World) : ITr ((w.alloc (.cells litP 28 (0, 0))).alloc (.cells (litI w.heap.size) 31 (0, 0))) (some ⟨w.heap.size + 1, 0, none⟩) 2 litC := by
  have hP : CB ((w.alloc (.cells litP 28 (0, 0))).alloc (.cells (litI w.heap.size) 31 (0, 0))) w.heap.size litP 28 := (CB.new _ _).alloc _
  have hI : CB ((w.alloc (.cells litP 28 (0, 0))).alloc (.cells (litI w.heap.size) 31 (0, 0))) (w.heap.size + 1) (litI w.heap.size) 31 := CB.newAt (by simp) _ _
  refine .inr ⟨w.heap.size + 1, 0, rfl, hI.lt, fun j hj => ?_⟩
  rcases (show j = 0 ∨ j = 1 by omega) with rfl | rfl
  · refine ⟨some ⟨w.heap.size, 0, none⟩, 1, none, 0, Nat.le_refl _, Nat.le_refl _, (hI.cell 0).trans rfl, (hI.cell 1).trans rfl, (hI.cell 2).trans rfl, (hI.cell 3).trans rfl, (hI.cell 4).trans rfl, .inr ⟨w.heap.size, 0, rfl, hP.lt, fun k hk => ?_⟩, .inl rfl⟩
    obtain rfl : k = 0 := by have : k < 1 := hk; omega
    exact ⟨(hP.cell 0).trans rfl, (hP.cell 1).trans rfl, (hP.cell 2).trans rfl, (hP.cell 3).trans rfl, (hP.cell 4).trans rfl, (hP.cell 5).trans rfl⟩
  · exact ⟨none, 0, none, 0, Nat.le_refl _, Nat.le_refl _, (hI.cell 5).trans rfl, (hI.cell 6).trans rfl, (hI.cell 7).trans rfl, (hI.cell 8).trans rfl, (hI.cell 9).trans rfl, .inl rfl, .inl rfl⟩
set_option maxRecDepth 20000 in
theorem at_any (b : Nat) (ad : Option Addr) (len cap i : Nat) (w : World) (hl : (len : Int) ≤ 1048576) (hi : (i : Int) ≤ 1048576) (hr : ByteRow w b ad len) :
    Calls Try.prog 20 #[.slice ad len cap, .int .i64 (i : Int)] w fun e w' => ∃ x : Int, e = .returned (.int .i64 x) ∧ 0 ≤ x ∧ x ≤ 255 ∧ w' = w := by
  by_cases hlt : i < len
  · rcases hr with h | ⟨k, off, rfl, hb, hk, hcc⟩
    · omega
    · obtain ⟨c, c0, c1, hcell⟩ := hcc i hlt
      have hlt2 : (i : Int) < (len : Int) := by omega
      have HCC := hid hcc
      clear hcc
      go_enter Try.func20, Try.ntmps20
      go_wp2
      go_returns
      exact ⟨_, rfl, by first | exact c0 | omega, by first | exact c1 | omega, rfl⟩
  · have hlt2 : ¬ (i : Int) < (len : Int) := by omega
    go_enter Try.func20, Try.ntmps20
    go_wp2
    go_returns
    exact ⟨0, rfl, by omega, by omega, rfl⟩
end Go.Proofs.Ytmbdeafpfdeigaa
