/- Lists of lists of whole numbers: in memory, and the laws' own functions over them. -/
import Derived.Test.YtjlniinahfgakaaCl
import Derived.Deep.RegionHeld3
namespace Go.Proofs.Ytjlniinahfgakaa
open Go.ChangeShapes Go.WideShapes Go.ChangeAt Go.RowKit
set_option linter.unusedVariables false
set_option linter.unusedSimpArgs false

/-- A slice's first lists: their lengths, their numbers. -/
def SR (w : World) (ad : Option Addr) (n : Nat) (ln : Nat → Nat) (z : Nat → Nat → Int) : Prop :=
  n = 0 ∨ ∃ k off, ad = some ⟨k, off, none⟩ ∧ k < w.heap.size ∧ ∀ i, i < n → ∃ a cp, w.cell? ⟨k, off + i, none⟩ = some (.slice a (ln i) cp) ∧ IR w a (ln i) (z i)
theorem SR.below {w w' : World} {ad : Option Addr} {n : Nat} {ln : Nat → Nat} {z : Nat → Nat → Int} (H : SR w ad n ln z) (t : Below w.heap.size w w') : SR w' ad n ln z := by
  rcases H with h | ⟨k, off, e, hk, hc⟩
  · exact .inl h
  · refine .inr ⟨k, off, e, Nat.lt_of_lt_of_le hk t.size, fun i hi => ?_⟩
    obtain ⟨a, cp, h1, h2⟩ := hc i hi
    exact ⟨a, cp, by rw [World.cell?_of_block (w := w) (t.block k hk)]; exact h1, h2.below t⟩
theorem SR.alloc {w : World} {ad : Option Addr} {n : Nat} {ln : Nat → Nat} {z : Nat → Nat → Int} (H : SR w ad n ln z) (o : Obj) : SR (w.alloc o) ad n ln z := H.below ((Below.refl _ _).alloc (Nat.le_refl _) o)
theorem SR.get {w : World} {ad : Option Addr} {n : Nat} {ln : Nat → Nat} {z : Nat → Nat → Int} (H : SR w ad n ln z) {i : Nat} (hi : i < n) : ∃ k off a cp, ad = some ⟨k, off, none⟩ ∧ k < w.heap.size ∧ w.cell? ⟨k, off + i, none⟩ = some (.slice a (ln i) cp) ∧ IR w a (ln i) (z i) := by
  rcases H with h | ⟨k, off, e, hk, hc⟩
  · omega
  · obtain ⟨a, cp, h1, h2⟩ := hc i hi
    exact ⟨k, off, a, cp, e, hk, h1, h2⟩
theorem SR.addr {w : World} {ad : Option Addr} {n : Nat} {ln : Nat → Nat} {z : Nat → Nat → Int} (H : SR w ad n ln z) (h : 0 < n) : ∃ k off, ad = some ⟨k, off, none⟩ ∧ k < w.heap.size := by
  rcases H with h' | ⟨k, off, e, hk, hc⟩
  · omega
  · exact ⟨k, off, e, hk⟩
/-- The list at i, in a later world. -/
theorem SR.at {w w' : World} {k off n : Nat} {ln : Nat → Nat} {z : Nat → Nat → Int} (H : SR w (some ⟨k, off, none⟩) n ln z) (b : Below w.heap.size w w') {i : Nat} (hi : i < n) : ∃ a cp, w'.cell? ⟨k, off + i, none⟩ = some (.slice a (ln i) cp) ∧ IR w' a (ln i) (z i) := by
  rcases H.below b with h' | ⟨k', off', e, hk, hc⟩
  · omega
  · simp only [Option.some.injEq, Addr.mk.injEq] at e
    obtain ⟨rfl, rfl, _⟩ := e
    exact hc i hi

theorem szIntS_no {ad : Option Addr} {len cap : Nat} {r : Int} (w : World) (h : (len : Int) ≤ 9223372036854775807) (h0 : 0 ≤ r) (h1 : r ≤ 1048576) (h2 : r < (len : Int)) :
    Calls Try.prog 68 #[.slice ad len cap, .int .i64 r] w fun e w' => e = .returned (.int .i64 (-1)) ∧ w' = w := by
  have hd : r - (len : Int) < 0 := by omega
  go_enter Try.func68, Try.ntmps68
  go_wp2
  go_returns
  exact ⟨rfl, rfl⟩
theorem szIntS_ok {ad : Option Addr} {len cap : Nat} {r : Int} (w : World) (h0 : 0 ≤ r) (h1 : r ≤ 1048576) (h2 : (len : Int) ≤ r) :
    Calls Try.prog 68 #[.slice ad len cap, .int .i64 r] w fun e w' => e = .returned (.int .i64 (r - (len : Int))) ∧ w' = w := by
  have hd : ¬ r - (len : Int) < 0 := by omega
  go_enter Try.func68, Try.ntmps68
  go_wp2
  go_returns
  exact ⟨rfl, rfl⟩
set_option maxRecDepth 20000 in
set_option maxHeartbeats 2000000 in
theorem szIntSS_any (ra : Option Addr) (m rcap : Nat) (ln : Nat → Nat) (z : Nat → Nat → Int) (w : World) (hm : (m : Int) ≤ 9223372036854775807) (hl : ∀ j, (ln j : Int) ≤ 9223372036854775807) (HR : SR w ra m ln z) :
    Calls Try.prog 31 #[.slice ra m rcap, .int .i64 1048576] w fun e w' => ∃ v : Int, e = .returned (.int .i64 v) ∧ (v = -1 ∨ (0 ≤ v ∧ v ≤ 1048576 ∧ (m : Int) ≤ 1048576 ∧ ∀ j, j < m → (ln j : Int) ≤ 1048576)) ∧ w' = w := by
  have HRu : Hid (SR w ra m ln z) := HR
  have HL : Hid (∀ j, (ln j : Int) ≤ 9223372036854775807) := hl
  clear HR hl
  by_cases hbig : 1048576 < (m : Int)
  · have d0 : 1048576 - (m : Int) < 0 := by omega
    go_enter Try.func31, Try.ntmps31
    go_wp2
    go_returns
    exact ⟨-1, rfl, .inl rfl, rfl⟩
  have d0 : ¬ 1048576 - (m : Int) < 0 := by omega
  go_enter Try.func31, Try.ntmps31
  go_wp2
  go_loop [1, 5] (fun u v => ∃ (k : Nat) (r : Int), k ≤ m ∧ v = .int .i64 (k : Int) ∧ u = .int .i64 r ∧ 0 ≤ r ∧ r ≤ 1048576 ∧ Hid (∀ j, j < k → (ln j : Int) ≤ 1048576)) (fun _ v => m - (intOf v).toNat)
  case atStart => exact ⟨0, _, Nat.zero_le _, rfl, rfl, by omega, by omega, fun j hj => by omega⟩
  case round =>
    obtain ⟨k, r, hk, rfl, rfl, hr0, hr1, HB⟩ := hrel
    by_cases hlt : k < m
    · have hlt2 : (k : Int) < (m : Int) := by omega
      obtain ⟨kb, off, a, cp, rfl, hkb, c1, _⟩ := HRu.out.get hlt
      have hll := HL.out k
      obtain ⟨tn, ht⟩ : ∃ t, ln k = t := ⟨_, rfl⟩
      have Ht : Hid (ln k = tn) := ht
      rw [ht] at c1 hll
      clear ht
      by_cases hf : (tn : Int) ≤ r
      · have d1 : ¬ r - (tn : Int) < 0 := by omega
        have HB2 : Hid (∀ j, j < k + 1 → (ln j : Int) ≤ 1048576) := fun j hj => by
          by_cases e : j = k
          · subst e; rw [Ht.out]; omega
          · exact HB.out j (by omega)
        go_wp2_with (go_at_call 68; refine (szIntS_ok _ hr0 hr1 hf).mono ?_; rintro e w2 ⟨rfl, ew⟩; replace ew := ew.symm; subst ew)
        go_round
        case rel => exact ⟨k + 1, _, by omega, by go_num, rfl, by omega, by omega, HB2⟩
        case measure => simp [intOf]; omega
      · have hf2 : r < (tn : Int) := by omega
        clear hf
        go_wp2_with (go_at_call 68; refine (szIntS_no _ hll hr0 hr1 hf2).mono ?_; rintro e w2 ⟨rfl, ew⟩; replace ew := ew.symm; subst ew)
        go_returns
        exact ⟨-1, rfl, .inl rfl, rfl⟩
    · obtain rfl : k = m := by omega
      have lkk : ¬ (k : Int) < (k : Int) := by omega
      go_wp2
      go_returns
      exact ⟨r, rfl, by first | exact .inr ⟨hr0, hr1, by omega, HB.out⟩ | exact .inr ⟨hr0, hr1, HB.out⟩, rfl⟩

/-- A row of whole numbers of its own block. -/
def RowAt (w : World) (b n : Nat) (z : Nat → Int) : Prop := IR w (some ⟨b, 0, none⟩) n z ∧ ∃ cs, CB w b cs 3 ∧ cs.size = n
section
variable {w w' : World} {b n : Nat} {z : Nat → Int}
theorem RowAt.lt (H : RowAt w b n z) : b < w.heap.size := by obtain ⟨_, cs, h, _⟩ := H; exact h.lt
theorem RowAt.below (H : RowAt w b n z) (k : Below w.heap.size w w') : RowAt w' b n z := by obtain ⟨h, cs, h1, h2⟩ := H; exact ⟨h.below k, cs, h1.below k h1.lt, h2⟩
theorem RowAt.other (H : RowAt w b n z) {c o : Nat} (u : Value) (h : b ≠ c) : RowAt (w.setCell ⟨c, o, none⟩ u) b n z := by obtain ⟨h0, cs, h1, h2⟩ := H; exact ⟨h0.other u h, cs, h1.other u h, h2⟩
end
theorem toIntS_at {ad : Option Addr} {len cap : Nat} {z : Nat → Int} {w : World} {b : Nat} (hb : w.heap.size = b) (h : (len : Int) ≤ 1048576) (hr : IR w ad len z) :
    Calls Try.prog 23 #[.slice ad len cap] w fun e w' => e = .returned (.slice (some ⟨b, 0, none⟩) len len) ∧ RowAt w' b len z ∧ Below w.heap.size w w' := by
  subst hb; exact toIntS_any ad len cap z w h hr
def zerosS (n : Nat) : Array Value := madeCells #[.slice none 0 0] n
theorem zerosS_size (n : Nat) : (zerosS n).size = n := size_madeCells _ _
set_option maxRecDepth 100000 in
theorem mkLists (n : Nat) (h : (n : Int) ≤ 1048576) (w : World) : (Instr.makeSlice 37 (.int .i64 (n : Int)) (.int .i64 (n : Int))).run Try.prog w = .ok (.slice (some ⟨w.heap.size, 0, none⟩) n n) (w.alloc (.cells (zerosS n) 24)) := by
  obtain ⟨i, hi⟩ : ∃ i, Try.prog.info? 24 = some i := ⟨_, rfl⟩
  have hz : i.zero = some (.slice none 0 0) := by
    have : (Try.prog.info? 24).bind (·.zero) = some (.slice none 0 0) := by kernel_rfl
    rw [hi] at this; exact this
  have hs : i.size = 1 := by
    have : (Try.prog.info? 24).map (·.size) = some 1 := by kernel_rfl
    rw [hi] at this; simpa using this
  have hb : i.bytes = 24 := by
    have : (Try.prog.info? 24).map (·.bytes) = some 24 := by kernel_rfl
    rw [hi] at this; simpa using this
  have hr := run_make (P := Try.prog) w 37 24 i (.slice none 0 0) Try.underlying37 hi hz .i64 .i64 n n (by omega) (by omega) (by rw [hb]; omega) (by omega)
  simp only [Int.toNat_natCast, hs, Nat.mul_one] at hr
  exact hr
/-- Lists in a block of their own, each in a block of its own behind it. -/
structure OS (w : World) (B m k : Nat) (ln : Nat → Nat) (z : Nat → Nat → Int) (bt : Nat → Nat) : Prop where
  main : ∃ cs, CB w B cs 24 ∧ cs.size = m ∧ ∀ j, j < k → cs[j]? = some (.slice (some ⟨bt j, 0, none⟩) (ln j) (ln j))
  t : ∀ j, j < k → RowAt w (bt j) (ln j) (z j)
  ap : ∀ j, j < k → B < bt j
  inc : ∀ i j, i < j → j < k → bt i < bt j
section
variable {w w' : World} {B m k : Nat} {ln : Nat → Nat} {z : Nat → Nat → Int} {bt : Nat → Nat}
theorem OS.lt (H : OS w B m k ln z bt) : B < w.heap.size := by obtain ⟨cs, h, _⟩ := H.main; exact h.lt
theorem OS.below (H : OS w B m k ln z bt) (b : Below w.heap.size w w') : OS w' B m k ln z bt := by
  obtain ⟨cs, h, h2⟩ := H.main
  exact ⟨⟨cs, h.below b h.lt, h2⟩, fun j hj => (H.t j hj).below b, H.ap, H.inc⟩
theorem OS.sr (H : OS w B m m ln z bt) : SR w (some ⟨B, 0, none⟩) m ln z := by
  obtain ⟨cs, h, h1, h2⟩ := H.main
  refine .inr ⟨B, 0, rfl, h.lt, fun j hj => ⟨some ⟨bt j, 0, none⟩, ln j, ?_, (H.t j hj).1⟩⟩
  rw [Nat.zero_add, h.cell]; exact h2 j hj
theorem OS.step {t1 : Nat} (H : OS w B m k ln z bt) (hk : k < m) (h1 : RowAt w t1 (ln k) (z k)) (hb : B < t1) (hn : ∀ j, j < k → bt j < t1) :
    OS (w.setCell ⟨B, k, none⟩ (.slice (some ⟨t1, 0, none⟩) (ln k) (ln k))) B m (k + 1) ln z (fun j => if j = k then t1 else bt j) := by
  obtain ⟨cs, c1, c2, c3⟩ := H.main
  refine ⟨⟨_, c1.set _ _, by simpa using c2, fun j hj => ?_⟩, fun j hj => ?_, fun j hj => ?_, fun i j hi hj => ?_⟩
  · by_cases e : j = k
    · subst e; simp only [if_true]; rw [get_set_eq (by omega)]
    · simp only [if_neg e]; rw [get_set_ne (by omega)]; exact c3 j (by omega)
  · by_cases e : j = k
    · subst e; simp only [if_true]; exact h1.other _ (by omega)
    · simp only [if_neg e]; exact (H.t j (by omega)).other _ (by have := H.ap j (by omega); omega)
  · by_cases e : j = k
    · simp only [if_pos e]; exact hb
    · simp only [if_neg e]; exact H.ap j (by omega)
  · by_cases e : j = k
    · have e2 : i ≠ k := by omega
      simp only [if_pos e, if_neg e2]; exact hn i (by omega)
    · have e2 : i ≠ k := by omega
      simp only [if_neg e, if_neg e2]; exact H.inc i j hi (by omega)
end
set_option maxRecDepth 20000 in
set_option maxHeartbeats 2000000 in
theorem toIntSS_any (ra : Option Addr) (m rcap : Nat) (ln : Nat → Nat) (z : Nat → Nat → Int) (w : World) (h : (m : Int) ≤ 1048576) (hl : ∀ j, j < m → (ln j : Int) ≤ 1048576) (HR0 : SR w ra m ln z) :
    Calls Try.prog 32 #[.slice ra m rcap] w fun e w' => e = .returned (.slice (some ⟨w.heap.size, 0, none⟩) m m) ∧ (∃ bt, OS w' w.heap.size m m ln z bt) ∧ Below w.heap.size w w' := by
  have HR : Hid (SR w ra m ln z) := HR0
  have HN : Hid (∀ j, j < m → (ln j : Int) ≤ 1048576) := hl
  have hmk := mkLists m h
  clear HR0 hl
  go_enter Try.func32, Try.ntmps32
  go_wp2
  go_loopw [4] (fun i wr => ∃ (k : Nat) (bt : Nat → Nat), k ≤ m ∧ i = .int .i64 (k : Int) ∧ Hid (OS wr w.heap.size m k ln z bt ∧ Below w.heap.size w wr)) (fun i _ => m - (intOf i).toNat)
  case atStart => exact ⟨0, fun _ => 0, Nat.zero_le _, rfl, ⟨⟨zerosS m, CB.new _ _, zerosS_size _, fun j hj => by omega⟩, fun j hj => by omega, fun j hj => by omega, fun i j hi hj => by omega⟩, (Below.refl _ _).alloc (Nat.le_refl _) _⟩
  case round =>
    obtain ⟨k, bt, hk, rfl, HO⟩ := hrel
    by_cases hlt : k < m
    · obtain ⟨kb, off, rfl, hkb⟩ := HR.out.addr (by omega)
      have HB : Hid (Below w.heap.size w wr) := HO.out.2
      obtain ⟨a, cp, c1, r1⟩ := HR.out.at HB.out hlt
      have HT : Hid (IR wr a (ln k) (z k)) := r1
      obtain ⟨cs, hC, hsz, _⟩ := HO.out.1.main
      obtain ⟨v1, d1⟩ : ∃ v, cs[k]? = some v := ⟨cs[k]'(by omega), Array.getElem?_eq_getElem (by omega)⟩
      have HC : Hid (CB wr w.heap.size cs 24) := hC
      have hnk := HN.out k hlt
      have hlt2 : (k : Int) < (m : Int) := by omega
      have HD1 : Hid (cs[k]? = some v1) := d1
      clear hC hsz r1 d1
      go_wp2_with (go_at_call 23; go_loud (refine (toIntS_at rfl hnk HT.out).mono ?_; rintro e w1 ⟨rfl, o1, b1⟩; have X1 : CB w1 w.heap.size cs 24 := HC.out.below b1 HC.out.lt; have x1 := (X1.cell k).trans HD1.out; have f1 := X1.fr k; have HO1 : Hid (RowAt w1 wr.heap.size (ln k) (z k)) := o1; have HX : Hid (OS w1 w.heap.size m k ln z bt) := HO.out.1.below b1; have HB1 : Hid (Below w.heap.size w w1) := bel_on HB.out b1; clear X1 b1 o1))
      go_roundw
      case rel =>
        have hlt3 := HC.out.lt
        exact ⟨k + 1, _, by omega, by go_num, HX.out.step hlt HO1.out (by omega) (fun j hj => (HO.out.1.t j hj).lt), HB1.out.setCell (by simp) _⟩
      case measure => simp [intOf]; omega
    · obtain rfl : k = m := by omega
      have lkk : ¬ (k : Int) < (k : Int) := by omega
      go_wp2
      go_returns
      exact ⟨rfl, ⟨bt, HO.out.1⟩, HO.out.2⟩
set_option maxRecDepth 20000 in
set_option maxHeartbeats 4000000 in
theorem eqIntSS_same (ra rb : Option Addr) (m cap cap2 : Nat) (ln : Nat → Nat) (z : Nat → Nat → Int) (w : World) (h : (m : Int) ≤ 1048576) (hl : ∀ j, j < m → (ln j : Int) ≤ 1048576) (h1 : SR w ra m ln z) (h2 : SR w rb m ln z) :
    Calls Try.prog 33 #[.slice ra m cap, .slice rb m cap2] w fun e w' => e = .returned (.bool true) ∧ Below w.heap.size w w' := by
  have H1 : Hid (SR w ra m ln z) := h1
  have H2 : Hid (SR w rb m ln z) := h2
  have HN : Hid (∀ j, j < m → (ln j : Int) ≤ 1048576) := hl
  clear h1 h2 hl
  go_enter Try.func33, Try.ntmps33
  go_wp2
  go_loopw [5] (fun i wr => ∃ (k : Nat), k ≤ m ∧ i = .int .i64 (k : Int) ∧ Hid (Below w.heap.size w wr)) (fun i _ => m - (intOf i).toNat)
  case atStart => exact ⟨0, Nat.zero_le _, rfl, Below.refl _ _⟩
  case round =>
    obtain ⟨k, hk, rfl, HB⟩ := hrel
    by_cases hlt : k < m
    · have hlt2 : (k : Int) < (m : Int) := by omega
      obtain ⟨kb, off, rfl, hkb⟩ := H1.out.addr (by omega)
      obtain ⟨kb2, off2, rfl, hkb2⟩ := H2.out.addr (by omega)
      obtain ⟨a, cp, c1, r1⟩ := H1.out.at HB.out hlt
      obtain ⟨a2, cp2, e1, s1⟩ := H2.out.at HB.out hlt
      have hBd : Below w.heap.size w wr.drew := HB.out.drew
      have hnk := HN.out k hlt
      have HEQ : Hid (Calls Try.prog 24 #[.slice a (ln k) cp, .slice a2 (ln k) cp2] wr.drew fun e w' => e = .returned (.bool true) ∧ Below wr.drew.heap.size wr.drew w') := eqIntS_same _ _ _ _ _ (z k) _ hnk r1 s1
      clear r1 s1
      obtain ⟨tn, ht⟩ : ∃ t, ln k = t := ⟨_, rfl⟩
      rw [ht] at HEQ c1 e1
      clear ht hnk
      go_wp2
      go_region_held3 (fun w' => w'.cell? ⟨kb, off + k, none⟩ = some (.slice a tn cp) ∧ w'.cell? ⟨kb2, off2 + k, none⟩ = some (.slice a2 tn cp2) ∧ Below w.heap.size w w')
        (refine ⟨?_, ?_, ?_⟩ <;> first | assumption | (simp [*]; done))
        (first
        | (go_at_call 24; refine HEQ.out.mono ?_; rintro e w2 ⟨rfl, b2⟩; have q0 : w2.cell? ⟨kb, off + k, none⟩ = some (.slice a tn cp) := keep_cell' b2 (by simp [*]); have r0 : w2.cell? ⟨kb2, off2 + k, none⟩ = some (.slice a2 tn cp2) := keep_cell' b2 (by simp [*]); have q4 : Below w.heap.size w w2 := bel_on hBd b2))
      go_wp2
      go_roundw
      case rel => exact ⟨k + 1, by omega, by go_num, q4⟩
      case measure => simp [intOf]; omega
    · obtain rfl : k = m := by omega
      have lkk : ¬ (k : Int) < (k : Int) := by omega
      go_wp2
      go_returns
      exact ⟨rfl, HB.out⟩
def MRow (w : World) (b n : Nat) : Prop := ∃ d, CB w b d 3 ∧ d.size = n
theorem MRow.keep {w w' : World} {b n : Nat} (H : MRow w b n) (h : w'.heap[b]? = w.heap[b]?) : MRow w' b n := by obtain ⟨d, h1, h2⟩ := H; exact ⟨d, h1.keep h, h2⟩
set_option maxRecDepth 20000 in
set_option maxHeartbeats 2000000 in
theorem markIntS_row (b len : Nat) (s : Int) (w : World) (h : (len : Int) ≤ 1048576) (hs0 : 0 ≤ s) (hs1 : s ≤ 10000000000000) (h1 : MRow w b len) :
    Calls Try.prog 25 #[.slice (some ⟨b, 0, none⟩) len len, .int .i64 s] w fun e w' => e = .returned (.int .i64 (s + (len : Int))) ∧ (∀ y, y ≠ b → w'.heap[y]? = w.heap[y]?) ∧ Below b w w' := by
  obtain ⟨cur, hC, hsz⟩ := h1
  have HC : Hid (CB w b cur 3) := hC
  clear hC
  go_enter Try.func25, Try.ntmps25
  go_wp2
  go_loopw [1, 5] (fun u i wr => ∃ (k : Nat) (cs : Array Value), k ≤ len ∧ i = .int .i64 (k : Int) ∧ u = .int .i64 (s + (k : Int)) ∧ Hid (CB wr b cs 3 ∧ len ≤ cs.size ∧ (∀ y, y ≠ b → wr.heap[y]? = w.heap[y]?) ∧ Below b w wr)) (fun u i _ => len - (intOf i).toNat)
  case atStart => exact ⟨0, cur, Nat.zero_le _, rfl, by simp, HC.out, by omega, fun y hy => rfl, Below.refl _ _⟩
  case round =>
    obtain ⟨k, cs, hk, rfl, rfl, HW⟩ := hrel
    by_cases hlt : k < len
    · have hlt2 : (k : Int) < (len : Int) := by omega
      obtain ⟨v1, d1⟩ : ∃ v, cs[k]? = some v := ⟨cs[k]'(by have := HW.out.2.1; omega), Array.getElem?_eq_getElem (by have := HW.out.2.1; omega)⟩
      have x1 := (HW.out.1.cell k).trans d1
      have f1 := HW.out.1.fr k
      have HN : Hid (CB (wr.setCell ⟨b, k, none⟩ (.int .i64 (s + (k : Int)))) b (cs.setIfInBounds k (.int .i64 (s + (k : Int)))) 3 ∧ len ≤ (cs.setIfInBounds k (.int .i64 (s + (k : Int)))).size ∧ (∀ y, y ≠ b → (wr.setCell ⟨b, k, none⟩ (.int .i64 (s + (k : Int)))).heap[y]? = w.heap[y]?) ∧ Below b w (wr.setCell ⟨b, k, none⟩ (.int .i64 (s + (k : Int))))) :=
        ⟨HW.out.1.set _ _, by simpa using HW.out.2.1, fun y hy => (heap_set hy).trans (HW.out.2.2.1 y hy), HW.out.2.2.2.setCell (by show b ≤ b; omega) _⟩
      clear HW d1
      go_wp2
      go_roundw
      case rel => exact ⟨k + 1, _, by omega, by go_num, by go_num, HN⟩
      case measure => simp [intOf]; omega
    · obtain rfl : k = len := by omega
      have lkk : ¬ (k : Int) < (k : Int) := by omega
      go_wp2
      go_returns
      exact ⟨rfl, HW.out.2.2.1, HW.out.2.2.2⟩
set_option maxRecDepth 20000 in
set_option maxHeartbeats 4000000 in
theorem markIntSS_any (B m cap : Nat) (ln : Nat → Nat) (z : Nat → Nat → Int) (bt : Nat → Nat) (lo hi : Nat) (s : Int) (w : World) (h : (m : Int) ≤ 1048576) (hl : ∀ j, j < m → (ln j : Int) ≤ 1048576) (hs0 : 0 ≤ s) (hs1 : s ≤ 4000000) (H : OS w B m m ln z bt) (hB : lo ≤ B) (hhi : ∀ j, j < m → bt j < hi) :
    Calls Try.prog 34 #[.slice (some ⟨B, 0, none⟩) m cap, .int .i64 s] w fun e w' => ∃ v : Int, e = .returned (.int .i64 v) ∧ (0 ≤ v ∧ v ≤ 9000000000000) ∧ (∀ y, y < w.heap.size → (y < lo ∨ hi ≤ y) → w'.heap[y]? = w.heap[y]?) ∧ Below lo w w' := by
  have HL : Hid (∀ j, j < m → (ln j : Int) ≤ 1048576) := hl
  have HAP : Hid (∀ j, j < m → B < bt j) := H.ap
  have HIN : Hid (∀ i j, i < j → j < m → bt i < bt j) := H.inc
  have HHI : Hid (∀ j, j < m → bt j < hi) := hhi
  obtain ⟨cs, c1, c2, c3⟩ := H.main
  have HC3 : Hid (∀ j, j < m → cs[j]? = some (.slice (some ⟨bt j, 0, none⟩) (ln j) (ln j))) := c3
  have HM0 : Hid (CB w B cs 24 ∧ ∀ i, i < m → MRow w (bt i) (ln i)) := ⟨c1, fun i hi => (H.t i hi).2⟩
  clear hl H hhi c1 c3
  go_enter Try.func34, Try.ntmps34
  go_wp2
  go_loopw [1, 5] (fun u i wr => ∃ (j : Nat) (K : Int), j ≤ m ∧ i = .int .i64 (j : Int) ∧ u = .int .i64 K ∧ 0 ≤ K ∧ K ≤ 4000000 + 1048579 * (j : Int) ∧ Hid ((CB wr B cs 24 ∧ ∀ i, j ≤ i → i < m → MRow wr (bt i) (ln i)) ∧ (∀ y, y < w.heap.size → (y < lo ∨ hi ≤ y) → wr.heap[y]? = w.heap[y]?) ∧ Below lo w wr)) (fun u i _ => m - (intOf i).toNat)
  case atStart => exact ⟨0, s, Nat.zero_le _, rfl, rfl, hs0, by omega, ⟨HM0.out.1, fun i _ hi => HM0.out.2 i hi⟩, fun y _ _ => rfl, Below.refl _ _⟩
  case round =>
    clear HM0
    obtain ⟨j, K, hj, rfl, rfl, hK0, hK1, HW⟩ := hrel
    by_cases hlt : j < m
    · have hlt2 : (j : Int) < (m : Int) := by omega
      have x4 := (HW.out.1.1.cell j).trans (HC3.out j hlt)
      have hap := HAP.out j hlt
      have hhi := HHI.out j hlt
      have hll := HL.out j hlt
      go_wp2_with (go_at_call 25; go_loud (refine (markIntS_row (bt j) (ln j) K _ hll (by omega) (by omega) (HW.out.1.2 j (Nat.le_refl _) hlt)).mono ?_; rintro e w2 ⟨rfl, k2, b2⟩; have HK2 : Hid ((∀ y, y ≠ bt j → w2.heap[y]? = wr.heap[y]?) ∧ Below (bt j) wr w2) := ⟨k2, b2⟩; clear k2 b2))
      go_roundw
      case rel =>
        refine ⟨j + 1, _, by omega, by go_num, rfl, by omega, by omega, ⟨HW.out.1.1.keep (HK2.out.1 B (by omega)), fun i h1 h2 => ?_⟩, fun y h1 h2 => ?_, HW.out.2.2.trans (HK2.out.2.mono (by omega))⟩
        · have := HIN.out j i (by omega) h2
          exact (HW.out.1.2 i (by omega) h2).keep (HK2.out.1 _ (by omega))
        · exact (HK2.out.1 y (by omega)).trans (HW.out.2.1 y h1 h2)
      case measure => simp [intOf]; omega
    · obtain rfl : j = m := by omega
      have lkk : ¬ (j : Int) < (j : Int) := by omega
      have HF : Hid (0 ≤ K ∧ K ≤ 9000000000000) := ⟨hK0, by omega⟩
      go_wp2
      go_returns
      exact ⟨K, rfl, by first | exact HF.out | exact HF.out.2, HW.out.2.1, HW.out.2.2⟩
end Go.Proofs.Ytjlniinahfgakaa
