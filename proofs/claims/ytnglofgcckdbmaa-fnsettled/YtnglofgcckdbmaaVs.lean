/- What FnSettled draws, the plain facts of its steps, and the laws' sum. -/
import Derived.Test.YtnglofgcckdbmaaOy
import Derived.Test.YtnglofgcckdbmaaUf
import Derived.Test.YtnglofgcckdbmaaXg
import Derived.Test.YtnglofgcckdbmaaXb
namespace Go.Proofs.Ytnglofgcckdbmaa
open Go Go.ChangeShapes Go.WideShapes Go.ChangeAt Go.RowKit
set_option linter.unusedVariables false
set_option linter.unusedSimpArgs false

theorem ByteRow.up {w W : World} {ad : Option Addr} {len : Nat} (H : ByteRow w w.heap.size ad len) (b : Below w.heap.size w W) : ByteRow W W.heap.size ad len := by
  rcases H with h | ⟨k, off, e, h1, h2, h3⟩
  · exact .inl h
  · exact .inr ⟨k, off, e, by have := b.size; omega, by have := b.size; omega, fun j hj => by obtain ⟨c, c0, c1, hc⟩ := h3 j hj; exact ⟨c, c0, c1, by rw [World.cell?_of_block (w := w) (b.block k h2)]; exact hc⟩⟩
theorem big_f (ad : Option Addr) (len cap : Nat) (w : World) (h : (len : Int) ≤ 1048576) :
    Calls Try.prog 11 #[.slice ad len cap] w fun e w' => e = .returned (.bool false) ∧ w' = w := by
  have hd : decide ((1048576 : Int) < (len : Int)) = false := decide_eq_false (by omega)
  go_enter Try.func11, Try.ntmps11
  go_wp2
  go_returns
  exact ⟨rfl, rfl⟩
theorem size_any (ad : Option Addr) (len cap : Nat) (q : Int) (w : World) (hl : (len : Int) ≤ 1048576) (hq : 2 ≤ q) : Calls Try.prog 50 #[.slice ad len cap, .int .i64 q] w fun e w' => ∃ x : Int, e = .returned (.int .i64 x) ∧ 2 ≤ x ∧ x ≤ q ∧ w' = w := by
  by_cases h : q < 2 + (len : Int) / 20
  · go_enter Try.func50, Try.ntmps50
    go_wp2
    go_returns
    exact ⟨q, rfl, hq, Int.le_refl _, rfl⟩
  · go_enter Try.func50, Try.ntmps50
    go_wp2
    go_returns
    exact ⟨_, rfl, by omega, by omega, rfl⟩
/-- What DrawSettle leaves. -/
def DsP (w : World) (e : Ending) (w' : World) : Prop := ∃ (g1 n oc1 : Nat) (c : Nat → OI2) (g2 m oc2 : Nat) (d : Nat → OI2), e = .returned (.tuple #[.slice (some ⟨g1, 0, none⟩) n oc1, .slice (some ⟨g2, 0, none⟩) m oc2]) ∧ n ≤ 12 ∧ m ≤ 12 ∧ OIr w' (some ⟨g1, 0, none⟩) n c ∧ OIr w' (some ⟨g2, 0, none⟩) m d ∧ Below w.heap.size w w'
theorem moved_bel {b : Nat} {w W W' : World} (hb : b = w.heap.size) (h : Below w.heap.size w W) (m : Moved b W W') : Below w.heap.size w W' := by
  subst hb
  exact h.trans ⟨m.2.os, m.2.tape, m.2.output, m.2.size, fun k hk => m.2.block k (by have := h.size; omega) (by omega)⟩
set_option maxRecDepth 20000 in
set_option maxHeartbeats 8000000 in
theorem drawSettle_any (ad : Option Addr) (len cap : Nat) (w : World) (hl : (len : Int) ≤ 1048576) (hr : ByteRow w w.heap.size ad len) :
    Calls Try.prog 34 #[.slice ad len cap] w (DsP w) := by
  have HN : Hid (Calls Try.prog 48 #[.slice ad len cap] w fun e w' => e = .returned (.pointer (some ⟨w.heap.size, 0, none⟩)) ∧ Cursor w' w.heap.size ∧ Below w.heap.size w w') := new_any ad len cap w (by omega) hr
  clear hr
  have tok1 : True := trivial
  have tok2 : True := trivial
  have tok3 : True := trivial
  go_enter Try.func34, Try.ntmps34
  go_wp2_with (first
    | (go_at_call 48; refine HN.out.mono ?_; rintro e w1 ⟨rfl, c1, b1⟩; have HC1 : Hid (Cursor w1 w.heap.size) := c1; have HB1 : Hid (Below w.heap.size w w1) := b1; clear c1 b1)
    | (go_at_call 50; clear tok1; refine (size_any _ _ _ _ _ hl (by omega)).mono ?_; rintro e wq ⟨s, rfl, s0, s1, ew⟩; replace ew := ew.symm; subst ew)
    | (go_at_call 49; clear tok2; refine (below_any w.heap.size _ _ HC1.out).mono ?_; rintro e w2 ⟨x, rfl, x0, x1, _, m2⟩; obtain ⟨k, rfl, hk⟩ := nat_of (n := 12) x0 (by have := x1 (by omega); omega); have HC2 : Hid (Cursor w2 w.heap.size) := m2.1; have HB2 : Hid (Below w.heap.size w w2) := moved_bel rfl HB1.out m2; clear m2 x0 x1)
    | (go_at_call 76; clear tok3; refine (drawOpen_any w.heap.size k _ (by omega) HC2.out).mono ?_; rintro e w3 ⟨g, oc, c, rfl, d3⟩; have RR : Hid (DXOI2 w.heap.size w2 w2.heap.size g k oc c w3) := d3; have HB3 : Hid (Below w.heap.size w w3) := moved_bel rfl HB2.out d3.mv; clear d3)
    | (go_at_call 50; refine (size_any _ _ _ _ _ hl (by omega)).mono ?_; rintro e wq ⟨s', rfl, s0', s1', ew⟩; replace ew := ew.symm; subst ew)
    | (go_at_call 49; refine (below_any w.heap.size _ _ RR.out.cur).mono ?_; rintro e w4 ⟨x, rfl, x0, x1, _, m4⟩; obtain ⟨k2, rfl, hk2⟩ := nat_of (n := 12) x0 (by have := x1 (by omega); omega); have R4 : Hid (DXOI2 w.heap.size w2 w2.heap.size g k oc c w4) := RR.out.moved m4; have HB4 : Hid (Below w.heap.size w w4) := moved_bel rfl HB3.out m4; clear m4 x0 x1)
    | (go_at_call 76; refine (drawOpen_any w.heap.size k2 _ (by omega) R4.out.cur).mono ?_; rintro e w5 ⟨g2, oc2, d, rfl, d5⟩; have HF : Hid (DsP w (.returned (.tuple #[.slice (some ⟨g, 0, none⟩) k oc, .slice (some ⟨g2, 0, none⟩) k2 oc2])) w5) := hid ⟨g, k, oc, c, g2, k2, oc2, d, rfl, (by omega), (by omega), R4.out.row.turns d5.trn R4.out.gb, d5.row, moved_bel rfl HB4.out d5.mv⟩; clear d5))
  go_returns
  exact HF.out
/-- The days of the steps do not fall. -/
theorem nx_days {c : Nat → OI2} {a a' : Nat → Int} {n : Nat} {p p' : Nat} (h : nx c a n = (p : Int)) (h' : nx c a' n = (p' : Int)) (hs : ∀ q, q < n → 0 < a' q → 0 < a q) : (c p).day ≤ (c p').day := by
  rcases nx_spec c a n with ⟨g1, _⟩ | ⟨r, g1, g2, g3, g4⟩
  · omega
  · have : r = p := by rw [g1] at h; exact Int.ofNat.inj h
    subst this
    rcases nx_spec c a' n with ⟨f1, _⟩ | ⟨r', f1, f2, f3, f4⟩
    · omega
    · have : r' = p' := by rw [f1] at h'; exact Int.ofNat.inj h'
      subst this
      rcases g4 r' f2 (hs r' f2 f3) with e | e | e
      · subst e; exact Int.le_refl _
      · omega
      · omega
section
variable (c d : Nat → OI2) (n m : Nat)
theorem step_days {k : Nat} (hr : runs c d n m (k + 2)) : (c (iF c d n m k)).day ≤ (c (iF c d n m (k + 1))).day ∧ (d (jF c d n m k)).day ≤ (d (jF c d n m (k + 1))).day := by
  obtain ⟨⟨a1, a2, a3⟩, ⟨b1, b2, b3⟩⟩ := go_at c d n m (hr k (by omega))
  obtain ⟨⟨a4, a5, a6⟩, ⟨b4, b5, b6⟩⟩ := go_at c d n m (hr (k + 1) (by omega))
  have e4 := mnV_pos a3 b3
  refine ⟨nx_days a1 a4 (fun q hq h0 => ?_), nx_days b1 b4 (fun q hq h0 => ?_)⟩
  · rw [sq_1] at h0; unfold upd xF at h0
    split at h0
    · rename_i e; subst e; exact a3
    · exact h0
  · rw [sq_2] at h0; unfold upd xF at h0
    split at h0
    · rename_i e; subst e; exact b3
    · exact h0
theorem seM_pos (h : 0 < seM c d n m) : (opB n c = true ∧ opB m d = true) ∧ isM c d n m (seM c d n m) := by
  unfold seM at h ⊢
  split at h
  · rename_i ho
    split at h
    · rename_i hx
      rw [if_pos ho, dif_pos hx]
      exact ⟨ho, Classical.choose_spec hx⟩
    · omega
  · omega
theorem seM_le : seM c d n m ≤ n + m := by
  by_cases h : 0 < seM c d n m
  · exact runs_le c d n m (seM_pos c d n m h).2.1
  · omega
theorem end_zero {M : Nat} (h : isM c d n m M) (hc : ∀ q, q < n → 0 ≤ (c q).amount ∧ (c q).amount ≤ 100000000000) (hd : ∀ q, q < m → 0 ≤ (d q).amount ∧ (d q).amount ≤ 100000000000) : (∀ q, q < n → (sq c d n m M).1 q = 0) ∨ (∀ q, q < m → (sq c d n m M).2 q = 0) := by
  obtain ⟨b1, b2⟩ := sq_bd c d n m hc hd M h.1
  rcases h.2 with hs | hs
  · left; intro q hq
    rcases nx_spec c (sq c d n m M).1 n with ⟨_, g2⟩ | ⟨r, g1, _⟩
    · have := g2 q hq; have := (b1 q hq).1; omega
    · rw [g1] at hs; omega
  · right; intro q hq
    rcases nx_spec d (sq c d n m M).2 m with ⟨_, g2⟩ | ⟨r, g1, _⟩
    · have := g2 q hq; have := (b2 q hq).1; omega
    · rw [g1] at hs; omega
end
/-- The sum of amounts: whether it is 0. -/
def smI (z : Nat → Int) : Nat → Int
  | 0 => 0
  | k + 1 => smI z k + z k
theorem smI_zero {z : Nat → Int} : ∀ {n}, (∀ q, q < n → z q = 0) → smI z n = 0
  | 0, _ => rfl
  | n + 1, h => by unfold smI; rw [smI_zero (fun q hq => h q (by omega)), h n (by omega)]; rfl
set_option maxRecDepth 20000 in
theorem sum_any (b n cap : Nat) (z : Nat → Int) (w : World) (h : n ≤ 12) (hz : ∀ q, q < n → 0 ≤ z q ∧ z q ≤ 100000000000) (hr : IB w b n z) :
    Calls Try.prog 36 #[.slice (some ⟨b, 0, none⟩) n cap] w fun e w' => e = .returned (.int .i64 (smI z n)) ∧ w' = w := by
  have HR : Hid (IB w b n z) := hr
  have HZ : Hid (∀ q, q < n → 0 ≤ z q ∧ z q ≤ 100000000000) := hz
  clear hr hz
  go_enter Try.func36, Try.ntmps36
  go_wp2
  go_loopw [3, 4] (fun x i wr => ∃ (k : Nat) (A : Int), k ≤ n ∧ x = .int .i64 A ∧ i = .int .i64 (k : Int) ∧ (0 ≤ A ∧ A ≤ 100000000000 * (k : Int)) ∧ Hid (A = smI z k ∧ wr = w)) (fun _ i _ => n - (intOf i).toNat)
  case atStart => exact ⟨0, 0, Nat.zero_le _, rfl, rfl, by omega, rfl, rfl⟩
  case round =>
    obtain ⟨k, A, hk, rfl, rfl, hA, HH⟩ := hrel
    by_cases hlt : k < n
    · have hlt2 : (k : Int) < (n : Int) := by omega
      have ck : wr.cell? ⟨b, k, none⟩ = some (.int .i64 (z k)) := by rw [HH.out.2]; exact HR.out.cell hlt
      have hzk := HZ.out k hlt
      obtain ⟨x, hx⟩ : ∃ x, z k = x := ⟨_, rfl⟩
      have HN : Hid (A + x = smI z (k + 1)) := hid (by unfold smI; rw [← HH.out.1, hx])
      rw [hx] at ck hzk
      clear hx
      go_wp2
      go_roundw
      case rel => exact ⟨k + 1, A + x, by omega, rfl, by go_num, by omega, HN.out, HH.out.2⟩
      case measure => simp [intOf]; omega
    · obtain rfl : k = n := by omega
      have lkk : ¬ (k : Int) < (k : Int) := by omega
      go_wp2
      go_returns
      exact ⟨ret_i HH.out.1, HH.out.2⟩
def c0F : Nat → OI2 := fun _ => ⟨4, 5⟩
def d0F : Nat → OI2 := fun j => if j = 0 then ⟨9, 2⟩ else ⟨8, 4⟩
theorem one_isM : isM c0F d0F 1 2 2 := by
  refine ⟨fun j hj => ?_, ?_⟩
  · have : j = 0 ∨ j = 1 := by omega
    rcases this with rfl | rfl <;> (unfold stop; decide)
  · unfold stop; decide
theorem one_settle (W : World) : Calls Try.prog 33 #[.slice (some ⟨W.heap.size, 0, none⟩) 1 1, .slice (some ⟨W.heap.size + 1, 0, none⟩) 2 2] ((W.alloc (.cells #[.int .i64 4, .int .i64 5] 60 (0, 0))).alloc (.cells #[.int .i64 9, .int .i64 2, .int .i64 8, .int .i64 4] 60 (0, 0))) fun e w' => ∃ g cap, e = .returned (.slice (some ⟨g, 0, none⟩) 2 cap) ∧ w'.cell? ⟨g, 1, none⟩ = some (.int .i64 1) ∧ w'.cell? ⟨g, 2, none⟩ = some (.int .i64 4) ∧ w'.cell? ⟨g, 5, none⟩ = some (.int .i64 1) ∧ Below W.heap.size W w' := by
  have hM : seM c0F d0F 1 2 = 2 := seM_is _ _ _ _ ⟨opB_t ⟨by decide, fun j _ => (show oiB (⟨4, 5⟩ : OI2) = true by decide)⟩, opB_t ⟨by decide, fun j _ => by unfold d0F; split <;> decide⟩⟩ one_isM
  refine (implSettle_any _ _ 1 2 1 2 c0F d0F _ (by decide) (by decide) (OIr.of_block ((CB.new _ _).alloc _) 1 _ (fun j hj => by obtain rfl : j = 0 := (by omega); exact ⟨rfl, rfl⟩)) (OIr.of_block (CB.newAt (by simp) _ _) 2 _ (fun j hj => by have : j = 0 ∨ j = 1 := (by omega); rcases this with rfl | rfl <;> exact ⟨rfl, rfl⟩))).mono ?_
  rintro e w' ⟨ad, cap, rfl, ho, hb⟩
  rw [hM] at ho ⊢
  rcases ho with h | ⟨g, cs, rfl, hlo, hcb, hsz, hcl⟩
  · cases h
  · obtain ⟨a0, a1, a2⟩ := hcl 0 (by omega)
    obtain ⟨b0, b1, b2⟩ := hcl 1 (by omega)
    refine ⟨g, cap, rfl, ?_, ?_, ?_, bel_on (((Below.refl _ _).alloc (Nat.le_refl _) _).alloc (by simp) _) hb⟩
    · rw [hcb.cell]; exact a1.trans (by congr 1)
    · rw [hcb.cell]; exact a2.trans (by congr 1)
    · rw [hcb.cell]; exact b2.trans (by congr 1)
theorem cell_oth {w : World} {a b o p : Nat} {u v : Value} (h : b ≠ a) (hc : w.cell? ⟨b, o, none⟩ = some v) : (w.setCell ⟨a, p, none⟩ u).drew.cell? ⟨b, o, none⟩ = some v := by
  have e : (w.setCell ⟨a, p, none⟩ u).drew.heap[b]? = w.heap[b]? := Below.heap_setCell _ _ _ _ (by simpa using h)
  rw [World.cell?_of_block (w := w) e]; exact hc
theorem IB.dr {w : World} {b n : Nat} {z : Nat → Int} (H : IB w b n z) : IB w.drew b n z := H
end Go.Proofs.Ytnglofgcckdbmaa
