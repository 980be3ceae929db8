/- DrawTaxOf: what TaxOf is tried at. -/
import Derived.Test.YtbhghghkgojpgaaXs
import Derived.Test.YtbhghghkgojpgaaXf
import Derived.Test.YtbhghghkgojpgaaXe
import Derived.Test.YtbhghghkgojpgaaXm
import Derived.Test.YtbhghghkgojpgaaWA
namespace Go.Proofs.Ytbhghghkgojpgaa
open Go Go.ChangeShapes Go.WideShapes Go.ChangeAt Go.RowKit
set_option linter.unusedVariables false
set_option linter.unusedSimpArgs false

theorem STR.kept {W W' : World} {ad : Option Addr} {len : Nat} {z : Nat → ByteArray} (H : STR W ad len z) (hs : W.heap.size ≤ W'.heap.size) (h : ∀ q off, ad = some ⟨q, off, none⟩ → q < W.heap.size → W'.heap[q]? = W.heap[q]?) : STR W' ad len z := by
  rcases H with h0 | ⟨k, off, e, hk, hc⟩
  · exact .inl h0
  · exact .inr ⟨k, off, e, Nat.lt_of_lt_of_le hk hs, fun j hj => by rw [World.cell?_of_block (w := W) (h k off e hk)]; exact hc j hj⟩
/-- What was drawn so far. -/
structure FW (b : Nat) (w : World) (g k : Nat) (c : Nat → T5) (sa : Option Addr) (m : Nat) (z : Nat → ByteArray) (fa : Option Addr) (f : Nat) (zf : Nat → ByteArray) (W : World) : Prop where
  cur : Cursor W b
  bel : Below w.heap.size w W
  tr : TR W (some ⟨g, 0, none⟩) k c
  st : STR W sa m z
  sf : STR W fa f zf
  wb : w.heap.size ≤ b
  n1 : g ≠ b
  n2 : ∀ q off, sa = some ⟨q, off, none⟩ → q ≠ b
  n3 : ∀ q off, fa = some ⟨q, off, none⟩ → q ≠ b
section
variable {b : Nat} {w W W' : World} {g k m f : Nat} {c : Nat → T5} {sa fa : Option Addr} {z zf : Nat → ByteArray}
theorem FW.moved (h : FW b w g k c sa m z fa f zf W) (mv : Moved b W W') : FW b w g k c sa m z fa f zf W' :=
  ⟨mv.1, h.bel.trans (mv.2.below h.wb (Nat.le_trans h.wb (Nat.le_of_lt h.cur.lt))), h.tr.kept mv.2.size (fun q off e hq => mv.2.block q hq (by simp at e; obtain ⟨rfl, _⟩ := e; exact h.n1)), h.st.kept mv.2.size (fun q off e hq => mv.2.block q hq (h.n2 q off e)), h.sf.kept mv.2.size (fun q off e hq => mv.2.block q hq (h.n3 q off e)), h.wb, h.n1, h.n2, h.n3⟩
end

theorem FW.app {b : Nat} {w W w9 : World} {g k m F : Nat} {c : Nat → T5} {sa fA : Option Addr} {fC : Nat} {z : Nat → ByteArray} {cd : ByteArray} {o : Obj} (h : FW b w g k c sa m z (some ⟨F, 0, none⟩) 0 (fun _ => ByteArray.empty) W) (hq : b < F ∧ g < F ∧ ∀ q off, sa = some ⟨q, off, none⟩ → q < F) (hg : (W.alloc o).grownBy w9 (Value.slice (some ⟨F, 0, none⟩) 0 0).ownBlock) (hown : w9.ownsRow F 9 1 (.slice fA 1 fC) 1 (flS (fun _ => cd) 1)) : FW b w g k c sa m z fA 1 (fun _ => cd) w9 := by
  have hge : ∀ q, (Value.slice (some (⟨F, 0, none⟩ : Addr)) 0 0).ownBlock = some q → q = F := fun q hq => by simpa [Value.ownBlock] using hq.symm
  have hwb := h.wb
  have hcl := h.cur.lt
  refine ⟨(h.cur.alloc o).grown hg (fun q e => by have := hge q e; omega), bel_grown (h.bel.alloc (by omega) o) (Nat.le_refl _) hg (fun q e => by have := hge q e; omega), (TR.alloc h.tr o).kept hg.size (fun q off e hqq => hg.block q hqq (fun e2 => by have := hge q e2.symm; first | omega | (simp at e <;> omega))), (h.st.below ((Below.refl _ _).alloc (Nat.le_refl _) o)).kept hg.size (fun q off e hqq => hg.block q hqq (fun e2 => by have := hge q e2.symm; have := hq.2.2 q off e; omega)), row_STR hown, hwb, h.n1, h.n2, fun q off e => by subst e; have := (hown.lt q rfl).1; omega⟩

set_option maxRecDepth 20000 in
set_option maxHeartbeats 8000000 in
theorem drawTaxOf_any (ad : Option Addr) (len cap : Nat) (w : World) (hl : len ≤ 9223372036854775000) (hr : ByteRow w w.heap.size ad len) :
    Calls Try.prog 9 #[.slice ad len cap] w (TwD w) := by
  obtain ⟨i0, hi, hz0, hz1, hz2⟩ := info9
  have HR : Hid (ByteRow w w.heap.size ad len) := hr
  obtain ⟨b, hb⟩ : ∃ b, w.heap.size = b := ⟨_, rfl⟩
  have HBE : Hid (w.heap.size = b) := hb
  clear hr hb
  have tk1 : True := trivial
  have tk2 : True := trivial
  go_enter Try.func9, Try.ntmps9
  go_wp2_with (first | (go_at_call 36; refine (new_any _ _ _ _ hl HR.out).mono ?_; rintro e w1 ⟨rfl, hc1, b1⟩; rw [HBE.out] at hc1 ⊢; have HB1 : Hid (Below b w w1) := (by have := b1; rw [HBE.out] at this; exact this); have HC1 : Hid (Cursor w1 b) := hc1; clear hc1 b1) | (go_at_call 38; refine (drawRules_any b _ HC1.out).mono ?_; rintro e w2 ⟨g2, k2, oc2, c2, rfl, hk2, rw2⟩; have R2 : Hid (RW b b w1 w1.heap.size g2 k2 oc2 c2 w2) := rw2; clear rw2) | (go_at_call 37; refine (spoilRules_any b b w1 _ w1.heap.size g2 k2 oc2 c2 hk2 R2.out).mono ?_; rintro e w3 ⟨g, k, oc, c, rfl, hk7, hkoc, t3, s3, cu3, be3, hg1, hg2⟩; have HS3 : Hid (∀ j, (c j).code.size ≤ 60) := s3; have H3 : Hid (TR w3 (some ⟨g, 0, none⟩) k c ∧ Cursor w3 b ∧ Below b w w3) := ⟨t3, cu3, HB1.out.trans be3⟩; have HGB : Hid (b < g ∧ g < w3.heap.size) := ⟨by have := HC1.out.lt; omega, hg2⟩; clear t3 s3 cu3 be3 hg1 hg2) | (go_at_call 39; refine (drawCodes_any b b _ _ _ c _ H3.out.2.1 (Nat.le_refl _) (by omega) H3.out.1 (fun q off e => by simp at e; obtain ⟨rfl, _⟩ := e; have := HGB.out; exact ⟨by omega, this.2⟩)).mono ?_; rintro e w4 ⟨sa, m, sc, z, rfl, hm8, cw4⟩; have hmsc : m ≤ sc := (by rcases cw4.own.2 with ⟨e, h0⟩ | ⟨g', cap', cur, e, _, _, h1, _⟩; (simp only [Value.slice.injEq] at e; omega); (simp only [Value.slice.injEq] at e; omega)); have F4 : Hid (FW b w g k c sa m z (some ⟨w4.heap.size, 0, none⟩) 0 (fun _ => ByteArray.empty) (w4.alloc (.cells #[] 9 (0, 0)))) := hid ⟨cw4.cur.alloc _, (by rw [HBE.out]; exact (H3.out.2.2.trans cw4.bel).alloc (by have := cw4.cur.lt; omega) _), TR.alloc cw4.tr _, (row_STR cw4.own).below ((Below.refl _ _).alloc (Nat.le_refl _) _), .inl rfl, by rw [HBE.out]; exact Nat.le_refl _, by have := HGB.out.1; omega, fun q off e => by subst e; have := (cw4.own.lt q rfl).1; have := H3.out.2.1.lt; omega, fun q off e => by simp at e; have := cw4.cur.lt; omega⟩; have HQ4 : Hid (b < w4.heap.size ∧ g < w4.heap.size ∧ ∀ q off, sa = some ⟨q, off, none⟩ → q < w4.heap.size) := hid ⟨cw4.cur.lt, (by have h1 := HGB.out.2; have h2 := cw4.bel.size; omega), fun q off e => by subst e; exact (cw4.own.lt q rfl).2⟩; clear cw4) | (go_at_call 40; refine (once_any b _ _ F4.out.cur).mono ?_; rintro e w5 ⟨xo, rfl, m5⟩; have F5 : Hid (FW b w g k c sa m z (some ⟨w4.heap.size, 0, none⟩) 0 (fun _ => ByteArray.empty) w5) := F4.out.moved m5; have CE5 : CB w5 w4.heap.size #[] 9 := CB.turns (CB.new _ _) m5.2 (by have := F4.out.n3 _ _ rfl; exact this); have HCE : Hid (CB w5 w4.heap.size #[] 9) := CE5; clear m5 CE5; cases xo))
  · go_wp2_with (first | (go_at_call 43; refine (dAmount_any b _ F5.out.cur).mono ?_; rintro e w7 ⟨pr, rfl, p0, p1, m7⟩; have F7 : Hid (FW b w g k c sa m z (some ⟨w4.heap.size, 0, none⟩) 0 (fun _ => ByteArray.empty) w7) := F5.out.moved m7; clear m7) | (go_at_call 42; refine (dBad_any b _ _ F7.out.cur).mono ?_; rintro e w8 ⟨pz, rfl, hpz, m8⟩; have HPZ : Hid (-9223372036854775808 ≤ pz ∧ pz ≤ 9223372036854775807) := hid (by rcases hpz with rfl | rfl | rfl | rfl | rfl <;> omega); have F8 : Hid (FW b w g k c sa m z (some ⟨w4.heap.size, 0, none⟩) 0 (fun _ => ByteArray.empty) w8) := F7.out.moved m8; clear m8 hpz) | (go_at_call 41; refine (below_any b _ _ F8.out.cur).mono ?_; rintro e w9 ⟨dd, rfl, _, _, _, m9⟩; have F9 : Hid (FW b w g k c sa m z (some ⟨w4.heap.size, 0, none⟩) 0 (fun _ => ByteArray.empty) w9) := F8.out.moved m9; clear m9) | (go_at_call 44; refine (pick_any b _ [0, 100, 300, 301, 500, dd, -1] _ _ _ (F9.out.cur.alloc _) (IntRow.made F9.out.cur.lt _ _ _ rfl) rfl (by simp) (by simp)).mono ?_; rintro e w10 ⟨dy, rfl, _, m10⟩; have F10 : Hid (FW b w g k c sa m z (some ⟨w4.heap.size, 0, none⟩) 0 (fun _ => ByteArray.empty) w10) := F9.out.moved (turns_new m10); clear m10))
    go_returns
    exact ⟨_, k, oc, c, sa, m, sc, z, _, 0, _, _, pz, dy, rfl, ⟨hkoc, hmsc, by omega, by omega, by simp⟩, fun j => by have := HS3.out j; unfold maxLen; omega, HPZ.out, F10.out.tr, F10.out.st, F10.out.sf, F10.out.bel⟩
  · obtain ⟨qb, qo, rfl, hqb⟩ := F5.out.st.addr (by omega)
    go_wp2_with (first | (go_at_call 41; clear tk1; refine (below_any b _ _ F5.out.cur).mono ?_; rintro e w6 ⟨x, rfl, x0, x1, _, m6⟩; have x2 := x1 (by omega); obtain ⟨i, rfl⟩ : ∃ i : Nat, x = (i : Int) := ⟨x.toNat, by omega⟩; have F6 : Hid (FW b w g k c (some ⟨qb, qo, none⟩) m z (some ⟨w4.heap.size, 0, none⟩) 0 (fun _ => ByteArray.empty) w6) := F5.out.moved m6; have HCE6 : Hid (CB w6 w4.heap.size #[] 9) := CB.turns HCE.out m6.2 (F5.out.n3 _ _ rfl); have u0 := F6.out.st.cell (j := i) (by omega); obtain ⟨cd, hcd⟩ : ∃ y, z i = y := ⟨_, rfl⟩; rw [hcd] at u0; clear m6 x1 x0 hcd) | (at_builtin; go_loud (refine wpList_append_own_at _ rfl _ _ 25 rfl w4.heap.size 9 i0 (.string ByteArray.empty) 1 16 Try.underlying25 hi hz0 hz1 hz2 rfl (by decide) (.slice (some ⟨w4.heap.size, 0, none⟩) 0 0) 0 [] rfl (show (w6.alloc (.cells #[.string cd] 9 (0, 0))).ownsRow w4.heap.size 9 1 (.slice (some ⟨w4.heap.size, 0, none⟩) 0 0) 0 [] from ⟨rfl, .inr ⟨w4.heap.size, 0, #[], rfl, Nat.le_refl _, HCE6.out.alloc _, Nat.le_refl _, Nat.zero_le _, rfl, rfl⟩⟩) ⟨w6.heap.size, 0, none⟩ 1 1 [.string cd] rfl rfl (acells_at rfl) (fun u hu => by simp at hu; subst hu; rfl) (by unfold maxLen; omega) (by omega) (by have := HCE6.out.lt; (try simp); omega) ?_); intro v9 wA hown hgrow hnil hat; obtain ⟨fA, fC, rfl⟩ := arow_form hown; have hlo : ∀ q, (Value.slice (some (⟨w4.heap.size, 0, none⟩ : Addr)) 0 0).ownBlock = some q → q = w4.heap.size := (fun q hq => by simpa [Value.ownBlock] using hq.symm); have FA : Hid (FW b w g k c (some ⟨qb, qo, none⟩) m z fA 1 (fun _ => cd) wA) := hid (FW.app F6.out HQ4.out hgrow (by simpa [flS] using hown)); clear hown hgrow hnil hat hlo) | (go_at_call 43; refine (dAmount_any b _ FA.out.cur).mono ?_; rintro e w7 ⟨pr, rfl, p0, p1, m7⟩; have F7 : Hid (FW b w g k c (some ⟨qb, qo, none⟩) m z fA 1 (fun _ => cd) w7) := FA.out.moved m7; clear m7) | (go_at_call 42; refine (dBad_any b _ _ F7.out.cur).mono ?_; rintro e w8 ⟨pz, rfl, hpz, m8⟩; have HPZ : Hid (-9223372036854775808 ≤ pz ∧ pz ≤ 9223372036854775807) := hid (by rcases hpz with rfl | rfl | rfl | rfl | rfl <;> omega); have F8 : Hid (FW b w g k c (some ⟨qb, qo, none⟩) m z fA 1 (fun _ => cd) w8) := F7.out.moved m8; clear m8 hpz) | (go_at_call 41; refine (below_any b _ _ F8.out.cur).mono ?_; rintro e w9 ⟨dd, rfl, _, _, _, m9⟩; have F9 : Hid (FW b w g k c (some ⟨qb, qo, none⟩) m z fA 1 (fun _ => cd) w9) := F8.out.moved m9; clear m9) | (go_at_call 44; refine (pick_any b _ [0, 100, 300, 301, 500, dd, -1] _ _ _ (F9.out.cur.alloc _) (IntRow.made F9.out.cur.lt _ _ _ rfl) rfl (by simp) (by simp)).mono ?_; rintro e w10 ⟨dy, rfl, _, m10⟩; have F10 : Hid (FW b w g k c (some ⟨qb, qo, none⟩) m z fA 1 (fun _ => cd) w10) := F9.out.moved (turns_new m10); clear m10))
    go_returns
    exact ⟨_, k, oc, c, _, m, sc, z, _, 1, _, _, pz, dy, rfl, ⟨hkoc, hmsc, by omega, by omega, by simp⟩, fun j => by have := HS3.out j; unfold maxLen; omega, HPZ.out, F10.out.tr, F10.out.st, F10.out.sf, F10.out.bel⟩
  · go_wp2_with (first | (go_at_call 43; refine (dAmount_any b _ F5.out.cur).mono ?_; rintro e w7 ⟨pr, rfl, p0, p1, m7⟩; have F7 : Hid (FW b w g k c sa m z (some ⟨w4.heap.size, 0, none⟩) 0 (fun _ => ByteArray.empty) w7) := F5.out.moved m7; clear m7) | (go_at_call 42; refine (dBad_any b _ _ F7.out.cur).mono ?_; rintro e w8 ⟨pz, rfl, hpz, m8⟩; have HPZ : Hid (-9223372036854775808 ≤ pz ∧ pz ≤ 9223372036854775807) := hid (by rcases hpz with rfl | rfl | rfl | rfl | rfl <;> omega); have F8 : Hid (FW b w g k c sa m z (some ⟨w4.heap.size, 0, none⟩) 0 (fun _ => ByteArray.empty) w8) := F7.out.moved m8; clear m8 hpz) | (go_at_call 41; refine (below_any b _ _ F8.out.cur).mono ?_; rintro e w9 ⟨dd, rfl, _, _, _, m9⟩; have F9 : Hid (FW b w g k c sa m z (some ⟨w4.heap.size, 0, none⟩) 0 (fun _ => ByteArray.empty) w9) := F8.out.moved m9; clear m9) | (go_at_call 44; refine (pick_any b _ [0, 100, 300, 301, 500, dd, -1] _ _ _ (F9.out.cur.alloc _) (IntRow.made F9.out.cur.lt _ _ _ rfl) rfl (by simp) (by simp)).mono ?_; rintro e w10 ⟨dy, rfl, _, m10⟩; have F10 : Hid (FW b w g k c sa m z (some ⟨w4.heap.size, 0, none⟩) 0 (fun _ => ByteArray.empty) w10) := F9.out.moved (turns_new m10); clear m10))
    go_returns
    exact ⟨_, k, oc, c, sa, m, sc, z, _, 0, _, _, pz, dy, rfl, ⟨hkoc, hmsc, by omega, by omega, by simp⟩, fun j => by have := HS3.out j; unfold maxLen; omega, HPZ.out, F10.out.tr, F10.out.st, F10.out.sf, F10.out.bel⟩
end Go.Proofs.Ytbhghghkgojpgaa
