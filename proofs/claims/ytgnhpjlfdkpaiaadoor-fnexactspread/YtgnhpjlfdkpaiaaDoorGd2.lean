/- The model's copies of an entry, of a row of entries and of a ledger. The model's copies of a row of entries and of a ledger. -/
import Derived.Test.YtgnhpjlfdkpaiaaDoorGa
import Derived.Test.YtgnhpjlfdkpaiaaDoorLt
import Derived.Test.YtgnhpjlfdkpaiaaDoorLl
import Derived.Test.YtgnhpjlfdkpaiaaDoorAo
import Derived.Test.YtgnhpjlfdkpaiaaDoorFm
namespace Go.Proofs.YtgnhpjlfdkpaiaaDoor
open Go Go.ChangeShapes Go.WideShapes Go.ChangeAt Go.RowKit
set_option linter.unusedVariables false
set_option linter.unusedSimpArgs false

set_option maxRecDepth 100000 in
theorem infoL : ∃ i, Tryd.prog.info? 56 = some i ∧ i.zero = some (.agg #[.int .i64 0, .int .i64 0, .int .i64 0, .int .i64 0, .int .i64 0]) ∧ i.size = 5 ∧ i.bytes = 40 := by
  obtain ⟨i0, hi⟩ : ∃ i, Tryd.prog.info? 56 = some i := ⟨_, rfl⟩
  have hz0 : i0.zero = some (.agg #[.int .i64 0, .int .i64 0, .int .i64 0, .int .i64 0, .int .i64 0]) := by
    have : (Tryd.prog.info? 56).bind (·.zero) = some (.agg #[.int .i64 0, .int .i64 0, .int .i64 0, .int .i64 0, .int .i64 0]) := by kernel_rfl
    rw [hi] at this; exact this
  have hz1 : i0.size = 5 := by
    have : (Tryd.prog.info? 56).map (·.size) = some 5 := by kernel_rfl
    rw [hi] at this; simpa using this
  have hz2 : i0.bytes = 40 := by
    have : (Tryd.prog.info? 56).map (·.bytes) = some 40 := by kernel_rfl
    rw [hi] at this; simpa using this
  exact ⟨i0, hi, hz0, hz1, hz2⟩
set_option maxRecDepth 100000 in
theorem infoE : ∃ i, Tryd.prog.info? 32 = some i ∧ i.zero = some (.agg #[.int .i64 0, .int .i64 0, .string ByteArray.empty, .slice none 0 0]) ∧ i.size = 4 ∧ i.bytes = 56 := by
  obtain ⟨i0, hi⟩ : ∃ i, Tryd.prog.info? 32 = some i := ⟨_, rfl⟩
  have hz0 : i0.zero = some (.agg #[.int .i64 0, .int .i64 0, .string ByteArray.empty, .slice none 0 0]) := by
    have : (Tryd.prog.info? 32).bind (·.zero) = some (.agg #[.int .i64 0, .int .i64 0, .string ByteArray.empty, .slice none 0 0]) := by kernel_rfl
    rw [hi] at this; exact this
  have hz1 : i0.size = 4 := by
    have : (Tryd.prog.info? 32).map (·.size) = some 4 := by kernel_rfl
    rw [hi] at this; simpa using this
  have hz2 : i0.bytes = 56 := by
    have : (Tryd.prog.info? 32).map (·.bytes) = some 56 := by kernel_rfl
    rw [hi] at this; simpa using this
  exact ⟨i0, hi, hz0, hz1, hz2⟩

theorem LR.of_take {w : World} {g n : Nat} {cur : Array Value} {t : TypeId} {ls : Nat → L5} (h : CB w g cur t) (ht : cur.toList.take (n * 5) = rowC ls n) : LR w (some ⟨g, 0, none⟩) n ls := by
  refine LR.of_block h n ls fun j hj => ?_
  have h2 := rowC_get ls n j hj
  unfold Cells5 at h2 ⊢
  simp only [List.getElem?_toArray, ← ht] at h2
  obtain ⟨a, b, c, d, e⟩ := h2
  rw [List.getElem?_take] at a b c d e
  rw [if_pos (by omega)] at a b c d e
  exact ⟨by simpa using a, by simpa using b, by simpa using c, by simpa using d, by simpa using e⟩
theorem rowC_any {w : World} {a : Addr} {n : Nat} {ls : Nat → L5} (h : LR w (some a) n ls) : ∀ j v, (rowC ls n)[j]? = some v → w.cell? (a.add j) = some v := by
  by_cases h0 : n = 0
  · subst h0; intro j v hv; simp [rowC] at hv
  · obtain ⟨k, off, e, _⟩ := h.addr (by omega)
    cases e
    exact rowC_src h n (Nat.le_refl _)
theorem CB.grownB {w w' : World} {row : Option Nat} {b : Nat} {cs : Array Value} {t : TypeId} (h : CB w b cs t) (g : w.grownBy w' row) (hb : some b ≠ row) : CB w' b cs t := by
  unfold CB at h ⊢; rw [g.block b (lt_of_block h) hb]; exact h
theorem below_grown {B : Nat} {A w w' : World} {row : Option Nat} (h : Below B A w) (hA : B ≤ A.heap.size) (g : w.grownBy w' row) (hr : ∀ r, row = some r → B ≤ r) : Below B A w' :=
  h.trans ⟨g.os, g.tape, g.output, g.size, fun k hk => g.block k (Nat.lt_of_lt_of_le hk (Nat.le_trans hA h.size)) (fun e => by have := hr k e.symm; omega)⟩

theorem app_row {w5 : World} {base n : Nat} {t : TypeId} {v v' : Value} {ls : Nat → L5} {RS : List Value} {a0 : Addr} {c0 : Nat} (hv : v = .slice (some a0) 0 c0) (hRS : RS = rowC ls n) (h : w5.ownsRow base t 5 v' (0 + n) ([] ++ RS)) (hnil : v' = .slice none 0 0 ↔ v = .slice none 0 0 ∧ n = 0) :
    ∃ g cp, v' = .slice (some ⟨g, 0, none⟩) n cp ∧ base ≤ g ∧ LR w5 (some ⟨g, 0, none⟩) n ls := by
  rcases h.2 with ⟨e, _⟩ | ⟨g, cp, cur, e, hb, hg, _, _, _, ht⟩
  · exact absurd (hnil.1 e).1 (by rw [hv]; simp)
  rw [Nat.zero_add] at e ht
  rw [List.nil_append, hRS] at ht
  exact ⟨g, cp, e, hb, LR.of_take hg ht⟩

set_option maxRecDepth 20000 in
set_option maxHeartbeats 2000000 in
theorem l5Entry_any (d r : Int) (s : ByteArray) (a : Addr) (n cap : Nat) (ls : Nat → L5) (w : World) (h : (n : Int) ≤ 1048576) (hr : LR w (some a) n ls) :
    Calls Tryd.prog 66 #[.agg #[.int .i64 d, .int .i64 r, .string s, .slice (some a) n cap]] w fun e w' => ∃ b c, e = .returned (.agg #[.int .i64 d, .int .i64 r, .string s, .slice (some ⟨b, 0, none⟩) n c]) ∧ w.heap.size ≤ b ∧ LR w' (some ⟨b, 0, none⟩) n ls ∧ Below w.heap.size w w' := by
  obtain ⟨i0, hi, hz0, hz1, hz2⟩ := infoL
  have HBA : Hid (Below w.heap.size w (((w.alloc (.cells #[.int .i64 d, .int .i64 r, .string s, .slice (some a) n cap] 32 (0, 0))).alloc (.cells #[.int .i64 0, .int .i64 0, .string ⟨#[]⟩, .slice none 0 0] 32 (0, 0))).alloc (.cells #[] 56 (0, 0)))) := ((((Below.refl _ _).alloc (Nat.le_refl _) _).alloc (by simp) _).alloc (by simp; omega) _)
  have HSRC : Hid (∀ j v, (rowC ls n)[j]? = some v → (((w.alloc (.cells #[.int .i64 d, .int .i64 r, .string s, .slice (some a) n cap] 32 (0, 0))).alloc (.cells #[.int .i64 0, .int .i64 0, .string ⟨#[]⟩, .slice none 0 0] 32 (0, 0))).alloc (.cells #[] 56 (0, 0))).cell? (a.add j) = some v) := rowC_any (hr.below HBA.out)
  have HC0 : Hid (CB (((w.alloc (.cells #[.int .i64 d, .int .i64 r, .string s, .slice (some a) n cap] 32 (0, 0))).alloc (.cells #[.int .i64 0, .int .i64 0, .string ⟨#[]⟩, .slice none 0 0] 32 (0, 0))).alloc (.cells #[] 56 (0, 0))) w.heap.size #[.int .i64 d, .int .i64 r, .string s, .slice (some a) n cap] 32) := ((CB.new _ _).alloc _).alloc _
  have HC1 : Hid (CB (((w.alloc (.cells #[.int .i64 d, .int .i64 r, .string s, .slice (some a) n cap] 32 (0, 0))).alloc (.cells #[.int .i64 0, .int .i64 0, .string ⟨#[]⟩, .slice none 0 0] 32 (0, 0))).alloc (.cells #[] 56 (0, 0))) (w.heap.size + 1) #[.int .i64 0, .int .i64 0, .string ⟨#[]⟩, .slice none 0 0] 32) := (CB.newAt (by simp) _ _).alloc _
  have HOWN : Hid ((((w.alloc (.cells #[.int .i64 d, .int .i64 r, .string s, .slice (some a) n cap] 32 (0, 0))).alloc (.cells #[.int .i64 0, .int .i64 0, .string ⟨#[]⟩, .slice none 0 0] 32 (0, 0))).alloc (.cells #[] 56 (0, 0))).ownsRow (w.heap.size + 1 + 1) 56 5 (.slice (some ⟨w.heap.size + 1 + 1, 0, none⟩) 0 0) 0 []) := ⟨rfl, .inr ⟨w.heap.size + 1 + 1, 0, #[], rfl, Nat.le_refl _, CB.newAt (by simp) _ _, Nat.le_refl _, Nat.zero_le _, rfl, rfl⟩⟩
  obtain ⟨RS, hRS⟩ : ∃ RS : List Value, RS = rowC ls n := ⟨_, rfl⟩
  have HL : Hid (RS.length = n * 5) := by rw [hRS]; exact rowC_len ls n
  have H1 : Hid (∀ v ∈ RS, v.oneCell' = true) := by rw [hRS]; exact rowC_one ls n
  have HRS : Hid (RS = rowC ls n) := hRS
  rw [← hRS] at HSRC
  clear hr hRS
  go_enter Tryd.func66, Tryd.ntmps66
  go_wp2_with (at_builtin; go_loud (refine wpList_append_own_at _ rfl _ _ 30 rfl (w.heap.size + 1 + 1) 56 i0 (.agg #[.int .i64 0, .int .i64 0, .int .i64 0, .int .i64 0, .int .i64 0]) 5 40 Tryd.underlying30 hi hz0 hz1 hz2 rfl (by decide) (.slice (some ⟨w.heap.size + 1 + 1, 0, none⟩) 0 0) 0 [] rfl HOWN.out a n cap RS rfl HL.out HSRC.out H1.out (by unfold maxLen; omega) (by omega) (by simp) ?_); intro v' w5 hown hgrow hnil hat; have C0 : CB w5 w.heap.size #[.int .i64 d, .int .i64 r, .string s, .slice (some a) n cap] 32 := HC0.out.grownB hgrow (by simp [Value.ownBlock]; try omega); have C1 : CB w5 (w.heap.size + 1) #[.int .i64 0, .int .i64 0, .string ⟨#[]⟩, .slice none 0 0] 32 := HC1.out.grownB hgrow (by simp [Value.ownBlock]; try omega); have B5 : Below w.heap.size w w5 := below_grown HBA.out (Nat.le_refl _) hgrow (fun r e => by simp [Value.ownBlock] at e; omega); obtain ⟨g, cp, rfl, hb, hlr⟩ := app_row rfl HRS.out hown hnil; have HLR : Hid (LR w5 (some ⟨g, 0, none⟩) n ls) := hlr; have k0 : w5.cell? ⟨w.heap.size, 0, none⟩ = some (.int .i64 d) := (C0.cell 0).trans rfl; have k1 : w5.cell? ⟨w.heap.size, 1, none⟩ = some (.int .i64 r) := (C0.cell 1).trans rfl; have k2 : w5.cell? ⟨w.heap.size, 2, none⟩ = some (.string s) := (C0.cell 2).trans rfl; have k3 : w5.cell? ⟨w.heap.size, 3, none⟩ = some (.slice (some a) n cap) := (C0.cell 3).trans rfl; have f3 := C0.fr 3; have m0 : w5.cell? ⟨w.heap.size + 1, 0, none⟩ = some (.int .i64 0) := (C1.cell 0).trans rfl; have m1 : w5.cell? ⟨w.heap.size + 1, 1, none⟩ = some (.int .i64 0) := (C1.cell 1).trans rfl; have m2 : w5.cell? ⟨w.heap.size + 1, 2, none⟩ = some (.string ⟨#[]⟩) := (C1.cell 2).trans rfl; have m3 : w5.cell? ⟨w.heap.size + 1, 3, none⟩ = some (.slice none 0 0) := (C1.cell 3).trans rfl; have g0 := C1.fr 0; have g1 := C1.fr 1; have g2 := C1.fr 2; have g3 := C1.fr 3; have HD1 : Hid (CB w5 (w.heap.size + 1) #[.int .i64 0, .int .i64 0, .string ⟨#[]⟩, .slice none 0 0] 32) := C1; have HB : Hid (Below w.heap.size w w5) := B5; clear C0 C1 B5 hown hgrow hnil hat hlr)
  have hX := ((((HD1.out.other (c := w.heap.size) (o := 3) (.slice (some ⟨g, 0, none⟩) n cp) (by omega)).set 0 (.int .i64 d)).set 1 (.int .i64 r)).set 2 (.string s)).set 3 (.slice (some ⟨g, 0, none⟩) n cp)
  have hY := ((((HLR.out.other (c := w.heap.size) (o := 3) (.slice (some ⟨g, 0, none⟩) n cp) (by omega)).other (c := w.heap.size + 1) (o := 0) (.int .i64 d) (by omega)).other (c := w.heap.size + 1) (o := 1) (.int .i64 r) (by omega)).other (c := w.heap.size + 1) (o := 2) (.string s) (by omega)).other (c := w.heap.size + 1) (o := 3) (.slice (some ⟨g, 0, none⟩) n cp) (by omega)
  have hZ := ((((HB.out.setCell (p := ⟨w.heap.size, 3, none⟩) (by simp) (.slice (some ⟨g, 0, none⟩) n cp)).setCell (p := ⟨w.heap.size + 1, 0, none⟩) (by simp) (.int .i64 d)).setCell (p := ⟨w.heap.size + 1, 1, none⟩) (by simp) (.int .i64 r)).setCell (p := ⟨w.heap.size + 1, 2, none⟩) (by simp) (.string s)).setCell (p := ⟨w.heap.size + 1, 3, none⟩) (by simp) (.slice (some ⟨g, 0, none⟩) n cp)
  have e0 := hX.cell 0
  have e1 := hX.cell 1
  have e2 := hX.cell 2
  have e3 := hX.cell 3
  simp at e0 e1 e2 e3
  clear hX k0 k1 k2 k3 m0 m1 m2 m3 f3 g0 g1 g2 g3 HD1 HB HLR
  generalize (World.setCell _ _ _) = W5 at e0 e1 e2 e3 hY hZ ⊢
  refine bodyPost_ret (by simp [results, Tryd.results66, go_sem, e0, e1, e2, e3]; try rfl) rfl ?_
  exact ⟨_, _, rfl, by omega, hY, hZ⟩

end Go.Proofs.YtgnhpjlfdkpaiaaDoor


namespace Go.Proofs.YtgnhpjlfdkpaiaaDoor
open Go Go.ChangeShapes Go.WideShapes Go.ChangeAt Go.RowKit
set_option linter.unusedVariables false
set_option linter.unusedSimpArgs false

theorem SE.lt {w : World} {base : Nat} {t : TypeId} {v : Value} {k : Nat} {es : Nat → E4} {A : Nat → Option Addr} {C : Nat → Nat} (h : SE w base t v k es A C) : ∀ g, v.ownBlock = some g → base ≤ g ∧ g < w.heap.size := fun g hg => h.1.lt g hg
theorem SE.start (w : World) (t : TypeId) (es : Nat → E4) : SE (w.alloc (.cells #[] t (0, 0))) w.heap.size t (.slice (some ⟨w.heap.size, 0, none⟩) 0 0) 0 es (fun _ => none) (fun _ => 0) :=
  ⟨⟨rfl, .inr ⟨w.heap.size, 0, #[], rfl, Nat.le_refl _, CB.new _ _, Nat.le_refl _, Nat.zero_le _, rfl, rfl⟩⟩, fun j hj => by omega⟩

theorem SE.mono {w : World} {base base' : Nat} {t : TypeId} {v : Value} {k : Nat} {es : Nat → E4} {A : Nat → Option Addr} {C : Nat → Nat} (h : SE w base t v k es A C) (hb : base' ≤ base) : SE w base' t v k es A C := by
  refine ⟨⟨h.1.1, ?_⟩, fun j hj => ⟨(h.2 j hj).1, ?_⟩⟩
  · rcases h.1.2 with h2 | ⟨g, cap, cur, e, hg, rest⟩
    · exact .inl h2
    · exact .inr ⟨g, cap, cur, e, by omega, rest⟩
  · rcases (h.2 j hj).2 with h2 | h2
    · exact .inl h2
    · exact .inr fun b o q e => ⟨(h2 b o q e).1, by have := (h2 b o q e).2; omega⟩

set_option maxRecDepth 20000 in
set_option maxHeartbeats 4000000 in
theorem l5Entries_any (B m n cap : Nat) (es : Nat → E4) (bl : Nat → Nat) (w : World) (h : (n : Int) ≤ 1048576) (hn : ∀ j, j < n → ((es j).n : Int) ≤ 1048576) (hO : OwnE w B m n es bl 32 56) :
    Calls Tryd.prog 117 #[.slice (some ⟨B, 0, none⟩) n cap] w fun e w' => ∃ ad c A C, e = .returned (.slice ad n c) ∧ SE w' w.heap.size 32 (.slice ad n c) n es A C ∧ Below w.heap.size w w' := by
  obtain ⟨i0, hi, hz0, hz1, hz2⟩ := infoE
  have HO : Hid (OwnE w B m n es bl 32 56) := hO
  have HN : Hid (∀ j, j < n → ((es j).n : Int) ≤ 1048576) := hn
  clear hO hn
  go_enter Tryd.func117, Tryd.ntmps117
  go_wp2
  go_loopw [3, 4] (fun u i wr => ∃ (k : Nat) (A : Nat → Option Addr) (C : Nat → Nat), k ≤ n ∧ i = .int .i64 (k : Int) ∧ SE wr w.heap.size 32 u k es A C ∧ Below w.heap.size w wr) (fun u i _ => n - (intOf i).toNat)
  case atStart => exact ⟨0, _, _, Nat.zero_le _, rfl, SE.start w _ es, (Below.refl _ _).alloc (Nat.le_refl _) _⟩
  case round =>
    obtain ⟨k, A, C, hk, rfl, hS, hB⟩ := hrel
    have HB : Hid (Below w.heap.size w wr) := hB
    obtain ⟨ad, c0, rfl⟩ := hS.form
    have HS : Hid (SE wr w.heap.size 32 (.slice ad k c0) k es A C) := hS
    by_cases hlt : k < n
    · have hO2 := HO.out.keep hB
      obtain ⟨cs, hC, hsz, hcs⟩ := hO2.main
      obtain ⟨q1, q2, q3, q4⟩ := hcs k hlt
      have x1 := (hC.cell (k * 4)).trans q1
      have x2 := (hC.cell (k * 4 + 1)).trans q2
      have x3 := (hC.cell (k * 4 + 2)).trans q3
      have x4 := (hC.cell (k * 4 + 3)).trans q4
      have HLR : Hid (LR wr (some ⟨bl k, 0, none⟩) (es k).n (es k).ls) := (hO2.own k hlt).row
      have hnk := HN.out k hlt
      have hsz := hB.size
      clear hO2 hC hcs q1 q2 q3 q4 hS hB
      go_wp2_with (first
        | (go_at_call 66; refine (l5Entry_any _ _ _ _ _ _ (es k).ls _ hnk HLR.out).mono ?_; rintro e w1 ⟨b, c, rfl, hb, hl, b1⟩; have HBa : Hid (Below w1.heap.size w1 (w1.alloc (.cells #[.int .i64 (es k).day, .int .i64 (es k).ref, .string (es k).text, .slice (some ⟨b, 0, none⟩) (es k).n c] 32 (0, 0)))) := (Below.refl _ _).alloc (Nat.le_refl _) _; have HS1 : Hid (SE (w1.alloc (.cells #[.int .i64 (es k).day, .int .i64 (es k).ref, .string (es k).text, .slice (some ⟨b, 0, none⟩) (es k).n c] 32 (0, 0))) w.heap.size 32 (.slice ad k c0) k es A C) := (HS.out.below b1).below HBa.out; have HL1 : Hid (LR (w1.alloc (.cells #[.int .i64 (es k).day, .int .i64 (es k).ref, .string (es k).text, .slice (some ⟨b, 0, none⟩) (es k).n c] 32 (0, 0))) (some ⟨b, 0, none⟩) (es k).n (es k).ls) := hl.below HBa.out; have HB1 : Hid (Below w.heap.size w (w1.alloc (.cells #[.int .i64 (es k).day, .int .i64 (es k).ref, .string (es k).text, .slice (some ⟨b, 0, none⟩) (es k).n c] 32 (0, 0)))) := bel_on (bel_on HB.out b1) HBa.out; have HPB : Hid (w.heap.size ≤ b) := (Nat.le_trans hsz hb); have HP : Hid (∀ g, Value.ownBlock (.slice ad k c0) = some g → g ≠ b) := (fun g hg e => by have := (HS.out.lt g hg).2; omega); clear b1 hl)
        | (at_builtin; go_loud (refine wpList_append_own_at _ rfl _ _ 27 rfl w.heap.size 32 i0 (.agg #[.int .i64 0, .int .i64 0, .string ByteArray.empty, .slice none 0 0]) 4 56 Tryd.underlying27 hi hz0 hz1 hz2 rfl (by decide) (.slice ad k c0) k (flE es A C k) rfl HS1.out.1 ⟨w1.heap.size, 0, none⟩ 1 1 (cellsE (es k) (some ⟨b, 0, none⟩) c) rfl rfl (acells_at rfl) (cellsE_one _ _ _) (by unfold maxLen; omega) (by omega) (by have := HB1.out.size; exact this) ?_); intro v' w5 hown hgrow hnil hat; have hS5 := HS1.out.snoc HL1.out (.inr (fun b2 o q e => by cases e; exact ⟨fun e2 => HP.out _ e2.symm rfl, HPB.out⟩)) hown hgrow hat; have HS5 : Hid (SE w5 w.heap.size 32 v' (k + 1) es _ _) := hS5; have HB5 : Hid (Below w.heap.size w w5) := below_grown HB1.out (Nat.le_refl _) hgrow (fun r e => (HS.out.lt r e).1); clear hown hgrow hnil hat hS5))
      go_roundw
      case rel => exact ⟨k + 1, _, _, by omega, by go_num, HS5.out, HB5.out⟩
      case measure => simp [intOf]; omega
    · obtain rfl : k = n := by omega
      clear hS hB
      go_wp2
      go_returns
      exact ⟨_, _, A, C, rfl, HS.out, HB.out⟩

set_option maxRecDepth 20000 in
set_option maxHeartbeats 2000000 in
theorem l5Ledger_any (B m n cap : Nat) (es : Nat → E4) (bl : Nat → Nat) (hd : Int) (w : World) (h : (n : Int) ≤ 1048576) (hn : ∀ j, j < n → ((es j).n : Int) ≤ 1048576) (hO : OwnE w B m n es bl 32 56) :
    Calls Tryd.prog 65 #[.agg #[.slice (some ⟨B, 0, none⟩) n cap, .int .i64 hd]] w fun e w' => ∃ ad c A C, e = .returned (.agg #[.slice ad n c, .int .i64 hd]) ∧ SE w' w.heap.size 32 (.slice ad n c) n es A C ∧ Below w.heap.size w w' := by
  have HO : Hid (OwnE ((w.alloc (.cells #[.slice (some ⟨B, 0, none⟩) n cap, .int .i64 hd] 29 (0, 0))).alloc (.cells #[.slice none 0 0, .int .i64 0] 29 (0, 0))).drew B m n es bl 32 56) := hO.keep (((Below.refl _ _).alloc (Nat.le_refl _) _).alloc (by simp) _).drew
  have HN : Hid (∀ j, j < n → ((es j).n : Int) ≤ 1048576) := hn
  clear hO hn
  go_enter Tryd.func65, Tryd.ntmps65
  go_wp2
  go_region_with (go_at_call 117; go_loud (refine (l5Entries_any _ m _ _ es bl _ h HN.out HO.out).mono ?_; rintro e w1 ⟨ad, c, A, C, rfl, hS, b1⟩; obtain ⟨C1, b2, xb⟩ := two_drew b1; have X0 : CB w1 w.heap.size #[.slice (some ⟨B, 0, none⟩) n cap, .int .i64 hd] 29 := xb; have x0 := X0.cell 0; have x1 := X0.cell 1; have m0 := C1.cell 0; have m1 := C1.cell 1; simp at m0 m1 x0 x1; have g0 := C1.fr 0; have g1 := C1.fr 1; have HC1 : Hid (CB w1 (w.heap.size + 1) #[.slice none 0 0, .int .i64 0] 29) := C1; have HS : Hid (SE w1 (w.heap.size + 1 + 1) 32 (.slice ad n c) n es A C) := (by have e : ((w.alloc (.cells #[.slice (some ⟨B, 0, none⟩) n cap, .int .i64 hd] 29 (0, 0))).alloc (.cells #[.slice none 0 0, .int .i64 0] 29 (0, 0))).drew.heap.size = w.heap.size + 1 + 1 := (by simp); rw [e] at hS; exact hS); have HB : Hid (Below w.heap.size w w1) := b2; clear b1 b2 C1 hS X0 xb))
  all_goals
    have hX := (HC1.out.set 0 (.slice ad n c)).set 1 (.int .i64 hd)
    have hY : SE ((w1.setCell ⟨w.heap.size + 1, 0, none⟩ (.slice ad n c)).setCell ⟨w.heap.size + 1, 1, none⟩ (.int .i64 hd)) (w.heap.size + 1 + 1) 32 (.slice ad n c) n es A C := (HS.out.set (by omega)).set (by omega)
    have hZ := (HB.out.setCell (p := ⟨w.heap.size + 1, 0, none⟩) (by simp) (.slice ad n c)).setCell (p := ⟨w.heap.size + 1, 1, none⟩) (by simp) (.int .i64 hd)
    have e0 := hX.cell 0
    have e1 := hX.cell 1
    simp at e0 e1
    clear hX m0 m1 x0 x1 g0 g1 HC1 HS HB
    try go_wp2
    generalize (World.setCell _ _ _) = W5 at e0 e1 hY hZ ⊢
    refine bodyPost_ret (by simp [results, Tryd.results65, go_sem, e0, e1]; try rfl) rfl ?_
    exact ⟨ad, c, A, C, rfl, hY.mono (by omega), hZ⟩

end Go.Proofs.YtgnhpjlfdkpaiaaDoor

