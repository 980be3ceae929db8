/- The program's copies of an entry and of a ledger: new blocks that hold the same. The program's copy of a ledger: new blocks that hold the same. -/
import Derived.Test.YtgnhpjlfdkpaiaaDoorGa
import Derived.Test.YtgnhpjlfdkpaiaaDoorLt
import Derived.Test.YtgnhpjlfdkpaiaaDoorLl
namespace Go.Proofs.YtgnhpjlfdkpaiaaDoor
open Go Go.ChangeShapes Go.WideShapes Go.ChangeAt Go.RowKit
set_option linter.unusedVariables false
set_option linter.unusedSimpArgs false

theorem CB.setRow_other {w : World} {b g : Nat} {cs rs : Array Value} {t : TypeId} (h : CB w b cs t) (hb : b ≠ g) : CB (w.setRow g rs) b cs t := by
  unfold CB at h ⊢; rw [Go.setRow_other w g b rs (by omega)]; exact h
theorem CB.setRow_same {w : World} {g : Nat} {cs rs : Array Value} {t : TypeId} (h : CB w g cs t) : CB (w.setRow g rs) g rs t := by
  unfold CB at h ⊢; exact setRow_heap w g cs rs t _ h

/-- The run of a copy of a whole row into a row that was just made, and what then lies there. -/
theorem copied_run {P : Program} {w : World} {cs ds : Array Value} {t u v : TypeId} (n cap : Nat) (ad : Option Addr) (ls : Nat → L5) (T : TypeId) (hu : P.underlying T = some (.slice v)) (hs : (P.info? v).map (·.size) = some 5) (hr : LR w ad n ls) :
    ∃ W2, (Builtin.copy_ #[T, T] 3 #[.slice (some ⟨w.heap.size + 1 + 1, 0, none⟩) n n, .slice ad n cap]).run P (((w.alloc (.cells cs t (0, 0))).alloc (.cells ds u (0, 0))).alloc (.cells (zeros5 n) v (0, 0))) = .ok (goInt n) W2 ∧
      CB W2 w.heap.size cs t ∧ CB W2 (w.heap.size + 1) ds u ∧ OwnL W2 (w.heap.size + 1 + 1) n ls v ∧ Below w.heap.size w W2 := by
  have hb : Below w.heap.size w (((w.alloc (.cells cs t (0, 0))).alloc (.cells ds u (0, 0))).alloc (.cells (zeros5 n) v (0, 0))) := (((Below.refl _ _).alloc (Nat.le_refl _) _).alloc (by simp) _).alloc (by simp; omega) _
  have c0 : CB (((w.alloc (.cells cs t (0, 0))).alloc (.cells ds u (0, 0))).alloc (.cells (zeros5 n) v (0, 0))) w.heap.size cs t := ((CB.new _ _).alloc _).alloc _
  have c1 : CB (((w.alloc (.cells cs t (0, 0))).alloc (.cells ds u (0, 0))).alloc (.cells (zeros5 n) v (0, 0))) (w.heap.size + 1) ds u := (CB.newAt (by simp) _ _).alloc _
  have c2 : CB (((w.alloc (.cells cs t (0, 0))).alloc (.cells ds u (0, 0))).alloc (.cells (zeros5 n) v (0, 0))) (w.heap.size + 1 + 1) (zeros5 n) v := CB.newAt (by simp) _ _
  generalize (((w.alloc (.cells cs t (0, 0))).alloc (.cells ds u (0, 0))).alloc (.cells (zeros5 n) v (0, 0))) = W at hb c0 c1 c2
  by_cases h0 : n = 0
  · subst h0
    refine ⟨W, ?_, c0, c1, ⟨zeros5 0, c2, zeros5_size 0, fun i hi => by omega⟩, hb⟩
    cases hq : P.info? v with
    | none => simp [hq] at hs
    | some i =>
      have hl : ∀ (x : Addr), (loadCells x 0).run P W = .ok #[] W := fun x => by simpa using run_loadCells_list (P := P) W x [] (by simp)
      cases ad <;> simp [Builtin.copy_, run_underlying hu, Builtin.lenOf, Builtin.firstCells, sizeOf, typeInfo, hq, storeCells, hl]
  · obtain ⟨kb, off, rfl, _⟩ := hr.addr (by omega)
    have hrun := run_copy_sized (P := P) W T T 3 v 5 (w.heap.size + 1 + 1) 0 n n ⟨kb, off, none⟩ n cap (zeros5 n) v (rowC ls n) hu hs c2 (by rw [rowC_len]; simp) (rowC_src (hr.below hb) n (Nat.le_refl _)) (by rw [rowC_len, zeros5_size]; omega) (rowC_one ls n)
    have e : ((zeros5 n).toList.take 0 ++ rowC ls n ++ (zeros5 n).toList.drop (0 + (rowC ls n).length)).toArray = (rowC ls n).toArray := by
      have : (zeros5 n).toList.drop (0 + (rowC ls n).length) = [] := by apply List.drop_eq_nil_of_le; rw [rowC_len]; simp [zeros5_size]
      rw [this]; simp
    rw [e, show Nat.min n n = n from Nat.min_self n] at hrun
    exact ⟨_, hrun, c0.setRow_other (by omega), c1.setRow_other (by omega), ⟨(rowC ls n).toArray, c2.setRow_same, by simp [rowC_len], fun i hi => rowC_get ls n i hi⟩, below_setRow hb (by omega) _⟩

set_option maxRecDepth 20000 in
set_option maxHeartbeats 2000000 in
theorem entryCopied_any (d r : Int) (s : ByteArray) (ad : Option Addr) (n cap : Nat) (ls : Nat → L5) (w : World) (h : (n : Int) ≤ 1048576) (hr : LR w ad n ls) :
    Calls Tryd.prog 123 #[.agg #[.int .i64 d, .int .i64 r, .string s, .slice ad n cap]] w fun e w' => ∃ b, e = .returned (.agg #[.int .i64 d, .int .i64 r, .string s, .slice (some ⟨b, 0, none⟩) n n]) ∧ w.heap.size ≤ b ∧ OwnL w' b n ls 56 ∧ Below w.heap.size w w' := by
  have mk := mkLines n h
  obtain ⟨W2, hrun, C1, C2, O3, B3⟩ := copied_run (P := Tryd.prog) (w := w) (cs := #[.int .i64 d, .int .i64 r, .string s, .slice ad n cap]) (ds := #[.int .i64 0, .int .i64 0, .string ⟨#[]⟩, .slice none 0 0]) (t := 32) (u := 32) (v := 56) n cap ad ls 30 Tryd.underlying30 (by kernel_rfl) hr
  clear hr
  have k0 : W2.cell? ⟨w.heap.size, 0, none⟩ = some (.int .i64 d) := (C1.cell 0).trans rfl
  have k1 : W2.cell? ⟨w.heap.size, 1, none⟩ = some (.int .i64 r) := (C1.cell 1).trans rfl
  have k2 : W2.cell? ⟨w.heap.size, 2, none⟩ = some (.string s) := (C1.cell 2).trans rfl
  have k3 : W2.cell? ⟨w.heap.size, 3, none⟩ = some (.slice ad n cap) := (C1.cell 3).trans rfl
  have f3 := C1.fr 3
  have m0 : W2.cell? ⟨w.heap.size + 1, 0, none⟩ = some (.int .i64 0) := (C2.cell 0).trans rfl
  have m1 : W2.cell? ⟨w.heap.size + 1, 1, none⟩ = some (.int .i64 0) := (C2.cell 1).trans rfl
  have m2 : W2.cell? ⟨w.heap.size + 1, 2, none⟩ = some (.string ⟨#[]⟩) := (C2.cell 2).trans rfl
  have m3 : W2.cell? ⟨w.heap.size + 1, 3, none⟩ = some (.slice none 0 0) := (C2.cell 3).trans rfl
  have g0 := C2.fr 0
  have g1 := C2.fr 1
  have g2 := C2.fr 2
  have g3 := C2.fr 3
  have HC2 : Hid (CB W2 (w.heap.size + 1) #[.int .i64 0, .int .i64 0, .string ⟨#[]⟩, .slice none 0 0] 32) := C2
  have HO : Hid (OwnL W2 (w.heap.size + 1 + 1) n ls 56) := O3
  have HB : Hid (Below w.heap.size w W2) := B3
  clear C1 C2 O3 B3
  go_enter Tryd.func123, Tryd.ntmps123
  go_wp2
  have hX := ((((HC2.out.other (c := w.heap.size) (o := 3) (.slice (some ⟨w.heap.size + 1 + 1, 0, none⟩) n n) (by omega)).set 0 (.int .i64 d)).set 1 (.int .i64 r)).set 2 (.string s)).set 3 (.slice (some ⟨w.heap.size + 1 + 1, 0, none⟩) n n)
  have hY := ((((HO.out.other (c := w.heap.size) (o := 3) (v := .slice (some ⟨w.heap.size + 1 + 1, 0, none⟩) n n) (by omega)).other (c := w.heap.size + 1) (o := 0) (v := .int .i64 d) (by omega)).other (c := w.heap.size + 1) (o := 1) (v := .int .i64 r) (by omega)).other (c := w.heap.size + 1) (o := 2) (v := .string s) (by omega)).other (c := w.heap.size + 1) (o := 3) (v := .slice (some ⟨w.heap.size + 1 + 1, 0, none⟩) n n) (by omega)
  have hZ := ((((HB.out.setCell (p := ⟨w.heap.size, 3, none⟩) (by simp) (.slice (some ⟨w.heap.size + 1 + 1, 0, none⟩) n n)).setCell (p := ⟨w.heap.size + 1, 0, none⟩) (by simp) (.int .i64 d)).setCell (p := ⟨w.heap.size + 1, 1, none⟩) (by simp) (.int .i64 r)).setCell (p := ⟨w.heap.size + 1, 2, none⟩) (by simp) (.string s)).setCell (p := ⟨w.heap.size + 1, 3, none⟩) (by simp) (.slice (some ⟨w.heap.size + 1 + 1, 0, none⟩) n n)
  have e0 := hX.cell 0
  have e1 := hX.cell 1
  have e2 := hX.cell 2
  have e3 := hX.cell 3
  simp at e0 e1 e2 e3
  clear hX k0 k1 k2 k3 m0 m1 m2 m3 f3 g0 g1 g2 g3 HC2 HO HB hrun mk
  generalize (World.setCell _ _ _) = W5 at e0 e1 e2 e3 hY hZ ⊢
  refine bodyPost_ret (by simp [results, Tryd.results123, go_sem, e0, e1, e2, e3]; try rfl) rfl ?_
  exact ⟨_, rfl, by omega, hY, hZ⟩

end Go.Proofs.YtgnhpjlfdkpaiaaDoor


namespace Go.Proofs.YtgnhpjlfdkpaiaaDoor
open Go Go.ChangeShapes Go.WideShapes Go.ChangeAt Go.RowKit
set_option linter.unusedVariables false
set_option linter.unusedSimpArgs false

set_option maxRecDepth 20000 in
set_option maxHeartbeats 4000000 in
theorem ledgerCopied_any (ad : Option Addr) (len cap : Nat) (es : Nat → E4) (hd : Int) (w : World) (h : (len : Int) ≤ 1048576) (hn : ∀ j, j < len → ((es j).n : Int) ≤ 1048576) (hr : ER w ad len es) :
    Calls Tryd.prog 71 #[.agg #[.slice ad len cap, .int .i64 hd]] w fun e w' => ∃ b bl, e = .returned (.agg #[.slice (some ⟨b, 0, none⟩) len len, .int .i64 hd]) ∧ w.heap.size ≤ b ∧ (∀ j, j < len → b < bl j) ∧ OwnE w' b len len es bl 32 56 ∧ Below w.heap.size w w' := by
  have HR : Hid (ER w ad len es) := hr
  have HN : Hid (∀ j, j < len → ((es j).n : Int) ≤ 1048576) := hn
  have hmk := mkEntries len h
  have HBA : Hid (Below w.heap.size w (((w.alloc (.cells #[.slice ad len cap, .int .i64 hd] 29 (0, 0))).alloc (.cells #[.slice none 0 0, .int .i64 0] 29 (0, 0))).alloc (.cells (zeros4e len) 32 (0, 0)))) := (((Below.refl _ _).alloc (Nat.le_refl _) _).alloc (by simp) _).alloc (by simp; omega) _
  have HC0 : Hid (CB (((w.alloc (.cells #[.slice ad len cap, .int .i64 hd] 29 (0, 0))).alloc (.cells #[.slice none 0 0, .int .i64 0] 29 (0, 0))).alloc (.cells (zeros4e len) 32 (0, 0))) w.heap.size #[.slice ad len cap, .int .i64 hd] 29) := ((CB.new _ _).alloc _).alloc _
  have HC1 : Hid (CB (((w.alloc (.cells #[.slice ad len cap, .int .i64 hd] 29 (0, 0))).alloc (.cells #[.slice none 0 0, .int .i64 0] 29 (0, 0))).alloc (.cells (zeros4e len) 32 (0, 0))) (w.heap.size + 1) #[.slice none 0 0, .int .i64 0] 29) := (CB.newAt (by simp) _ _).alloc _
  have HC2 : Hid (CB (((w.alloc (.cells #[.slice ad len cap, .int .i64 hd] 29 (0, 0))).alloc (.cells #[.slice none 0 0, .int .i64 0] 29 (0, 0))).alloc (.cells (zeros4e len) 32 (0, 0))) (w.heap.size + 1 + 1) (zeros4e len) 32) := CB.newAt (by simp) _ _
  clear hr hn
  go_enter Tryd.func71, Tryd.ntmps71
  go_wp2
  go_loopw [13] (fun i wr => ∃ (k : Nat) (bl : Nat → Nat), k ≤ len ∧ i = .int .i64 (k : Int) ∧ OwnE wr (w.heap.size + 1 + 1) len k es bl 32 56 ∧ (∀ j, j < k → w.heap.size + 1 + 1 < bl j) ∧ CB wr w.heap.size #[.slice ad len cap, .int .i64 hd] 29 ∧ CB wr (w.heap.size + 1) #[.slice none 0 0, .int .i64 0] 29 ∧ Below w.heap.size w wr) (fun i _ => len - (intOf i).toNat)
  case atStart => exact ⟨0, fun _ => 0, Nat.zero_le _, rfl, ⟨⟨zeros4e len, HC2.out, zeros4e_size _, fun j hj => by omega⟩, fun j hj => by omega, fun j hj => by omega, fun i j hi => by omega⟩, fun j hj => by omega, HC0.out, HC1.out, HBA.out⟩
  case round =>
    obtain ⟨k, bl, hk, rfl, hO, hbl, hD0, hD1, hB⟩ := hrel
    have HO : Hid (OwnE wr (w.heap.size + 1 + 1) len k es bl 32 56) := hO
    have HL : Hid (∀ j, j < k → w.heap.size + 1 + 1 < bl j) := hbl
    have HB : Hid (Below w.heap.size w wr) := hB
    have HD0 : Hid (CB wr w.heap.size #[.slice ad len cap, .int .i64 hd] 29) := hD0
    have HD1 : Hid (CB wr (w.heap.size + 1) #[.slice none 0 0, .int .i64 0] 29) := hD1
    by_cases hlt : k < len
    · obtain ⟨kb, off, rfl, hkb⟩ := HR.out.addr (by omega)
      obtain ⟨c1, c2, c3, la, lcap, c4, hl⟩ := (HR.out.below hB).cell hlt
      obtain ⟨cs, hC, hsz, _⟩ := hO.main
      obtain ⟨v1, d1⟩ : ∃ v, cs[k * 4]? = some v := ⟨cs[k * 4]'(by omega), Array.getElem?_eq_getElem (by omega)⟩
      obtain ⟨v2, d2⟩ : ∃ v, cs[k * 4 + 1]? = some v := ⟨cs[k * 4 + 1]'(by omega), Array.getElem?_eq_getElem (by omega)⟩
      obtain ⟨v3, d3⟩ : ∃ v, cs[k * 4 + 2]? = some v := ⟨cs[k * 4 + 2]'(by omega), Array.getElem?_eq_getElem (by omega)⟩
      obtain ⟨v4, d4⟩ : ∃ v, cs[k * 4 + 3]? = some v := ⟨cs[k * 4 + 3]'(by omega), Array.getElem?_eq_getElem (by omega)⟩
      have HC : Hid (CB wr (w.heap.size + 1 + 1) cs 32) := hC
      have HLR : Hid (LR wr la (es k).n (es k).ls) := hl
      have hnk := HN.out k hlt
      have HA : Hid (Below wr.heap.size wr (wr.alloc (.cells #[.int .i64 (es k).day, .int .i64 (es k).ref, .string (es k).text, .slice la (es k).n lcap] 32 (0, 0)))) := (Below.refl _ _).alloc (Nat.le_refl _) _
      clear hC hsz hB hO hbl hl hD0 hD1
      go_wp2_with (go_at_call 123; refine (entryCopied_any _ _ _ _ _ _ (es k).ls _ hnk (HLR.out.below HA.out)).mono ?_; rintro e w1 ⟨b, rfl, hb, o1, b0⟩; have b1 : Below wr.heap.size wr w1 := bel_on HA.out b0; have X1 : CB w1 (w.heap.size + 1 + 1) cs 32 := HC.out.below b1 HC.out.lt; have x1 := (X1.cell (k * 4)).trans d1; have x2 := (X1.cell (k * 4 + 1)).trans d2; have x3 := (X1.cell (k * 4 + 2)).trans d3; have x4 := (X1.cell (k * 4 + 3)).trans d4; have f1 := X1.fr (k * 4); have f2 := X1.fr (k * 4 + 1); have f3 := X1.fr (k * 4 + 2); have f4 := X1.fr (k * 4 + 3); have HP : Hid (wr.heap.size ≤ b) := Nat.le_trans HA.out.size hb; have HO1 : Hid (OwnL w1 b (es k).n (es k).ls 56) := o1; have HX : Hid (OwnE w1 (w.heap.size + 1 + 1) len k es bl 32 56) := HO.out.keep b1; have HB1 : Hid (Below w.heap.size w w1) := bel_on HB.out b1; have HE0 : Hid (CB w1 w.heap.size #[.slice (some ⟨kb, off, none⟩) len cap, .int .i64 hd] 29) := HD0.out.below b1 HD0.out.lt; have HE1 : Hid (CB w1 (w.heap.size + 1) #[.slice none 0 0, .int .i64 0] 29) := HD1.out.below b1 HD1.out.lt; clear X1 b1 hb o1 b0)
      go_roundw
      case rel =>
        have hlt2 := HC.out.lt
        have hp := HP.out
        exact ⟨k + 1, _, by omega, by go_num, HX.out.step hlt HO1.out (by omega) (fun j hj => by have := (HO.out.own j hj).lt; omega), fun j hj => by
          by_cases hjk : j = k
          · simp only [if_pos hjk]; omega
          · simp only [if_neg hjk]; exact HL.out j (by omega), (((HE0.out.other _ (by omega)).other _ (by omega)).other _ (by omega)).other _ (by omega), (((HE1.out.other _ (by omega)).other _ (by omega)).other _ (by omega)).other _ (by omega), (((HB1.out.setCell (by simp; omega) _).setCell (by simp; omega) _).setCell (by simp; omega) _).setCell (by simp; omega) _⟩
      case measure => simp [intOf]; omega
    · obtain rfl : k = len := by omega
      have k0 : wr.cell? ⟨w.heap.size, 0, none⟩ = some (.slice ad k cap) := (hD0.cell 0).trans rfl
      have k1 : wr.cell? ⟨w.heap.size, 1, none⟩ = some (.int .i64 hd) := (hD0.cell 1).trans rfl
      have f0 := hD0.fr 0
      have m0 : wr.cell? ⟨w.heap.size + 1, 0, none⟩ = some (.slice none 0 0) := (hD1.cell 0).trans rfl
      have m1 : wr.cell? ⟨w.heap.size + 1, 1, none⟩ = some (.int .i64 0) := (hD1.cell 1).trans rfl
      have g0 := hD1.fr 0
      have g1 := hD1.fr 1
      clear hO hB hbl hD0 hD1
      go_wp2
      have q : ∀ x, x = w.heap.size ∨ x = w.heap.size + 1 → ∀ j, j < k → bl j ≠ x := fun x hx j hj => by have := HL.out j hj; omega
      have hX := ((HD1.out.other (c := w.heap.size) (o := 0) (.slice (some ⟨w.heap.size + 1 + 1, 0, none⟩) k k) (by omega)).set 0 (.slice (some ⟨w.heap.size + 1 + 1, 0, none⟩) k k)).set 1 (.int .i64 hd)
      have hY := ((HO.out.other (c := w.heap.size) (o := 0) (v := .slice (some ⟨w.heap.size + 1 + 1, 0, none⟩) k k) (by omega) (q _ (.inl rfl))).other (c := w.heap.size + 1) (o := 0) (v := .slice (some ⟨w.heap.size + 1 + 1, 0, none⟩) k k) (by omega) (q _ (.inr rfl))).other (c := w.heap.size + 1) (o := 1) (v := .int .i64 hd) (by omega) (q _ (.inr rfl))
      have hZ := ((HB.out.setCell (p := ⟨w.heap.size, 0, none⟩) (by simp) (.slice (some ⟨w.heap.size + 1 + 1, 0, none⟩) k k)).setCell (p := ⟨w.heap.size + 1, 0, none⟩) (by simp) (.slice (some ⟨w.heap.size + 1 + 1, 0, none⟩) k k)).setCell (p := ⟨w.heap.size + 1, 1, none⟩) (by simp) (.int .i64 hd)
      have e0 := hX.cell 0
      have e1 := hX.cell 1
      simp at e0 e1
      clear hX k0 k1 m0 m1 f0 g0 g1 HD0 HD1 HO HB
      generalize (World.setCell _ _ _) = W5 at e0 e1 hY hZ ⊢
      refine bodyPost_ret (by simp [results, Tryd.results71, go_sem, e0, e1]; try rfl) rfl ?_
      exact ⟨_, bl, rfl, by omega, HL.out, hY, hZ⟩

end Go.Proofs.YtgnhpjlfdkpaiaaDoor

