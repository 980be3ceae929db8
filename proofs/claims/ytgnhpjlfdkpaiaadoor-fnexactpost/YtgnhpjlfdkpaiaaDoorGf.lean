/- The program's ledger with one entry more. The program's Post: what it leaves. -/
import Derived.Test.YtgnhpjlfdkpaiaaDoorGc2
import Derived.Test.YtgnhpjlfdkpaiaaDoorGe
import Derived.Test.YtgnhpjlfdkpaiaaDoorHj
import Derived.Deep.RegionHeldLaw
namespace Go.Proofs.YtgnhpjlfdkpaiaaDoor
open Go Go.ChangeShapes Go.WideShapes Go.ChangeAt Go.RowKit
set_option linter.unusedVariables false
set_option linter.unusedSimpArgs false

theorem ownb {x b n c : Nat} (q : some x = Value.ownBlock (.slice (some ⟨b, 0, none⟩) n c)) : x = b := by simpa [Value.ownBlock] using q
theorem ite_ge {lo b n : Nat} {bl : Nat → Nat} (h1 : lo ≤ b) (h2 : ∀ j, j < n → lo ≤ bl j) : ∀ j, j < n + 1 → lo ≤ (if j = n then b else bl j) := fun j hj => by
  by_cases hjn : j = n
  · rw [if_pos hjn]; exact h1
  · rw [if_neg hjn]; exact h2 j (by omega)
theorem OwnE.grow {w w' : World} {B n b base : Nat} {es : Nat → E4} {e : E4} {bl : Nat → Nat} {t tl : TypeId} {v' : Value} (h : OwnE w B n n es bl t tl) (hl : OwnL w b e.n e.ls tl) (hb : b ≠ B) (hbn : ∀ j, j < n → bl j ≠ b)
    (ho : w'.ownsRow base t 4 v' (n + 1) (flE es (fun j => some ⟨bl j, 0, none⟩) (fun j => (es j).n) n ++ cellsE e (some ⟨b, 0, none⟩) e.n)) (hg : w.grownBy w' (some B)) (hat : v'.ownBlock = some B ∨ v'.ownBlock = some w.heap.size) :
    ∃ g cap, v' = .slice (some ⟨g, 0, none⟩) (n + 1) cap ∧ (g = B ∨ g = w.heap.size) ∧ base ≤ g ∧ n + 1 ≤ cap ∧ OwnE w' g cap (n + 1) (snE es n e) (fun j => if j = n then b else bl j) t tl := by
  have hBlt : B < w.heap.size := by obtain ⟨cs, c1, _⟩ := h.main; exact c1.lt
  rcases ho.2 with ⟨_, e0⟩ | ⟨g, cap, cur, rfl, hbg, hgg, hc, _, hsz, ht⟩
  · omega
  have hg2 : g = B ∨ g = w.heap.size := by
    rcases hat with q | q
    · exact .inl (Option.some.inj q)
    · exact .inr (Option.some.inj q)
  have ht2 : cur.toList.take ((n + 1) * 4) = flE (snE es n e) (fun j => some ⟨if j = n then b else bl j, 0, none⟩) (fun j => (snE es n e j).n) (n + 1) := by
    rw [ht]
    simp only [flE, if_true, snE_new]
    rw [flE_congr (fun j hj => ⟨(snE_old (e := e) hj).symm, by show some (⟨bl j, 0, none⟩ : Addr) = some ⟨if j = n then b else bl j, 0, none⟩; rw [if_neg (by omega)], by show (es j).n = (snE es n e j).n; rw [snE_old hj]⟩)]
  refine ⟨g, cap, rfl, hg2, hbg, hc, ⟨cur, hgg, hsz, fun j hj => cells_of_take ht2 j hj⟩, fun j hj => ?_, fun j hj => ?_, fun i j hi hj hij => ?_⟩
  · have key : ∀ {c m : Nat} {ls : Nat → L5}, OwnL w c m ls tl → c ≠ B → OwnL w' c m ls tl := fun hO hc => by
      obtain ⟨lc, o1, o2, o3⟩ := hO
      exact ⟨lc, CB.grownB o1 hg (fun q => hc (Option.some.inj q)), o2, o3⟩
    by_cases hjn : j = n
    · subst hjn; simp only [if_true]; rw [snE_new]; exact key hl hb
    · simp only [if_neg hjn]; rw [snE_old (by omega)]; exact key (h.own j (by omega)) (h.apart j (by omega))
  · by_cases hjn : j = n
    · simp only [if_pos hjn]; have := hl.lt; omega
    · simp only [if_neg hjn]; have := (h.own j (by omega)).lt; have := h.apart j (by omega); omega
  · by_cases hi2 : i = n <;> by_cases hj2 : j = n
    · omega
    · simp only [if_pos hi2, if_neg hj2]; exact fun q => hbn j (by omega) q.symm
    · simp only [if_neg hi2, if_pos hj2]; exact hbn i (by omega)
    · simp only [if_neg hi2, if_neg hj2]; exact h.inj i j (by omega) (by omega) hij

set_option maxRecDepth 20000 in
set_option maxHeartbeats 8000000 in
theorem with_any (ad : Option Addr) (n lcap : Nat) (es : Nat → E4) (hd : Int) (ed er : Int) (et : ByteArray) (ea : Option Addr) (en ecap : Nat) (els : Nat → L5) (w : World)
    (hn : (n : Int) ≤ 1000) (hnn : ∀ j, j < n → ((es j).n : Int) ≤ 1048576) (hr : ER w ad n es) (hL : LR w ea en els) (het : (et.size : Int) ≤ 40) (hen : (en : Int) ≤ 60) (hh : HdR hd) :
    Calls Tryd.prog 72 #[.agg #[.slice ad n lcap, .int .i64 hd], .agg #[.int .i64 ed, .int .i64 er, .string et, .slice ea en ecap]] w fun e w' =>
      ∃ B cc, e = .returned (.agg #[.slice (some ⟨B, 0, none⟩) (n + 1) cc, .int .i64 (lks (hd, false) (E4.nums ⟨ed, er, et, en, els⟩)).1]) ∧ NewE w.heap.size w'.heap.size w' (some ⟨B, 0, none⟩) (n + 1) (snE es n ⟨ed, er, et, en, els⟩) 32 56 ∧ Below w.heap.size w w' := by
  have HR : Hid (ER w ad n es) := hr
  have HL : Hid (LR w ea en els) := hL
  have HNN : Hid (∀ j, j < n → ((es j).n : Int) ≤ 1048576) := hnn
  have HNB : Hid (en = 0 ∨ ∀ k o q, ea = some ⟨k, o, q⟩ → k ≠ w.heap.size + 1 + 1 + 1) := by
    rcases hL with q | ⟨k, off, e, hk, _⟩
    · exact .inl q
    · exact .inr fun k2 o q e2 => by rw [e] at e2; cases e2; omega
  have HBA : Hid (Below w.heap.size w ((((w.alloc (.cells #[.slice ad n lcap, .int .i64 hd] 29 (0, 0))).alloc (.cells #[.int .i64 ed, .int .i64 er, .string et, .slice ea en ecap] 32 (0, 0))).alloc (.cells #[.slice none 0 0, .int .i64 0] 29 (0, 0))).alloc (.cells #[.int .i64 hd, .bool false] 159 (0, 0)))) := ((((Below.refl _ _).alloc (Nat.le_refl _) _).alloc (by simp) _).alloc (by simp; omega) _).alloc (by simp; omega) _
  have HC0 : Hid (CB ((((w.alloc (.cells #[.slice ad n lcap, .int .i64 hd] 29 (0, 0))).alloc (.cells #[.int .i64 ed, .int .i64 er, .string et, .slice ea en ecap] 32 (0, 0))).alloc (.cells #[.slice none 0 0, .int .i64 0] 29 (0, 0))).alloc (.cells #[.int .i64 hd, .bool false] 159 (0, 0))) w.heap.size #[.slice ad n lcap, .int .i64 hd] 29) := (((CB.new _ _).alloc _).alloc _).alloc _
  have HC1 : Hid (CB ((((w.alloc (.cells #[.slice ad n lcap, .int .i64 hd] 29 (0, 0))).alloc (.cells #[.int .i64 ed, .int .i64 er, .string et, .slice ea en ecap] 32 (0, 0))).alloc (.cells #[.slice none 0 0, .int .i64 0] 29 (0, 0))).alloc (.cells #[.int .i64 hd, .bool false] 159 (0, 0))) (w.heap.size + 1) #[.int .i64 ed, .int .i64 er, .string et, .slice ea en ecap] 32) := ((CB.newAt (by simp) _ _).alloc _).alloc _
  have HC2 : Hid (CB ((((w.alloc (.cells #[.slice ad n lcap, .int .i64 hd] 29 (0, 0))).alloc (.cells #[.int .i64 ed, .int .i64 er, .string et, .slice ea en ecap] 32 (0, 0))).alloc (.cells #[.slice none 0 0, .int .i64 0] 29 (0, 0))).alloc (.cells #[.int .i64 hd, .bool false] 159 (0, 0))) (w.heap.size + 1 + 1) #[.slice none 0 0, .int .i64 0] 29) := (CB.newAt (by simp) _ _).alloc _
  have HCH : Hid (Ch ((((w.alloc (.cells #[.slice ad n lcap, .int .i64 hd] 29 (0, 0))).alloc (.cells #[.int .i64 ed, .int .i64 er, .string et, .slice ea en ecap] 32 (0, 0))).alloc (.cells #[.slice none 0 0, .int .i64 0] 29 (0, 0))).alloc (.cells #[.int .i64 hd, .bool false] 159 (0, 0))) (w.heap.size + 1 + 1 + 1) (hd, false)) := ⟨CB.newAt (by simp) _ _, hh⟩
  have HSZ : Hid (((((w.alloc (.cells #[.slice ad n lcap, .int .i64 hd] 29 (0, 0))).alloc (.cells #[.int .i64 ed, .int .i64 er, .string et, .slice ea en ecap] 32 (0, 0))).alloc (.cells #[.slice none 0 0, .int .i64 0] 29 (0, 0))).alloc (.cells #[.int .i64 hd, .bool false] 159 (0, 0))).heap.size = w.heap.size + 4) := by show _ = _; simp
  clear hr hL hnn
  obtain ⟨i0, hi, hz0, hz1, hz2⟩ := infoE
  have hn32 : (n : Int) ≤ 1048576 := by omega
  have hen32 : (en : Int) ≤ 1048576 := by omega
  obtain ⟨HV, hHV⟩ : ∃ HV, HV = lks (hd, false) (E4.nums ⟨ed, er, et, en, els⟩) := ⟨_, rfl⟩
  have HHV : Hid (HV = lks (hd, false) (E4.nums ⟨ed, er, et, en, els⟩)) := hHV
  clear hHV
  obtain ⟨HV1, HV2⟩ := HV
  go_enter Tryd.func72, Tryd.ntmps72
  go_wp2_with (first
    | (go_at_call 124; go_loud (refine (tellEntry_any _ _ _ _ _ _ _ _ els _ het hen HCH.out (HL.out.below HBA.out) HNB.out).mono ?_; rintro e w1 ⟨rfl, C1, b1⟩; rw [← HHV.out] at C1; have HB1 : Hid (Below w.heap.size w w1) := HBA.out.trans (b1.to_below' (by omega) (by have := HSZ.out; omega)); have HD0 : Hid (CB w1 w.heap.size #[.slice ad n lcap, .int .i64 hd] 29) := HC0.out.but b1 (by omega); have HD1 : Hid (CB w1 (w.heap.size + 1) #[.int .i64 ed, .int .i64 er, .string et, .slice ea en ecap] 32) := HC1.out.but b1 (by omega); have HD2 : Hid (CB w1 (w.heap.size + 1 + 1) #[.slice none 0 0, .int .i64 0] 29) := HC2.out.but b1 (by omega); have HD3 : Hid (CB w1 (w.heap.size + 1 + 1 + 1) #[.int .i64 HV1, .bool HV2] 159) := C1.1; have d00 : w1.cell? ⟨w.heap.size, 0, none⟩ = some (.slice ad n lcap) := (HD0.out.cell 0).trans rfl; have d01 : w1.cell? ⟨w.heap.size, 1, none⟩ = some (.int .i64 hd) := (HD0.out.cell 1).trans rfl; clear C1 b1))
    | (go_at_call 71; go_loud (refine (ledgerCopied_any _ _ _ es _ _ hn32 HNN.out (HR.out.below HB1.out)).mono ?_; rintro e w2 ⟨b, bl, rfl, hb, hbl, hO, b2⟩; have HP : Hid (w1.heap.size ≤ b) := hb; have HBL : Hid (∀ j, j < n → b < bl j) := hbl; have HO2 : Hid (OwnE w2 b n n es bl 32 56) := hO; have HB12 : Hid (Below w1.heap.size w1 w2) := b2; have HE0 : Hid (CB w2 w.heap.size #[.slice ad n lcap, .int .i64 hd] 29) := HD0.out.below b2 HD0.out.lt; have e00 : w2.cell? ⟨w.heap.size, 0, none⟩ = some (.slice ad n lcap) := (HE0.out.cell 0).trans rfl; have e01 : w2.cell? ⟨w.heap.size, 1, none⟩ = some (.int .i64 hd) := (HE0.out.cell 1).trans rfl; have f00 := HE0.out.fr 0; have f01 := HE0.out.fr 1; clear hb hbl hO b2)))
  have hlt3 := HD3.out.lt
  have hp := HP.out
  have W0 : CB ((w2.setCell ⟨w.heap.size, 0, none⟩ (.slice (some ⟨b, 0, none⟩) n n)).setCell ⟨w.heap.size, 1, none⟩ (.int .i64 hd)) w.heap.size #[.slice (some ⟨b, 0, none⟩) n n, .int .i64 hd] 29 := (HE0.out.set 0 _).set 1 _
  have W1 : CB ((w2.setCell ⟨w.heap.size, 0, none⟩ (.slice (some ⟨b, 0, none⟩) n n)).setCell ⟨w.heap.size, 1, none⟩ (.int .i64 hd)) (w.heap.size + 1) #[.int .i64 ed, .int .i64 er, .string et, .slice ea en ecap] 32 := ((HD1.out.below HB12.out HD1.out.lt).other _ (by omega)).other _ (by omega)
  have Wr : CB ((w2.setCell ⟨w.heap.size, 0, none⟩ (.slice (some ⟨b, 0, none⟩) n n)).setCell ⟨w.heap.size, 1, none⟩ (.int .i64 hd)) (w.heap.size + 1 + 1) #[.slice none 0 0, .int .i64 0] 29 := ((HD2.out.below HB12.out HD2.out.lt).other _ (by omega)).other _ (by omega)
  have W3 : CB ((w2.setCell ⟨w.heap.size, 0, none⟩ (.slice (some ⟨b, 0, none⟩) n n)).setCell ⟨w.heap.size, 1, none⟩ (.int .i64 hd)) (w.heap.size + 1 + 1 + 1) #[.int .i64 HV1, .bool HV2] 159 := ((HD3.out.below HB12.out HD3.out.lt).other _ (by omega)).other _ (by omega)
  have WO : OwnE ((w2.setCell ⟨w.heap.size, 0, none⟩ (.slice (some ⟨b, 0, none⟩) n n)).setCell ⟨w.heap.size, 1, none⟩ (.int .i64 hd)) b n n es bl 32 56 := (HO2.out.other (by omega) (fun j hj => by have := HBL.out j hj; omega)).other (by omega) (fun j hj => by have := HBL.out j hj; omega)
  have WB : Below w.heap.size w ((w2.setCell ⟨w.heap.size, 0, none⟩ (.slice (some ⟨b, 0, none⟩) n n)).setCell ⟨w.heap.size, 1, none⟩ (.int .i64 hd)) := ((bel_on HB1.out HB12.out).setCell (by simp) _).setCell (by simp) _
  have WS : w2.heap.size = ((w2.setCell ⟨w.heap.size, 0, none⟩ (.slice (some ⟨b, 0, none⟩) n n)).setCell ⟨w.heap.size, 1, none⟩ (.int .i64 hd)).heap.size := by simp [World.setCell]
  have hb2 : b < w2.heap.size := by obtain ⟨cs, c1, _⟩ := HO2.out.main; exact c1.lt
  obtain ⟨V, hV⟩ : ∃ V, V = ((w2.setCell ⟨w.heap.size, 0, none⟩ (.slice (some ⟨b, 0, none⟩) n n)).setCell ⟨w.heap.size, 1, none⟩ (.int .i64 hd)) := ⟨_, rfl⟩
  rw [← hV] at W0 W1 Wr W3 WO WB WS ⊢
  clear hV e00 e01 f00 f01 d00 d01
  have k0 : V.cell? ⟨w.heap.size, 0, none⟩ = some (.slice (some ⟨b, 0, none⟩) n n) := (W0.cell 0).trans rfl
  have x0 : V.cell? ⟨w.heap.size + 1, 0, none⟩ = some (.int .i64 ed) := (W1.cell 0).trans rfl
  have x1 : V.cell? ⟨w.heap.size + 1, 1, none⟩ = some (.int .i64 er) := (W1.cell 1).trans rfl
  have x2 : V.cell? ⟨w.heap.size + 1, 2, none⟩ = some (.string et) := (W1.cell 2).trans rfl
  have x3 : V.cell? ⟨w.heap.size + 1, 3, none⟩ = some (.slice ea en ecap) := (W1.cell 3).trans rfl
  have z0 : V.cell? ⟨w.heap.size + 1 + 1 + 1, 0, none⟩ = some (.int .i64 HV1) := (W3.cell 0).trans rfl
  have HLV : Hid (LR V.drew ea en els) := HL.out.below WB.drew
  have HWr : Hid (CB V (w.heap.size + 1 + 1) #[.slice none 0 0, .int .i64 0] 29) := Wr
  have HW1 : Hid (CB V (w.heap.size + 1) #[.int .i64 ed, .int .i64 er, .string et, .slice ea en ecap] 32) := W1
  have HW3 : Hid (CB V (w.heap.size + 1 + 1 + 1) #[.int .i64 HV1, .bool HV2] 159) := W3
  have HWO : Hid (OwnE V b n n es bl 32 56) := WO
  have HWB : Hid (Below w.heap.size w V) := WB
  have HW0 : Hid (CB V w.heap.size #[.slice (some ⟨b, 0, none⟩) n n, .int .i64 hd] 29) := W0
  clear W0 W1 Wr W3 WO WB
  go_region_held_law (fun w' => w'.cell? ⟨w.heap.size, 0, none⟩ = some (.slice (some ⟨b, 0, none⟩) n n) ∧ w'.cell? ⟨w.heap.size + 1, 0, none⟩ = some (.int .i64 ed) ∧ w'.cell? ⟨w.heap.size + 1, 1, none⟩ = some (.int .i64 er) ∧ w'.cell? ⟨w.heap.size + 1, 2, none⟩ = some (.string et) ∧ w'.cell? ⟨w.heap.size + 1, 3, none⟩ = some (.slice ea en ecap) ∧ w'.cell? ⟨w.heap.size + 1 + 1 + 1, 0, none⟩ = some (.int .i64 HV1))
    (refine ⟨?_, ?_, ?_, ?_, ?_, ?_⟩ <;> first | assumption | (simp [*]; done) | (go_keep; done))
    (first
    | (go_simp; go_at_call 123; go_loud (refine (entryCopied_any _ _ _ _ _ _ els _ hen32 HLV.out).mono ?_; rintro e w4 ⟨b4, rfl, hb4, o4, b40⟩; have b4' : Below V.heap.size V w4 := ⟨b40.os, b40.tape, b40.output, b40.size, b40.block⟩; have W4a : Hid (Below w4.heap.size w4 (w4.alloc (.cells #[.int .i64 ed, .int .i64 er, .string et, .slice (some ⟨b4, 0, none⟩) en en] 32 (0, 0)))) := (Below.refl _ _).alloc (Nat.le_refl _) _; have HB4 : Hid (Below V.heap.size V (w4.alloc (.cells #[.int .i64 ed, .int .i64 er, .string et, .slice (some ⟨b4, 0, none⟩) en en] 32 (0, 0)))) := bel_on b4' W4a.out; have j0 : w4.cell? ⟨w.heap.size, 0, none⟩ = some (.slice (some ⟨b, 0, none⟩) n n) := keep_cell b4' k0; have j1 : w4.cell? ⟨w.heap.size + 1, 0, none⟩ = some (.int .i64 ed) := keep_cell b4' x0; have j2 : w4.cell? ⟨w.heap.size + 1, 1, none⟩ = some (.int .i64 er) := keep_cell b4' x1; have j3 : w4.cell? ⟨w.heap.size + 1, 2, none⟩ = some (.string et) := keep_cell b4' x2; have j4 : w4.cell? ⟨w.heap.size + 1, 3, none⟩ = some (.slice ea en ecap) := keep_cell b4' x3; have j5 : w4.cell? ⟨w.heap.size + 1 + 1 + 1, 0, none⟩ = some (.int .i64 HV1) := keep_cell b4' z0; have l0 : (w4.alloc (.cells #[.int .i64 ed, .int .i64 er, .string et, .slice (some ⟨b4, 0, none⟩) en en] 32 (0, 0))).cell? ⟨w.heap.size, 0, none⟩ = some (.slice (some ⟨b, 0, none⟩) n n) := keep_cell W4a.out j0; have l1 : (w4.alloc (.cells #[.int .i64 ed, .int .i64 er, .string et, .slice (some ⟨b4, 0, none⟩) en en] 32 (0, 0))).cell? ⟨w.heap.size + 1, 0, none⟩ = some (.int .i64 ed) := keep_cell W4a.out j1; have l2 : (w4.alloc (.cells #[.int .i64 ed, .int .i64 er, .string et, .slice (some ⟨b4, 0, none⟩) en en] 32 (0, 0))).cell? ⟨w.heap.size + 1, 1, none⟩ = some (.int .i64 er) := keep_cell W4a.out j2; have l3 : (w4.alloc (.cells #[.int .i64 ed, .int .i64 er, .string et, .slice (some ⟨b4, 0, none⟩) en en] 32 (0, 0))).cell? ⟨w.heap.size + 1, 2, none⟩ = some (.string et) := keep_cell W4a.out j3; have l4 : (w4.alloc (.cells #[.int .i64 ed, .int .i64 er, .string et, .slice (some ⟨b4, 0, none⟩) en en] 32 (0, 0))).cell? ⟨w.heap.size + 1, 3, none⟩ = some (.slice ea en ecap) := keep_cell W4a.out j4; have l5 : (w4.alloc (.cells #[.int .i64 ed, .int .i64 er, .string et, .slice (some ⟨b4, 0, none⟩) en en] 32 (0, 0))).cell? ⟨w.heap.size + 1 + 1 + 1, 0, none⟩ = some (.int .i64 HV1) := keep_cell W4a.out j5; have HO4 : Hid (OwnL (w4.alloc (.cells #[.int .i64 ed, .int .i64 er, .string et, .slice (some ⟨b4, 0, none⟩) en en] 32 (0, 0))) b4 en els 56) := o4.below W4a.out o4.lt; have HPB : Hid (V.heap.size ≤ b4) := hb4; clear b4' b40 o4 hb4; (try dsimp only)))
    | (go_loud (refine step_append rfl (Operand.tmp 15) (Operand.tmp 18) 27 rfl w1.heap.size 32 i0 (.agg #[.int .i64 0, .int .i64 0, .string ByteArray.empty, .slice none 0 0]) 4 56 Tryd.underlying27 hi hz0 hz1 hz2 rfl (by decide) (.slice (some ⟨b, 0, none⟩) n n) n (flE es (fun j => some ⟨bl j, 0, none⟩) (fun j => (es j).n) n) rfl ((HWO.out.keep HB4.out).owns HP.out (Nat.le_refl _) (by unfold maxLen; omega)) ⟨w4.heap.size, 0, none⟩ 1 1 (cellsE ⟨ed, er, et, en, els⟩ (some ⟨b4, 0, none⟩) en) rfl rfl (acells_at rfl) (cellsE_one _ _ _) (by unfold maxLen; omega) (by omega) (by have := HB4.out.size; omega) ?_; intro v5 w5 hown hgrow hat; have hbl4 : ∀ j, j < n → bl j < V.heap.size := (fun j hj => (HWO.out.own j hj).lt); obtain ⟨g, cp, rfl, hg2, hbg, hcp, hO5⟩ := OwnE.grow (e := ⟨ed, er, et, en, els⟩) (HWO.out.keep HB4.out) HO4.out (by have := HPB.out; omega) (fun j hj => by have := hbl4 j hj; have := HPB.out; omega) hown hgrow hat; have R5 : CB w5 (w.heap.size + 1 + 1) #[.slice none 0 0, .int .i64 0] 29 := CB.grownB (HWr.out.below HB4.out HWr.out.lt) hgrow (fun q => by have := ownb q; omega); have Z5 : CB w5 (w.heap.size + 1 + 1 + 1) #[.int .i64 HV1, .bool HV2] 159 := CB.grownB (HW3.out.below HB4.out HW3.out.lt) hgrow (fun q => by have := ownb q; omega); have Z0 : CB w5 w.heap.size #[.slice (some ⟨b, 0, none⟩) n n, .int .i64 hd] 29 := CB.grownB (HW0.out.below HB4.out HW0.out.lt) hgrow (fun q => by have := ownb q; omega); have Z1 : CB w5 (w.heap.size + 1) #[.int .i64 ed, .int .i64 er, .string et, .slice ea en ecap] 32 := CB.grownB (HW1.out.below HB4.out HW1.out.lt) hgrow (fun q => by have := ownb q; omega); have q0 : w5.cell? ⟨w.heap.size, 0, none⟩ = some (.slice (some ⟨b, 0, none⟩) n n) := (Z0.cell 0).trans rfl; have q1 : w5.cell? ⟨w.heap.size + 1, 0, none⟩ = some (.int .i64 ed) := (Z1.cell 0).trans rfl; have q2 : w5.cell? ⟨w.heap.size + 1, 1, none⟩ = some (.int .i64 er) := (Z1.cell 1).trans rfl; have q3 : w5.cell? ⟨w.heap.size + 1, 2, none⟩ = some (.string et) := (Z1.cell 2).trans rfl; have q4 : w5.cell? ⟨w.heap.size + 1, 3, none⟩ = some (.slice ea en ecap) := (Z1.cell 3).trans rfl; have q5 : w5.cell? ⟨w.heap.size + 1 + 1 + 1, 0, none⟩ = some (.int .i64 HV1) := (Z5.cell 0).trans rfl; have t0 : ((w5.setCell ⟨w.heap.size + 1 + 1, 0, none⟩ (.slice (some ⟨g, 0, none⟩) (n + 1) cp)).setCell ⟨w.heap.size + 1 + 1, 1, none⟩ (.int .i64 HV1)).cell? ⟨w.heap.size, 0, none⟩ = some (.slice (some ⟨b, 0, none⟩) n n) := (((Z0.other _ (by omega)).other _ (by omega)).cell 0).trans rfl; have t1 : ((w5.setCell ⟨w.heap.size + 1 + 1, 0, none⟩ (.slice (some ⟨g, 0, none⟩) (n + 1) cp)).setCell ⟨w.heap.size + 1 + 1, 1, none⟩ (.int .i64 HV1)).cell? ⟨w.heap.size + 1, 0, none⟩ = some (.int .i64 ed) := (((Z1.other _ (by omega)).other _ (by omega)).cell 0).trans rfl; have t2 : ((w5.setCell ⟨w.heap.size + 1 + 1, 0, none⟩ (.slice (some ⟨g, 0, none⟩) (n + 1) cp)).setCell ⟨w.heap.size + 1 + 1, 1, none⟩ (.int .i64 HV1)).cell? ⟨w.heap.size + 1, 1, none⟩ = some (.int .i64 er) := (((Z1.other _ (by omega)).other _ (by omega)).cell 1).trans rfl; have t3 : ((w5.setCell ⟨w.heap.size + 1 + 1, 0, none⟩ (.slice (some ⟨g, 0, none⟩) (n + 1) cp)).setCell ⟨w.heap.size + 1 + 1, 1, none⟩ (.int .i64 HV1)).cell? ⟨w.heap.size + 1, 2, none⟩ = some (.string et) := (((Z1.other _ (by omega)).other _ (by omega)).cell 2).trans rfl; have t4 : ((w5.setCell ⟨w.heap.size + 1 + 1, 0, none⟩ (.slice (some ⟨g, 0, none⟩) (n + 1) cp)).setCell ⟨w.heap.size + 1 + 1, 1, none⟩ (.int .i64 HV1)).cell? ⟨w.heap.size + 1, 3, none⟩ = some (.slice ea en ecap) := (((Z1.other _ (by omega)).other _ (by omega)).cell 3).trans rfl; have t5 : ((w5.setCell ⟨w.heap.size + 1 + 1, 0, none⟩ (.slice (some ⟨g, 0, none⟩) (n + 1) cp)).setCell ⟨w.heap.size + 1 + 1, 1, none⟩ (.int .i64 HV1)).cell? ⟨w.heap.size + 1 + 1 + 1, 0, none⟩ = some (.int .i64 HV1) := (((Z5.other _ (by omega)).other _ (by omega)).cell 0).trans rfl; have r50 : w5.cell? ⟨w.heap.size + 1 + 1, 0, none⟩ = some (.slice none 0 0) := (R5.cell 0).trans rfl; have r51 : w5.cell? ⟨w.heap.size + 1 + 1, 1, none⟩ = some (.int .i64 0) := (R5.cell 1).trans rfl; have fr0 := R5.fr 0; have fr1 := R5.fr 1; have HR5 : Hid (CB w5 (w.heap.size + 1 + 1) #[.slice none 0 0, .int .i64 0] 29) := R5; have HO5 : Hid (OwnE w5 g cp (n + 1) (snE es n ⟨ed, er, et, en, els⟩) (fun j => if j = n then b4 else bl j) 32 56) := hO5; have HB5 : Hid (Below w.heap.size w w5) := below_grown (bel_on HWB.out HB4.out) (Nat.le_refl _) hgrow (fun r q => by have := ownb q.symm; omega); have HGG : Hid (w1.heap.size ≤ g) := hbg; have HCP : Hid (n + 1 ≤ cp) := hcp; have HBL4 : Hid (∀ j, j < n + 1 → w1.heap.size ≤ (if j = n then b4 else bl j)) := ite_ge (by have := HPB.out; omega) (fun j hj => by have := HBL.out j hj; omega); clear hown hgrow hat hbl4 hg2 hbg hcp hO5 R5 Z5 Z0 Z1)))
  all_goals
    have hX := (HR5.out.set 0 (.slice (some ⟨g, 0, none⟩) (n + 1) cp)).set 1 (.int .i64 HV1)
    have hg := HGG.out
    have hY := (HO5.out.other (c := w.heap.size + 1 + 1) (o := 0) (v := .slice (some ⟨g, 0, none⟩) (n + 1) cp) (by omega) (fun j hj => by have := HBL4.out j hj; omega)).other (c := w.heap.size + 1 + 1) (o := 1) (v := .int .i64 HV1) (by omega) (fun j hj => by have := HBL4.out j hj; omega)
    have hZ := (HB5.out.setCell (p := ⟨w.heap.size + 1 + 1, 0, none⟩) (by simp; omega) (.slice (some ⟨g, 0, none⟩) (n + 1) cp)).setCell (p := ⟨w.heap.size + 1 + 1, 1, none⟩) (by simp; omega) (.int .i64 HV1)
    have e0 := hX.cell 0
    have e1 := hX.cell 1
    simp at e0 e1
    clear hX
    try go_wp2
    generalize (World.setCell _ _ _) = W9 at e0 e1 hY hZ ⊢
    refine bodyPost_ret (by simp [results, Tryd.results72, go_sem, e0, e1]; try rfl) rfl ?_
    exact ⟨g, cp, by rw [← HHV.out], hY.new HCP.out (by omega) (fun j hj => by have := HBL4.out j hj; omega), hZ⟩

end Go.Proofs.YtgnhpjlfdkpaiaaDoor


namespace Go.Proofs.YtgnhpjlfdkpaiaaDoor
open Go Go.ChangeShapes Go.WideShapes Go.ChangeAt Go.RowKit
set_option linter.unusedVariables false
set_option linter.unusedSimpArgs false

theorem NewE.set {lo hi c o : Nat} {w : World} {v : Value} {ad : Option Addr} {n : Nat} {es : Nat → E4} {t tl : TypeId} (h : NewE lo hi w ad n es t tl) (hc : c < lo) : NewE lo hi (w.setCell ⟨c, o, none⟩ v) ad n es t tl :=
  h.kr (a := c) (b := c + 1) ((KR.refl _ _ _).set (Nat.le_refl _) (by omega) v) (.inl (by omega))

set_option maxRecDepth 20000 in
set_option maxHeartbeats 4000000 in
theorem implPost_bad (fa : Option Addr) (len cap : Nat) (c : Nat → C3) (d u : Int) (ad : Option Addr) (n lcap : Nat) (es : Nat → E4) (hd : Int) (ed er : Int) (et : ByteArray) (ea : Option Addr) (en ecap : Nat) (els : Nat → L5) (w : World)
    (hl : (len : Int) ≤ 1048576) (hc : ∀ j, (c j).code.size ≤ maxLen) (hr : CR w fa len c) (hE : EL w) (hR : ER w ad n es) (hnn : ∀ j, j < n → ((es j).n : Int) ≤ 1048576) (hL : LR w ea en els)
    (h1 : leB len c d u n es hd = false) :
    Calls Tryd.prog 16 #[.agg #[.slice fa len cap, .int .i64 d, .int .i64 u], .agg #[.slice ad n lcap, .int .i64 hd], .agg #[.int .i64 ed, .int .i64 er, .string et, .slice ea en ecap]] w fun e w' =>
      e = .returned (.tuple #[.agg #[.slice none 0 0, .int .i64 0], .int .i64 1]) ∧ Below w.heap.size w w' := by
  have HC : Hid (∀ j, (c j).code.size ≤ maxLen) := hc
  have HNN : Hid (∀ j, j < n → ((es j).n : Int) ≤ 1048576) := hnn
  have HR : Hid (ER w ad n es) := hR
  have HL : Hid (LR w ea en els) := hL
  have HBA : Hid (Below w.heap.size w ((((w.alloc (.cells #[.slice fa len cap, .int .i64 d, .int .i64 u] 26 (0, 0))).alloc (.cells #[.slice ad n lcap, .int .i64 hd] 29 (0, 0))).alloc (.cells #[.int .i64 ed, .int .i64 er, .string et, .slice ea en ecap] 32 (0, 0))).alloc (.cells #[.slice none 0 0, .int .i64 0] 29 (0, 0)))) := ((((Below.refl _ _).alloc (Nat.le_refl _) _).alloc (by simp) _).alloc (by simp; omega) _).alloc (by simp; omega) _
  have HCR : Hid (CR ((((w.alloc (.cells #[.slice fa len cap, .int .i64 d, .int .i64 u] 26 (0, 0))).alloc (.cells #[.slice ad n lcap, .int .i64 hd] 29 (0, 0))).alloc (.cells #[.int .i64 ed, .int .i64 er, .string et, .slice ea en ecap] 32 (0, 0))).alloc (.cells #[.slice none 0 0, .int .i64 0] 29 (0, 0))) fa len c) := hr.below HBA.out
  have HEL : Hid (EL ((((w.alloc (.cells #[.slice fa len cap, .int .i64 d, .int .i64 u] 26 (0, 0))).alloc (.cells #[.slice ad n lcap, .int .i64 hd] 29 (0, 0))).alloc (.cells #[.int .i64 ed, .int .i64 er, .string et, .slice ea en ecap] 32 (0, 0))).alloc (.cells #[.slice none 0 0, .int .i64 0] 29 (0, 0)))) := hE.below HBA.out hE.nine
  clear hc hnn hR hL hr hE
  go_enter Tryd.func16, Tryd.ntmps16
  go_wp2_with (first
    | (go_at_call 68; go_loud (refine (lay_any _ _ _ c _ _ _ hl HC.out HCR.out HEL.out).mono ?_; rintro e w1 ⟨T, rfl, hT, b1⟩; have X0 : CB w1 (w.heap.size) #[.slice fa len cap, .int .i64 d, .int .i64 u] 26 := ((((CB.newAt (by simp) _ _).alloc _).alloc _).alloc _).below b1 (by first | (simp; done) | (simp; omega)); have X1 : CB w1 (w.heap.size + 1) #[.slice ad n lcap, .int .i64 hd] 29 := (((CB.newAt (by simp) _ _).alloc _).alloc _).below b1 (by first | (simp; done) | (simp; omega)); have X2 : CB w1 (w.heap.size + 1 + 1) #[.int .i64 ed, .int .i64 er, .string et, .slice ea en ecap] 32 := ((CB.newAt (by simp) _ _).alloc _).below b1 (by first | (simp; done) | (simp; omega)); have X3 : CB w1 (w.heap.size + 1 + 1 + 1) #[.slice none 0 0, .int .i64 0] 29 := (CB.newAt (by simp) _ _).below b1 (by first | (simp; done) | (simp; omega)); have HA : Hid (Below w1.heap.size w1 (w1.alloc (.cells #[.slice fa len cap, .int .i64 d, .int .i64 u, .pointer (some ⟨T, 0, none⟩)] 108 (0, 0)))) := (Below.refl _ _).alloc (Nat.le_refl _) _; have a10 : (w1.alloc (.cells #[.slice fa len cap, .int .i64 d, .int .i64 u, .pointer (some ⟨T, 0, none⟩)] 108 (0, 0))).cell? ⟨w.heap.size + 1, 0, none⟩ = some (.slice ad n lcap) := keep_cell HA.out ((X1.cell 0).trans rfl); have a11 : (w1.alloc (.cells #[.slice fa len cap, .int .i64 d, .int .i64 u, .pointer (some ⟨T, 0, none⟩)] 108 (0, 0))).cell? ⟨w.heap.size + 1, 1, none⟩ = some (.int .i64 hd) := keep_cell HA.out ((X1.cell 1).trans rfl); have HT1 : Hid (Tree (w1.alloc (.cells #[.slice fa len cap, .int .i64 d, .int .i64 u, .pointer (some ⟨T, 0, none⟩)] 108 (0, 0))) T len c) := hT.below HA.out; have H0 : Hid (CB w1 (w.heap.size) #[.slice fa len cap, .int .i64 d, .int .i64 u] 26) := X0; have H1 : Hid (CB w1 (w.heap.size + 1) #[.slice ad n lcap, .int .i64 hd] 29) := X1; have H2 : Hid (CB w1 (w.heap.size + 1 + 1) #[.int .i64 ed, .int .i64 er, .string et, .slice ea en ecap] 32) := X2; have H3 : Hid (CB w1 (w.heap.size + 1 + 1 + 1) #[.slice none 0 0, .int .i64 0] 29) := X3; have HB1 : Hid (Below w.heap.size w w1) := bel_on HBA.out b1; clear b1 hT X0 X1 X2 X3))
    | (go_at_call 69; go_loud (refine (isRightIn_any _ _ _ c _ _ T _ _ _ es _ _ HT1.out (HR.out.below (bel_on HB1.out HA.out))).mono ?_; rintro e w2 ⟨rfl, b2⟩; rw [h1]; have bb : Below w1.heap.size w1 w2 := bel_on HA.out b2; have c20 : w2.cell? ⟨w.heap.size + 1 + 1, 0, none⟩ = some (.int .i64 ed) := ((H2.out.below bb H2.out.lt).cell 0).trans rfl; have c21 : w2.cell? ⟨w.heap.size + 1 + 1, 1, none⟩ = some (.int .i64 er) := ((H2.out.below bb H2.out.lt).cell 1).trans rfl; have c22 : w2.cell? ⟨w.heap.size + 1 + 1, 2, none⟩ = some (.string et) := ((H2.out.below bb H2.out.lt).cell 2).trans rfl; have c23 : w2.cell? ⟨w.heap.size + 1 + 1, 3, none⟩ = some (.slice ea en ecap) := ((H2.out.below bb H2.out.lt).cell 3).trans rfl; have c30 : w2.cell? ⟨w.heap.size + 1 + 1 + 1, 0, none⟩ = some (.slice none 0 0) := ((H3.out.below bb H3.out.lt).cell 0).trans rfl; have c31 : w2.cell? ⟨w.heap.size + 1 + 1 + 1, 1, none⟩ = some (.int .i64 0) := ((H3.out.below bb H3.out.lt).cell 1).trans rfl; have c80 : w2.cell? ⟨w1.heap.size, 0, none⟩ = some (.slice fa len cap) := (((CB.new _ _).below b2 (by simp)).cell 0).trans rfl; have c81 : w2.cell? ⟨w1.heap.size, 1, none⟩ = some (.int .i64 d) := (((CB.new _ _).below b2 (by simp)).cell 1).trans rfl; have c82 : w2.cell? ⟨w1.heap.size, 2, none⟩ = some (.int .i64 u) := (((CB.new _ _).below b2 (by simp)).cell 2).trans rfl; have c83 : w2.cell? ⟨w1.heap.size, 3, none⟩ = some (.pointer (some ⟨T, 0, none⟩)) := (((CB.new _ _).below b2 (by simp)).cell 3).trans rfl; have f30 := (H3.out.below bb H3.out.lt).fr 0; have f31 := (H3.out.below bb H3.out.lt).fr 1; have HT2 : Hid (Tree w2 T len c) := HT1.out.below b2; have HB2 : Hid (Below w1.heap.size w1 w2) := bb; clear b2 bb)))
  have hlt3 := H3.out.lt
  have hsz1 := HB1.out.size
  have hX := ((H3.out.below HB2.out H3.out.lt).set 0 (.slice none 0 0)).set 1 (.int .i64 0)
  have hZ := ((bel_on HB1.out HB2.out).setCell (p := ⟨w.heap.size + 1 + 1 + 1, 0, none⟩) (by simp; omega) (.slice none 0 0)).setCell (p := ⟨w.heap.size + 1 + 1 + 1, 1, none⟩) (by simp; omega) (.int .i64 0)
  have e0 := hX.cell 0
  have e1 := hX.cell 1
  simp at e0 e1
  clear hX
  generalize (World.setCell _ _ _) = W9 at e0 e1 hZ ⊢
  refine bodyPost_ret (by simp [results, Tryd.results16, go_sem, e0, e1]; try rfl) rfl ?_
  exact ⟨rfl, hZ⟩

set_option maxRecDepth 20000 in
set_option maxHeartbeats 4000000 in
theorem implPost_entry (fa : Option Addr) (len cap : Nat) (c : Nat → C3) (d u : Int) (ad : Option Addr) (n lcap : Nat) (es : Nat → E4) (hd : Int) (ed er : Int) (et : ByteArray) (ea : Option Addr) (en ecap : Nat) (els : Nat → L5) (w : World)
    (hl : (len : Int) ≤ 1048576) (hc : ∀ j, (c j).code.size ≤ maxLen) (hr : CR w fa len c) (hE : EL w) (hR : ER w ad n es) (hnn : ∀ j, j < n → ((es j).n : Int) ≤ 1048576) (hL : LR w ea en els)
    (h1 : leB len c d u n es hd = true) (h2 : enB len c d u ⟨ed, er, et, en, els⟩ = false) :
    Calls Tryd.prog 16 #[.agg #[.slice fa len cap, .int .i64 d, .int .i64 u], .agg #[.slice ad n lcap, .int .i64 hd], .agg #[.int .i64 ed, .int .i64 er, .string et, .slice ea en ecap]] w fun e w' =>
      ∃ ad cc, e = .returned (.tuple #[.agg #[.slice ad n cc, .int .i64 hd], .int .i64 2]) ∧ NewE w.heap.size w'.heap.size w' ad n es 32 56 ∧ Below w.heap.size w w' := by
  have HC : Hid (∀ j, (c j).code.size ≤ maxLen) := hc
  have HNN : Hid (∀ j, j < n → ((es j).n : Int) ≤ 1048576) := hnn
  have HR : Hid (ER w ad n es) := hR
  have HL : Hid (LR w ea en els) := hL
  have HBA : Hid (Below w.heap.size w ((((w.alloc (.cells #[.slice fa len cap, .int .i64 d, .int .i64 u] 26 (0, 0))).alloc (.cells #[.slice ad n lcap, .int .i64 hd] 29 (0, 0))).alloc (.cells #[.int .i64 ed, .int .i64 er, .string et, .slice ea en ecap] 32 (0, 0))).alloc (.cells #[.slice none 0 0, .int .i64 0] 29 (0, 0)))) := ((((Below.refl _ _).alloc (Nat.le_refl _) _).alloc (by simp) _).alloc (by simp; omega) _).alloc (by simp; omega) _
  have HCR : Hid (CR ((((w.alloc (.cells #[.slice fa len cap, .int .i64 d, .int .i64 u] 26 (0, 0))).alloc (.cells #[.slice ad n lcap, .int .i64 hd] 29 (0, 0))).alloc (.cells #[.int .i64 ed, .int .i64 er, .string et, .slice ea en ecap] 32 (0, 0))).alloc (.cells #[.slice none 0 0, .int .i64 0] 29 (0, 0))) fa len c) := hr.below HBA.out
  have HEL : Hid (EL ((((w.alloc (.cells #[.slice fa len cap, .int .i64 d, .int .i64 u] 26 (0, 0))).alloc (.cells #[.slice ad n lcap, .int .i64 hd] 29 (0, 0))).alloc (.cells #[.int .i64 ed, .int .i64 er, .string et, .slice ea en ecap] 32 (0, 0))).alloc (.cells #[.slice none 0 0, .int .i64 0] 29 (0, 0)))) := hE.below HBA.out hE.nine
  clear hc hnn hR hL hr hE
  have hn32 : (n : Int) ≤ 1048576 := by have := (leB_out h1).2.1; omega
  go_enter Tryd.func16, Tryd.ntmps16
  go_wp2_with (first
    | (go_at_call 68; go_loud (refine (lay_any _ _ _ c _ _ _ hl HC.out HCR.out HEL.out).mono ?_; rintro e w1 ⟨T, rfl, hT, b1⟩; have X0 : CB w1 (w.heap.size) #[.slice fa len cap, .int .i64 d, .int .i64 u] 26 := ((((CB.newAt (by simp) _ _).alloc _).alloc _).alloc _).below b1 (by first | (simp; done) | (simp; omega)); have X1 : CB w1 (w.heap.size + 1) #[.slice ad n lcap, .int .i64 hd] 29 := (((CB.newAt (by simp) _ _).alloc _).alloc _).below b1 (by first | (simp; done) | (simp; omega)); have X2 : CB w1 (w.heap.size + 1 + 1) #[.int .i64 ed, .int .i64 er, .string et, .slice ea en ecap] 32 := ((CB.newAt (by simp) _ _).alloc _).below b1 (by first | (simp; done) | (simp; omega)); have X3 : CB w1 (w.heap.size + 1 + 1 + 1) #[.slice none 0 0, .int .i64 0] 29 := (CB.newAt (by simp) _ _).below b1 (by first | (simp; done) | (simp; omega)); have HA : Hid (Below w1.heap.size w1 (w1.alloc (.cells #[.slice fa len cap, .int .i64 d, .int .i64 u, .pointer (some ⟨T, 0, none⟩)] 108 (0, 0)))) := (Below.refl _ _).alloc (Nat.le_refl _) _; have a10 : (w1.alloc (.cells #[.slice fa len cap, .int .i64 d, .int .i64 u, .pointer (some ⟨T, 0, none⟩)] 108 (0, 0))).cell? ⟨w.heap.size + 1, 0, none⟩ = some (.slice ad n lcap) := keep_cell HA.out ((X1.cell 0).trans rfl); have a11 : (w1.alloc (.cells #[.slice fa len cap, .int .i64 d, .int .i64 u, .pointer (some ⟨T, 0, none⟩)] 108 (0, 0))).cell? ⟨w.heap.size + 1, 1, none⟩ = some (.int .i64 hd) := keep_cell HA.out ((X1.cell 1).trans rfl); have HT1 : Hid (Tree (w1.alloc (.cells #[.slice fa len cap, .int .i64 d, .int .i64 u, .pointer (some ⟨T, 0, none⟩)] 108 (0, 0))) T len c) := hT.below HA.out; have H0 : Hid (CB w1 (w.heap.size) #[.slice fa len cap, .int .i64 d, .int .i64 u] 26) := X0; have H1 : Hid (CB w1 (w.heap.size + 1) #[.slice ad n lcap, .int .i64 hd] 29) := X1; have H2 : Hid (CB w1 (w.heap.size + 1 + 1) #[.int .i64 ed, .int .i64 er, .string et, .slice ea en ecap] 32) := X2; have H3 : Hid (CB w1 (w.heap.size + 1 + 1 + 1) #[.slice none 0 0, .int .i64 0] 29) := X3; have HB1 : Hid (Below w.heap.size w w1) := bel_on HBA.out b1; clear b1 hT X0 X1 X2 X3))
    | (go_at_call 69; go_loud (refine (isRightIn_any _ _ _ c _ _ T _ _ _ es _ _ HT1.out (HR.out.below (bel_on HB1.out HA.out))).mono ?_; rintro e w2 ⟨rfl, b2⟩; rw [h1]; have bb : Below w1.heap.size w1 w2 := bel_on HA.out b2; have c20 : w2.cell? ⟨w.heap.size + 1 + 1, 0, none⟩ = some (.int .i64 ed) := ((H2.out.below bb H2.out.lt).cell 0).trans rfl; have c21 : w2.cell? ⟨w.heap.size + 1 + 1, 1, none⟩ = some (.int .i64 er) := ((H2.out.below bb H2.out.lt).cell 1).trans rfl; have c22 : w2.cell? ⟨w.heap.size + 1 + 1, 2, none⟩ = some (.string et) := ((H2.out.below bb H2.out.lt).cell 2).trans rfl; have c23 : w2.cell? ⟨w.heap.size + 1 + 1, 3, none⟩ = some (.slice ea en ecap) := ((H2.out.below bb H2.out.lt).cell 3).trans rfl; have c30 : w2.cell? ⟨w.heap.size + 1 + 1 + 1, 0, none⟩ = some (.slice none 0 0) := ((H3.out.below bb H3.out.lt).cell 0).trans rfl; have c31 : w2.cell? ⟨w.heap.size + 1 + 1 + 1, 1, none⟩ = some (.int .i64 0) := ((H3.out.below bb H3.out.lt).cell 1).trans rfl; have c80 : w2.cell? ⟨w1.heap.size, 0, none⟩ = some (.slice fa len cap) := (((CB.new _ _).below b2 (by simp)).cell 0).trans rfl; have c81 : w2.cell? ⟨w1.heap.size, 1, none⟩ = some (.int .i64 d) := (((CB.new _ _).below b2 (by simp)).cell 1).trans rfl; have c82 : w2.cell? ⟨w1.heap.size, 2, none⟩ = some (.int .i64 u) := (((CB.new _ _).below b2 (by simp)).cell 2).trans rfl; have c83 : w2.cell? ⟨w1.heap.size, 3, none⟩ = some (.pointer (some ⟨T, 0, none⟩)) := (((CB.new _ _).below b2 (by simp)).cell 3).trans rfl; have f30 := (H3.out.below bb H3.out.lt).fr 0; have f31 := (H3.out.below bb H3.out.lt).fr 1; have HT2 : Hid (Tree w2 T len c) := HT1.out.below b2; have HB2 : Hid (Below w1.heap.size w1 w2) := bb; clear b2 bb))
    | (go_at_call 70; go_loud (refine (takes_any _ _ _ c _ _ T _ _ _ _ _ _ els _ HT2.out (HL.out.below (bel_on HB1.out HB2.out))).mono ?_; rintro e w3 ⟨rfl, b3⟩; rw [h2]; have bb : Below w1.heap.size w1 w3 := bel_on HB2.out b3; have d10 : w3.cell? ⟨w.heap.size + 1, 0, none⟩ = some (.slice ad n lcap) := ((H1.out.below bb H1.out.lt).cell 0).trans rfl; have d11 : w3.cell? ⟨w.heap.size + 1, 1, none⟩ = some (.int .i64 hd) := ((H1.out.below bb H1.out.lt).cell 1).trans rfl; have d20 : w3.cell? ⟨w.heap.size + 1 + 1, 0, none⟩ = some (.int .i64 ed) := ((H2.out.below bb H2.out.lt).cell 0).trans rfl; have d21 : w3.cell? ⟨w.heap.size + 1 + 1, 1, none⟩ = some (.int .i64 er) := ((H2.out.below bb H2.out.lt).cell 1).trans rfl; have d22 : w3.cell? ⟨w.heap.size + 1 + 1, 2, none⟩ = some (.string et) := ((H2.out.below bb H2.out.lt).cell 2).trans rfl; have d23 : w3.cell? ⟨w.heap.size + 1 + 1, 3, none⟩ = some (.slice ea en ecap) := ((H2.out.below bb H2.out.lt).cell 3).trans rfl; have d30 : w3.cell? ⟨w.heap.size + 1 + 1 + 1, 0, none⟩ = some (.slice none 0 0) := ((H3.out.below bb H3.out.lt).cell 0).trans rfl; have d31 : w3.cell? ⟨w.heap.size + 1 + 1 + 1, 1, none⟩ = some (.int .i64 0) := ((H3.out.below bb H3.out.lt).cell 1).trans rfl; have HB3 : Hid (Below w1.heap.size w1 w3) := bb; clear b3 bb))
    | (go_at_call 71; go_loud (refine (ledgerCopied_any _ _ _ es _ _ hn32 HNN.out (HR.out.below (bel_on HB1.out HB3.out))).mono ?_; rintro e w4 ⟨b, bl, rfl, hb, hbl, hO, b4⟩; have bb : Below w1.heap.size w1 w4 := bel_on HB3.out b4; have e30 : w4.cell? ⟨w.heap.size + 1 + 1 + 1, 0, none⟩ = some (.slice none 0 0) := ((H3.out.below bb H3.out.lt).cell 0).trans rfl; have e31 : w4.cell? ⟨w.heap.size + 1 + 1 + 1, 1, none⟩ = some (.int .i64 0) := ((H3.out.below bb H3.out.lt).cell 1).trans rfl; have f30 := (H3.out.below bb H3.out.lt).fr 0; have f31 := (H3.out.below bb H3.out.lt).fr 1; have HP : Hid (w3.heap.size ≤ b) := hb; have HBL : Hid (∀ j, j < n → b < bl j) := hbl; have HO4 : Hid (OwnE w4 b n n es bl 32 56) := hO; have HB4 : Hid (Below w1.heap.size w1 w4) := bb; clear hb hbl hO b4 bb)))
  have hp := HP.out
  have hs3 := HB3.out.size
  have hlt3 := H3.out.lt
  have hsz1 := HB1.out.size
  have hX := ((H3.out.below HB4.out H3.out.lt).set 0 (.slice (some ⟨b, 0, none⟩) n n)).set 1 (.int .i64 hd)
  have hY := (HO4.out.other (c := w.heap.size + 1 + 1 + 1) (o := 0) (v := .slice (some ⟨b, 0, none⟩) n n) (by omega) (fun j hj => by have := HBL.out j hj; omega)).other (c := w.heap.size + 1 + 1 + 1) (o := 1) (v := .int .i64 hd) (by omega) (fun j hj => by have := HBL.out j hj; omega)
  have hZ := ((bel_on HB1.out HB4.out).setCell (p := ⟨w.heap.size + 1 + 1 + 1, 0, none⟩) (by simp; omega) (.slice (some ⟨b, 0, none⟩) n n)).setCell (p := ⟨w.heap.size + 1 + 1 + 1, 1, none⟩) (by simp; omega) (.int .i64 hd)
  have e0 := hX.cell 0
  have e1 := hX.cell 1
  simp at e0 e1
  clear hX
  generalize (World.setCell _ _ _) = W9 at e0 e1 hY hZ ⊢
  refine bodyPost_ret (by simp [results, Tryd.results16, go_sem, e0, e1]; try rfl) rfl ?_
  exact ⟨_, _, rfl, hY.new (Nat.le_refl _) (by omega) (fun j hj => by have := HBL.out j hj; omega), hZ⟩

set_option maxRecDepth 20000 in
set_option maxHeartbeats 4000000 in
theorem implPost_full (fa : Option Addr) (len cap : Nat) (c : Nat → C3) (d u : Int) (ad : Option Addr) (n lcap : Nat) (es : Nat → E4) (hd : Int) (ed er : Int) (et : ByteArray) (ea : Option Addr) (en ecap : Nat) (els : Nat → L5) (w : World)
    (hl : (len : Int) ≤ 1048576) (hc : ∀ j, (c j).code.size ≤ maxLen) (hr : CR w fa len c) (hE : EL w) (hR : ER w ad n es) (hnn : ∀ j, j < n → ((es j).n : Int) ≤ 1048576) (hL : LR w ea en els)
    (h1 : leB len c d u n es hd = true) (h2 : enB len c d u ⟨ed, er, et, en, els⟩ = true) (h3 : n = 1000) :
    Calls Tryd.prog 16 #[.agg #[.slice fa len cap, .int .i64 d, .int .i64 u], .agg #[.slice ad n lcap, .int .i64 hd], .agg #[.int .i64 ed, .int .i64 er, .string et, .slice ea en ecap]] w fun e w' =>
      ∃ ad cc, e = .returned (.tuple #[.agg #[.slice ad n cc, .int .i64 hd], .int .i64 3]) ∧ NewE w.heap.size w'.heap.size w' ad n es 32 56 ∧ Below w.heap.size w w' := by
  have HC : Hid (∀ j, (c j).code.size ≤ maxLen) := hc
  have HNN : Hid (∀ j, j < n → ((es j).n : Int) ≤ 1048576) := hnn
  have HR : Hid (ER w ad n es) := hR
  have HL : Hid (LR w ea en els) := hL
  have HBA : Hid (Below w.heap.size w ((((w.alloc (.cells #[.slice fa len cap, .int .i64 d, .int .i64 u] 26 (0, 0))).alloc (.cells #[.slice ad n lcap, .int .i64 hd] 29 (0, 0))).alloc (.cells #[.int .i64 ed, .int .i64 er, .string et, .slice ea en ecap] 32 (0, 0))).alloc (.cells #[.slice none 0 0, .int .i64 0] 29 (0, 0)))) := ((((Below.refl _ _).alloc (Nat.le_refl _) _).alloc (by simp) _).alloc (by simp; omega) _).alloc (by simp; omega) _
  have HCR : Hid (CR ((((w.alloc (.cells #[.slice fa len cap, .int .i64 d, .int .i64 u] 26 (0, 0))).alloc (.cells #[.slice ad n lcap, .int .i64 hd] 29 (0, 0))).alloc (.cells #[.int .i64 ed, .int .i64 er, .string et, .slice ea en ecap] 32 (0, 0))).alloc (.cells #[.slice none 0 0, .int .i64 0] 29 (0, 0))) fa len c) := hr.below HBA.out
  have HEL : Hid (EL ((((w.alloc (.cells #[.slice fa len cap, .int .i64 d, .int .i64 u] 26 (0, 0))).alloc (.cells #[.slice ad n lcap, .int .i64 hd] 29 (0, 0))).alloc (.cells #[.int .i64 ed, .int .i64 er, .string et, .slice ea en ecap] 32 (0, 0))).alloc (.cells #[.slice none 0 0, .int .i64 0] 29 (0, 0)))) := hE.below HBA.out hE.nine
  clear hc hnn hR hL hr hE
  have hn32 : (n : Int) ≤ 1048576 := by have := (leB_out h1).2.1; omega
  have hne : ((n : Int) == 1000) = true := by simp; omega
  clear h3
  go_enter Tryd.func16, Tryd.ntmps16
  go_wp2_with (first
    | (go_at_call 68; go_loud (refine (lay_any _ _ _ c _ _ _ hl HC.out HCR.out HEL.out).mono ?_; rintro e w1 ⟨T, rfl, hT, b1⟩; have X0 : CB w1 (w.heap.size) #[.slice fa len cap, .int .i64 d, .int .i64 u] 26 := ((((CB.newAt (by simp) _ _).alloc _).alloc _).alloc _).below b1 (by first | (simp; done) | (simp; omega)); have X1 : CB w1 (w.heap.size + 1) #[.slice ad n lcap, .int .i64 hd] 29 := (((CB.newAt (by simp) _ _).alloc _).alloc _).below b1 (by first | (simp; done) | (simp; omega)); have X2 : CB w1 (w.heap.size + 1 + 1) #[.int .i64 ed, .int .i64 er, .string et, .slice ea en ecap] 32 := ((CB.newAt (by simp) _ _).alloc _).below b1 (by first | (simp; done) | (simp; omega)); have X3 : CB w1 (w.heap.size + 1 + 1 + 1) #[.slice none 0 0, .int .i64 0] 29 := (CB.newAt (by simp) _ _).below b1 (by first | (simp; done) | (simp; omega)); have HA : Hid (Below w1.heap.size w1 (w1.alloc (.cells #[.slice fa len cap, .int .i64 d, .int .i64 u, .pointer (some ⟨T, 0, none⟩)] 108 (0, 0)))) := (Below.refl _ _).alloc (Nat.le_refl _) _; have a10 : (w1.alloc (.cells #[.slice fa len cap, .int .i64 d, .int .i64 u, .pointer (some ⟨T, 0, none⟩)] 108 (0, 0))).cell? ⟨w.heap.size + 1, 0, none⟩ = some (.slice ad n lcap) := keep_cell HA.out ((X1.cell 0).trans rfl); have a11 : (w1.alloc (.cells #[.slice fa len cap, .int .i64 d, .int .i64 u, .pointer (some ⟨T, 0, none⟩)] 108 (0, 0))).cell? ⟨w.heap.size + 1, 1, none⟩ = some (.int .i64 hd) := keep_cell HA.out ((X1.cell 1).trans rfl); have HT1 : Hid (Tree (w1.alloc (.cells #[.slice fa len cap, .int .i64 d, .int .i64 u, .pointer (some ⟨T, 0, none⟩)] 108 (0, 0))) T len c) := hT.below HA.out; have H0 : Hid (CB w1 (w.heap.size) #[.slice fa len cap, .int .i64 d, .int .i64 u] 26) := X0; have H1 : Hid (CB w1 (w.heap.size + 1) #[.slice ad n lcap, .int .i64 hd] 29) := X1; have H2 : Hid (CB w1 (w.heap.size + 1 + 1) #[.int .i64 ed, .int .i64 er, .string et, .slice ea en ecap] 32) := X2; have H3 : Hid (CB w1 (w.heap.size + 1 + 1 + 1) #[.slice none 0 0, .int .i64 0] 29) := X3; have HB1 : Hid (Below w.heap.size w w1) := bel_on HBA.out b1; clear b1 hT X0 X1 X2 X3))
    | (go_at_call 69; go_loud (refine (isRightIn_any _ _ _ c _ _ T _ _ _ es _ _ HT1.out (HR.out.below (bel_on HB1.out HA.out))).mono ?_; rintro e w2 ⟨rfl, b2⟩; rw [h1]; have bb : Below w1.heap.size w1 w2 := bel_on HA.out b2; have c20 : w2.cell? ⟨w.heap.size + 1 + 1, 0, none⟩ = some (.int .i64 ed) := ((H2.out.below bb H2.out.lt).cell 0).trans rfl; have c21 : w2.cell? ⟨w.heap.size + 1 + 1, 1, none⟩ = some (.int .i64 er) := ((H2.out.below bb H2.out.lt).cell 1).trans rfl; have c22 : w2.cell? ⟨w.heap.size + 1 + 1, 2, none⟩ = some (.string et) := ((H2.out.below bb H2.out.lt).cell 2).trans rfl; have c23 : w2.cell? ⟨w.heap.size + 1 + 1, 3, none⟩ = some (.slice ea en ecap) := ((H2.out.below bb H2.out.lt).cell 3).trans rfl; have c30 : w2.cell? ⟨w.heap.size + 1 + 1 + 1, 0, none⟩ = some (.slice none 0 0) := ((H3.out.below bb H3.out.lt).cell 0).trans rfl; have c31 : w2.cell? ⟨w.heap.size + 1 + 1 + 1, 1, none⟩ = some (.int .i64 0) := ((H3.out.below bb H3.out.lt).cell 1).trans rfl; have c80 : w2.cell? ⟨w1.heap.size, 0, none⟩ = some (.slice fa len cap) := (((CB.new _ _).below b2 (by simp)).cell 0).trans rfl; have c81 : w2.cell? ⟨w1.heap.size, 1, none⟩ = some (.int .i64 d) := (((CB.new _ _).below b2 (by simp)).cell 1).trans rfl; have c82 : w2.cell? ⟨w1.heap.size, 2, none⟩ = some (.int .i64 u) := (((CB.new _ _).below b2 (by simp)).cell 2).trans rfl; have c83 : w2.cell? ⟨w1.heap.size, 3, none⟩ = some (.pointer (some ⟨T, 0, none⟩)) := (((CB.new _ _).below b2 (by simp)).cell 3).trans rfl; have f30 := (H3.out.below bb H3.out.lt).fr 0; have f31 := (H3.out.below bb H3.out.lt).fr 1; have HT2 : Hid (Tree w2 T len c) := HT1.out.below b2; have HB2 : Hid (Below w1.heap.size w1 w2) := bb; clear b2 bb))
    | (go_at_call 70; go_loud (refine (takes_any _ _ _ c _ _ T _ _ _ _ _ _ els _ HT2.out (HL.out.below (bel_on HB1.out HB2.out))).mono ?_; rintro e w3 ⟨rfl, b3⟩; rw [h2]; have bb : Below w1.heap.size w1 w3 := bel_on HB2.out b3; have d10 : w3.cell? ⟨w.heap.size + 1, 0, none⟩ = some (.slice ad n lcap) := ((H1.out.below bb H1.out.lt).cell 0).trans rfl; have d11 : w3.cell? ⟨w.heap.size + 1, 1, none⟩ = some (.int .i64 hd) := ((H1.out.below bb H1.out.lt).cell 1).trans rfl; have d20 : w3.cell? ⟨w.heap.size + 1 + 1, 0, none⟩ = some (.int .i64 ed) := ((H2.out.below bb H2.out.lt).cell 0).trans rfl; have d21 : w3.cell? ⟨w.heap.size + 1 + 1, 1, none⟩ = some (.int .i64 er) := ((H2.out.below bb H2.out.lt).cell 1).trans rfl; have d22 : w3.cell? ⟨w.heap.size + 1 + 1, 2, none⟩ = some (.string et) := ((H2.out.below bb H2.out.lt).cell 2).trans rfl; have d23 : w3.cell? ⟨w.heap.size + 1 + 1, 3, none⟩ = some (.slice ea en ecap) := ((H2.out.below bb H2.out.lt).cell 3).trans rfl; have d30 : w3.cell? ⟨w.heap.size + 1 + 1 + 1, 0, none⟩ = some (.slice none 0 0) := ((H3.out.below bb H3.out.lt).cell 0).trans rfl; have d31 : w3.cell? ⟨w.heap.size + 1 + 1 + 1, 1, none⟩ = some (.int .i64 0) := ((H3.out.below bb H3.out.lt).cell 1).trans rfl; have HB3 : Hid (Below w1.heap.size w1 w3) := bb; clear b3 bb))
    | (go_at_call 71; go_loud (refine (ledgerCopied_any _ _ _ es _ _ hn32 HNN.out (HR.out.below (bel_on HB1.out HB3.out))).mono ?_; rintro e w4 ⟨b, bl, rfl, hb, hbl, hO, b4⟩; have bb : Below w1.heap.size w1 w4 := bel_on HB3.out b4; have e30 : w4.cell? ⟨w.heap.size + 1 + 1 + 1, 0, none⟩ = some (.slice none 0 0) := ((H3.out.below bb H3.out.lt).cell 0).trans rfl; have e31 : w4.cell? ⟨w.heap.size + 1 + 1 + 1, 1, none⟩ = some (.int .i64 0) := ((H3.out.below bb H3.out.lt).cell 1).trans rfl; have f30 := (H3.out.below bb H3.out.lt).fr 0; have f31 := (H3.out.below bb H3.out.lt).fr 1; have HP : Hid (w3.heap.size ≤ b) := hb; have HBL : Hid (∀ j, j < n → b < bl j) := hbl; have HO4 : Hid (OwnE w4 b n n es bl 32 56) := hO; have HB4 : Hid (Below w1.heap.size w1 w4) := bb; clear hb hbl hO b4 bb)))
  have hp := HP.out
  have hs3 := HB3.out.size
  have hlt3 := H3.out.lt
  have hsz1 := HB1.out.size
  have hX := ((H3.out.below HB4.out H3.out.lt).set 0 (.slice (some ⟨b, 0, none⟩) n n)).set 1 (.int .i64 hd)
  have hY := (HO4.out.other (c := w.heap.size + 1 + 1 + 1) (o := 0) (v := .slice (some ⟨b, 0, none⟩) n n) (by omega) (fun j hj => by have := HBL.out j hj; omega)).other (c := w.heap.size + 1 + 1 + 1) (o := 1) (v := .int .i64 hd) (by omega) (fun j hj => by have := HBL.out j hj; omega)
  have hZ := ((bel_on HB1.out HB4.out).setCell (p := ⟨w.heap.size + 1 + 1 + 1, 0, none⟩) (by simp; omega) (.slice (some ⟨b, 0, none⟩) n n)).setCell (p := ⟨w.heap.size + 1 + 1 + 1, 1, none⟩) (by simp; omega) (.int .i64 hd)
  have e0 := hX.cell 0
  have e1 := hX.cell 1
  simp at e0 e1
  clear hX
  generalize (World.setCell _ _ _) = W9 at e0 e1 hY hZ ⊢
  refine bodyPost_ret (by simp [results, Tryd.results16, go_sem, e0, e1]; try rfl) rfl ?_
  exact ⟨_, _, rfl, hY.new (Nat.le_refl _) (by omega) (fun j hj => by have := HBL.out j hj; omega), hZ⟩

set_option maxRecDepth 20000 in
set_option maxHeartbeats 4000000 in
theorem implPost_ok (fa : Option Addr) (len cap : Nat) (c : Nat → C3) (d u : Int) (ad : Option Addr) (n lcap : Nat) (es : Nat → E4) (hd : Int) (ed er : Int) (et : ByteArray) (ea : Option Addr) (en ecap : Nat) (els : Nat → L5) (w : World)
    (hl : (len : Int) ≤ 1048576) (hc : ∀ j, (c j).code.size ≤ maxLen) (hr : CR w fa len c) (hE : EL w) (hR : ER w ad n es) (hnn : ∀ j, j < n → ((es j).n : Int) ≤ 1048576) (hL : LR w ea en els)
    (h1 : leB len c d u n es hd = true) (h2 : enB len c d u ⟨ed, er, et, en, els⟩ = true) (h3 : n < 1000) :
    Calls Tryd.prog 16 #[.agg #[.slice fa len cap, .int .i64 d, .int .i64 u], .agg #[.slice ad n lcap, .int .i64 hd], .agg #[.int .i64 ed, .int .i64 er, .string et, .slice ea en ecap]] w fun e w' =>
      ∃ ad cc, e = .returned (.tuple #[.agg #[.slice ad (n + 1) cc, .int .i64 (headV (n + 1) (snE es n ⟨ed, er, et, en, els⟩))], .int .i64 0]) ∧ NewE w.heap.size w'.heap.size w' ad (n + 1) (snE es n ⟨ed, er, et, en, els⟩) 32 56 ∧ Below w.heap.size w w' := by
  have HC : Hid (∀ j, (c j).code.size ≤ maxLen) := hc
  have HNN : Hid (∀ j, j < n → ((es j).n : Int) ≤ 1048576) := hnn
  have HR : Hid (ER w ad n es) := hR
  have HL : Hid (LR w ea en els) := hL
  have HBA : Hid (Below w.heap.size w ((((w.alloc (.cells #[.slice fa len cap, .int .i64 d, .int .i64 u] 26 (0, 0))).alloc (.cells #[.slice ad n lcap, .int .i64 hd] 29 (0, 0))).alloc (.cells #[.int .i64 ed, .int .i64 er, .string et, .slice ea en ecap] 32 (0, 0))).alloc (.cells #[.slice none 0 0, .int .i64 0] 29 (0, 0)))) := ((((Below.refl _ _).alloc (Nat.le_refl _) _).alloc (by simp) _).alloc (by simp; omega) _).alloc (by simp; omega) _
  have HCR : Hid (CR ((((w.alloc (.cells #[.slice fa len cap, .int .i64 d, .int .i64 u] 26 (0, 0))).alloc (.cells #[.slice ad n lcap, .int .i64 hd] 29 (0, 0))).alloc (.cells #[.int .i64 ed, .int .i64 er, .string et, .slice ea en ecap] 32 (0, 0))).alloc (.cells #[.slice none 0 0, .int .i64 0] 29 (0, 0))) fa len c) := hr.below HBA.out
  have HEL : Hid (EL ((((w.alloc (.cells #[.slice fa len cap, .int .i64 d, .int .i64 u] 26 (0, 0))).alloc (.cells #[.slice ad n lcap, .int .i64 hd] 29 (0, 0))).alloc (.cells #[.int .i64 ed, .int .i64 er, .string et, .slice ea en ecap] 32 (0, 0))).alloc (.cells #[.slice none 0 0, .int .i64 0] 29 (0, 0)))) := hE.below HBA.out hE.nine
  clear hc hnn hR hL hr hE
  have hne : ((n : Int) == 1000) = false := by simp; omega
  have hsm := (enB_nums hl h2).1
  have het : (et.size : Int) ≤ 40 := by have := hsm.1; simp only at this; omega
  have hen : (en : Int) ≤ 60 := by have := hsm.2; simp only at this; omega
  have HHD : Hid (HdR hd) := by have := hs_range es n; rw [leB_head hl h1] at this; exact this
  obtain ⟨HV, hHV⟩ : ∃ HV, HV = (lks (hd, false) (E4.nums ⟨ed, er, et, en, els⟩)).1 := ⟨_, rfl⟩
  have HHV : Hid (HV = (lks (hd, false) (E4.nums ⟨ed, er, et, en, els⟩)).1) := hHV
  have HHE : Hid (headV (n + 1) (snE es n ⟨ed, er, et, en, els⟩) = HV) := (headV_sn hl h1 h2 h3).1.trans hHV.symm
  clear hHV hsm
  go_enter Tryd.func16, Tryd.ntmps16
  go_wp2_with (first
    | (go_at_call 68; go_loud (refine (lay_any _ _ _ c _ _ _ hl HC.out HCR.out HEL.out).mono ?_; rintro e w1 ⟨T, rfl, hT, b1⟩; have X0 : CB w1 (w.heap.size) #[.slice fa len cap, .int .i64 d, .int .i64 u] 26 := ((((CB.newAt (by simp) _ _).alloc _).alloc _).alloc _).below b1 (by first | (simp; done) | (simp; omega)); have X1 : CB w1 (w.heap.size + 1) #[.slice ad n lcap, .int .i64 hd] 29 := (((CB.newAt (by simp) _ _).alloc _).alloc _).below b1 (by first | (simp; done) | (simp; omega)); have X2 : CB w1 (w.heap.size + 1 + 1) #[.int .i64 ed, .int .i64 er, .string et, .slice ea en ecap] 32 := ((CB.newAt (by simp) _ _).alloc _).below b1 (by first | (simp; done) | (simp; omega)); have X3 : CB w1 (w.heap.size + 1 + 1 + 1) #[.slice none 0 0, .int .i64 0] 29 := (CB.newAt (by simp) _ _).below b1 (by first | (simp; done) | (simp; omega)); have HA : Hid (Below w1.heap.size w1 (w1.alloc (.cells #[.slice fa len cap, .int .i64 d, .int .i64 u, .pointer (some ⟨T, 0, none⟩)] 108 (0, 0)))) := (Below.refl _ _).alloc (Nat.le_refl _) _; have a10 : (w1.alloc (.cells #[.slice fa len cap, .int .i64 d, .int .i64 u, .pointer (some ⟨T, 0, none⟩)] 108 (0, 0))).cell? ⟨w.heap.size + 1, 0, none⟩ = some (.slice ad n lcap) := keep_cell HA.out ((X1.cell 0).trans rfl); have a11 : (w1.alloc (.cells #[.slice fa len cap, .int .i64 d, .int .i64 u, .pointer (some ⟨T, 0, none⟩)] 108 (0, 0))).cell? ⟨w.heap.size + 1, 1, none⟩ = some (.int .i64 hd) := keep_cell HA.out ((X1.cell 1).trans rfl); have HT1 : Hid (Tree (w1.alloc (.cells #[.slice fa len cap, .int .i64 d, .int .i64 u, .pointer (some ⟨T, 0, none⟩)] 108 (0, 0))) T len c) := hT.below HA.out; have H0 : Hid (CB w1 (w.heap.size) #[.slice fa len cap, .int .i64 d, .int .i64 u] 26) := X0; have H1 : Hid (CB w1 (w.heap.size + 1) #[.slice ad n lcap, .int .i64 hd] 29) := X1; have H2 : Hid (CB w1 (w.heap.size + 1 + 1) #[.int .i64 ed, .int .i64 er, .string et, .slice ea en ecap] 32) := X2; have H3 : Hid (CB w1 (w.heap.size + 1 + 1 + 1) #[.slice none 0 0, .int .i64 0] 29) := X3; have HB1 : Hid (Below w.heap.size w w1) := bel_on HBA.out b1; clear b1 hT X0 X1 X2 X3))
    | (go_at_call 69; go_loud (refine (isRightIn_any _ _ _ c _ _ T _ _ _ es _ _ HT1.out (HR.out.below (bel_on HB1.out HA.out))).mono ?_; rintro e w2 ⟨rfl, b2⟩; rw [h1]; have bb : Below w1.heap.size w1 w2 := bel_on HA.out b2; have c20 : w2.cell? ⟨w.heap.size + 1 + 1, 0, none⟩ = some (.int .i64 ed) := ((H2.out.below bb H2.out.lt).cell 0).trans rfl; have c21 : w2.cell? ⟨w.heap.size + 1 + 1, 1, none⟩ = some (.int .i64 er) := ((H2.out.below bb H2.out.lt).cell 1).trans rfl; have c22 : w2.cell? ⟨w.heap.size + 1 + 1, 2, none⟩ = some (.string et) := ((H2.out.below bb H2.out.lt).cell 2).trans rfl; have c23 : w2.cell? ⟨w.heap.size + 1 + 1, 3, none⟩ = some (.slice ea en ecap) := ((H2.out.below bb H2.out.lt).cell 3).trans rfl; have c30 : w2.cell? ⟨w.heap.size + 1 + 1 + 1, 0, none⟩ = some (.slice none 0 0) := ((H3.out.below bb H3.out.lt).cell 0).trans rfl; have c31 : w2.cell? ⟨w.heap.size + 1 + 1 + 1, 1, none⟩ = some (.int .i64 0) := ((H3.out.below bb H3.out.lt).cell 1).trans rfl; have c80 : w2.cell? ⟨w1.heap.size, 0, none⟩ = some (.slice fa len cap) := (((CB.new _ _).below b2 (by simp)).cell 0).trans rfl; have c81 : w2.cell? ⟨w1.heap.size, 1, none⟩ = some (.int .i64 d) := (((CB.new _ _).below b2 (by simp)).cell 1).trans rfl; have c82 : w2.cell? ⟨w1.heap.size, 2, none⟩ = some (.int .i64 u) := (((CB.new _ _).below b2 (by simp)).cell 2).trans rfl; have c83 : w2.cell? ⟨w1.heap.size, 3, none⟩ = some (.pointer (some ⟨T, 0, none⟩)) := (((CB.new _ _).below b2 (by simp)).cell 3).trans rfl; have f30 := (H3.out.below bb H3.out.lt).fr 0; have f31 := (H3.out.below bb H3.out.lt).fr 1; have HT2 : Hid (Tree w2 T len c) := HT1.out.below b2; have HB2 : Hid (Below w1.heap.size w1 w2) := bb; clear b2 bb))
    | (go_at_call 70; go_loud (refine (takes_any _ _ _ c _ _ T _ _ _ _ _ _ els _ HT2.out (HL.out.below (bel_on HB1.out HB2.out))).mono ?_; rintro e w3 ⟨rfl, b3⟩; rw [h2]; have bb : Below w1.heap.size w1 w3 := bel_on HB2.out b3; have d10 : w3.cell? ⟨w.heap.size + 1, 0, none⟩ = some (.slice ad n lcap) := ((H1.out.below bb H1.out.lt).cell 0).trans rfl; have d11 : w3.cell? ⟨w.heap.size + 1, 1, none⟩ = some (.int .i64 hd) := ((H1.out.below bb H1.out.lt).cell 1).trans rfl; have d20 : w3.cell? ⟨w.heap.size + 1 + 1, 0, none⟩ = some (.int .i64 ed) := ((H2.out.below bb H2.out.lt).cell 0).trans rfl; have d21 : w3.cell? ⟨w.heap.size + 1 + 1, 1, none⟩ = some (.int .i64 er) := ((H2.out.below bb H2.out.lt).cell 1).trans rfl; have d22 : w3.cell? ⟨w.heap.size + 1 + 1, 2, none⟩ = some (.string et) := ((H2.out.below bb H2.out.lt).cell 2).trans rfl; have d23 : w3.cell? ⟨w.heap.size + 1 + 1, 3, none⟩ = some (.slice ea en ecap) := ((H2.out.below bb H2.out.lt).cell 3).trans rfl; have d30 : w3.cell? ⟨w.heap.size + 1 + 1 + 1, 0, none⟩ = some (.slice none 0 0) := ((H3.out.below bb H3.out.lt).cell 0).trans rfl; have d31 : w3.cell? ⟨w.heap.size + 1 + 1 + 1, 1, none⟩ = some (.int .i64 0) := ((H3.out.below bb H3.out.lt).cell 1).trans rfl; have HB3 : Hid (Below w1.heap.size w1 w3) := bb; clear b3 bb))
    | (go_at_call 72; go_loud (refine (with_any _ _ _ es _ _ _ _ _ _ _ els _ (by omega) HNN.out (HR.out.below (bel_on HB1.out HB3.out)) (HL.out.below (bel_on HB1.out HB3.out)) het hen HHD.out).mono ?_; rintro e w4 ⟨b, cc, rfl, hN, b4⟩; have bb : Below w1.heap.size w1 w4 := bel_on HB3.out b4; have e30 : w4.cell? ⟨w.heap.size + 1 + 1 + 1, 0, none⟩ = some (.slice none 0 0) := ((H3.out.below bb H3.out.lt).cell 0).trans rfl; have e31 : w4.cell? ⟨w.heap.size + 1 + 1 + 1, 1, none⟩ = some (.int .i64 0) := ((H3.out.below bb H3.out.lt).cell 1).trans rfl; have f30 := (H3.out.below bb H3.out.lt).fr 0; have f31 := (H3.out.below bb H3.out.lt).fr 1; have HN4 : Hid (NewE w3.heap.size w4.heap.size w4 (some ⟨b, 0, none⟩) (n + 1) (snE es n ⟨ed, er, et, en, els⟩) 32 56) := hN; have HB4 : Hid (Below w1.heap.size w1 w4) := bb; rw [← HHV.out]; clear hN b4 bb)))
  have hs3 := HB3.out.size
  have hlt3 := H3.out.lt
  have hsz1 := HB1.out.size
  have hX := ((H3.out.below HB4.out H3.out.lt).set 0 (.slice (some ⟨b, 0, none⟩) (n + 1) cc)).set 1 (.int .i64 HV)
  have hY := ((HN4.out.set (c := w.heap.size + 1 + 1 + 1) (o := 0) (v := .slice (some ⟨b, 0, none⟩) (n + 1) cc) (by omega)).set (c := w.heap.size + 1 + 1 + 1) (o := 1) (v := .int .i64 HV) (by omega)).mono (lo' := w.heap.size) (hi' := ((w4.setCell ⟨w.heap.size + 1 + 1 + 1, 0, none⟩ (.slice (some ⟨b, 0, none⟩) (n + 1) cc)).setCell ⟨w.heap.size + 1 + 1 + 1, 1, none⟩ (.int .i64 HV)).heap.size) (by omega) (by simp [World.setCell])
  have hZ := ((bel_on HB1.out HB4.out).setCell (p := ⟨w.heap.size + 1 + 1 + 1, 0, none⟩) (by simp; omega) (.slice (some ⟨b, 0, none⟩) (n + 1) cc)).setCell (p := ⟨w.heap.size + 1 + 1 + 1, 1, none⟩) (by simp; omega) (.int .i64 HV)
  have e0 := hX.cell 0
  have e1 := hX.cell 1
  simp at e0 e1
  clear hX
  generalize (World.setCell _ _ _) = W9 at e0 e1 hY hZ ⊢
  refine bodyPost_ret (by simp [results, Tryd.results16, go_sem, e0, e1]; try rfl) rfl ?_
  exact ⟨_, _, by rw [HHE.out], hY, hZ⟩

theorem implPost_any (fa : Option Addr) (len cap : Nat) (c : Nat → C3) (d u : Int) (ad : Option Addr) (n lcap : Nat) (es : Nat → E4) (hd : Int) (ed er : Int) (et : ByteArray) (ea : Option Addr) (en ecap : Nat) (els : Nat → L5) (w : World)
    (hl : (len : Int) ≤ 1048576) (hc : ∀ j, (c j).code.size ≤ maxLen) (hr : CR w fa len c) (hE : EL w) (hR : ER w ad n es) (hnn : ∀ j, j < n → ((es j).n : Int) ≤ 1048576) (hL : LR w ea en els) :
    Calls Tryd.prog 16 #[.agg #[.slice fa len cap, .int .i64 d, .int .i64 u], .agg #[.slice ad n lcap, .int .i64 hd], .agg #[.int .i64 ed, .int .i64 er, .string et, .slice ea en ecap]] w fun e w' =>
      ∃ ad cc, e = .returned (.tuple #[.agg #[.slice ad (poN len c d u n es hd ⟨ed, er, et, en, els⟩) cc, .int .i64 (poH len c d u n es hd ⟨ed, er, et, en, els⟩)], .int .i64 (poK len c d u n es hd ⟨ed, er, et, en, els⟩)]) ∧ NewE w.heap.size w'.heap.size w' ad (poN len c d u n es hd ⟨ed, er, et, en, els⟩) (poE len c d u n es hd ⟨ed, er, et, en, els⟩) 32 56 ∧ Below w.heap.size w w' := by
  cases h1 : leB len c d u n es hd with
  | false =>
    refine (implPost_bad fa len cap c d u ad n lcap es hd ed er et ea en ecap els w hl hc hr hE hR hnn hL h1).mono ?_
    rintro e w' ⟨rfl, b⟩
    exact ⟨none, 0, by simp [poN, poH, poK, h1], by simp [poN, h1]; exact .inl rfl, b⟩
  | true =>
  cases h2 : enB len c d u ⟨ed, er, et, en, els⟩ with
  | false =>
    refine (implPost_entry fa len cap c d u ad n lcap es hd ed er et ea en ecap els w hl hc hr hE hR hnn hL h1 h2).mono ?_
    rintro e w' ⟨ad, cc, rfl, r, b⟩
    exact ⟨ad, cc, by simp [poN, poH, poK, h1, h2], by simp [poN, poE, h1, h2]; exact r, b⟩
  | true =>
  by_cases h3 : n < 1000
  · refine (implPost_ok fa len cap c d u ad n lcap es hd ed er et ea en ecap els w hl hc hr hE hR hnn hL h1 h2 h3).mono ?_
    rintro e w' ⟨ad, cc, rfl, r, b⟩
    exact ⟨ad, cc, by simp [poN, poH, poK, h1, h2, h3], by simp [poN, poE, h1, h2, h3]; exact r, b⟩
  · refine (implPost_full fa len cap c d u ad n lcap es hd ed er et ea en ecap els w hl hc hr hE hR hnn hL h1 h2 (by have := (leB_out h1).2.1; omega)).mono ?_
    rintro e w' ⟨ad, cc, rfl, r, b⟩
    exact ⟨ad, cc, by simp [poN, poH, poK, h1, h2, h3], by simp [poN, poE, h1, h2, h3]; exact r, b⟩

end Go.Proofs.YtgnhpjlfdkpaiaaDoor

