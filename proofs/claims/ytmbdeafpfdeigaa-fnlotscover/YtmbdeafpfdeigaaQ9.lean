/- Orders that are right; LotsOf of both sides; the example. -/
import Derived.Test.YtmbdeafpfdeigaaQs
import Derived.Test.YtmbdeafpfdeigaaQw
import Derived.Test.YtmbdeafpfdeigaaQf
import Derived.Test.YtmbdeafpfdeigaaXg
namespace Go.Proofs.Ytmbdeafpfdeigaa
open Go Go.ChangeShapes Go.WideShapes Go.ChangeAt Go.RowKit
set_option linter.unusedVariables false
set_option linter.unusedSimpArgs false
theorem lo_p {l : LT} {m : Nat → Int} {n : Nat} (h : loB l m n = true) : ltB l = true ∧ nqB m n = true ∧ rgB 1000000 (ordF l m n) n = true := by
  unfold loB at h
  simp only [Bool.and_eq_true] at h
  exact ⟨h.1, h.2.1, h.2.2⟩
/-- Each end is covered. -/
theorem ord_cover {l : LT} {m : Nat → Int} {n : Nat} (h : loB l m n = true) : ∀ j, j < n → 0 ≤ lfF m (ordF l m n) j := fun j hj => by
  obtain ⟨h1, h2, h3⟩ := lo_p h
  obtain ⟨hn0, hn40, hm⟩ := nqB_p h2
  obtain ⟨hk, hz, _, _⟩ := ltB_p h1
  have top : ∀ g, GB n g → 0 ≤ lfF m (tO g m) j := fun g hg => by
    have a := smq_tO g m (j + 1)
    have b := (gb_tS hg hm (j + 1) (by omega)).1
    unfold lfF; omega
  unfold ordF
  split
  · exact top _ (gb_fx hz)
  · split
    · exact top _ (gb_sp hn40 hz hm)
    · split
      · exact (least_is (S := l.setup) (H := l.hold) n n (Nat.le_refl _) (fun j hj => (hm j hj).1)).2.1 j hj
      · unfold lfF; omega
theorem lot_right {l : LT} {m : Nat → Int} {n : Nat} (h : loB l m n = true) : lcB l m (ordF l m n) n n = true := by
  obtain ⟨h1, h2, h3⟩ := lo_p h
  unfold lcB
  rw [h1, h2, h3, cvB_t n (ord_cover h)]
  simp
/-- By the least lots it costs no more. -/
theorem lot_least {l4 l : LT} {m : Nat → Int} {n : Nat} (hk : l4.kind = 4) (hS : l4.setup = l.setup) (hH : l4.hold = l.hold) (h4 : loB l4 m n = true) (h : loB l m n = true) : lcX l4 m (ordF l4 m n) n n ≤ lcX l m (ordF l m n) n n := by
  obtain ⟨h1, h2, h3⟩ := lo_p h
  obtain ⟨hn0, hn40, hm⟩ := nqB_p h2
  obtain ⟨_, _, hs, hh⟩ := ltB_p h1
  have hr := rgB_p n h3
  have ho : ordF l4 m n = orL l.setup l.hold m n := by
    unfold ordF
    rw [if_neg (by omega), if_neg (by omega), if_pos hk, hS, hH]
  rw [lcX_t (lot_right h4), lcX_t (lot_right h), ho, hS, hH, (least_is (S := l.setup) (H := l.hold) n n (Nat.le_refl _) (fun j hj => (hm j hj).1)).2.2.2]
  exact least_le hs.1 hh.1 n n (Nat.le_refl _) (fun j hj => (hm j hj).1) (fun j hj => (hr j hj).1) (ord_cover h)
theorem lot_nn {l : LT} {m : Nat → Int} {n : Nat} (h : loB l m n = true) : 0 ≤ lcX l m (ordF l m n) n n := by
  obtain ⟨h1, h2, h3⟩ := lo_p h
  obtain ⟨_, _, hs, hh⟩ := ltB_p h1
  rw [lcX_t (lot_right h)]
  exact lcV_nn hs.1 hh.1 (ord_cover h)
/-- The example. -/
def exM : Nat → Int := fun j => if j = 0 then 4 else if j = 2 then 3 else if j = 3 then 9 else if j = 4 then 9 else 0
theorem ex_right : loB ⟨4, 1, 10, 1⟩ exM 5 = true := by decide
theorem ex_0 : ordF ⟨4, 1, 10, 1⟩ exM 5 0 = 7 := by decide
theorem ex_3 : ordF ⟨4, 1, 10, 1⟩ exM 5 3 = 18 := by decide
theorem specLotsOf_any (l : LT) (ad : Option Addr) (n cap : Nat) (m : Nat → Int) (w : World) (hn : (n : Int) ≤ 1048576) (hr : IR w ad n m) :
    Calls Try.prog 34 #[l.val, .slice ad n cap] w fun e w' => ∃ a cp, e = .returned (.tuple #[.slice a (loM l m n) cp, .bool (loB l m n)]) ∧ OwnI w' w.heap.size a (loM l m n) (ordF l m n) ∧ Below w.heap.size w w' := by
  obtain ⟨ki, sz, su, ho⟩ := l
  unfold LT.val
  cases hL : ltB ⟨ki, sz, su, ho⟩
  · exact specLotsF1_any ki sz su ho ad n cap m w hn hr hL
  · cases hN : nqB m n
    · exact specLotsF2_any ki sz su ho ad n cap m w hn hr hL hN
    · have hk := (ltB_p hL).1
      have h : ki = 1 ∨ ki = 2 ∨ ki = 3 ∨ ki = 4 := by
        have h1 : 1 ≤ ki ∧ ki ≤ 4 := hk
        omega
      rcases h with rfl | rfl | rfl | rfl
      · exact specLots1_any sz su ho ad n cap m w hL hN hr
      · exact specLots2_any sz su ho ad n cap m w hL hN hr
      · exact specLots3_any sz su ho ad n cap m w hL hN hr
      · exact specLots4_any sz su ho ad n cap m w hn hr hL hN (fun W h => l18Least_any 4 sz su ho ad n cap m W hL hN h)
theorem brow_up {w W : World} {ad : Option Addr} {len : Nat} (H : ByteRow w w.heap.size ad len) (b : Below w.heap.size w W) : ByteRow W W.heap.size ad len := by
  rcases H with h | ⟨k, off, e, hb, hk, hc⟩
  · exact .inl h
  · have := b.size
    refine .inr ⟨k, off, e, by omega, by omega, fun j hj => ?_⟩
    obtain ⟨c, g1, g2, g3⟩ := hc j hj
    exact ⟨c, g1, g2, (World.cell?_of_block (b.block k hk)).trans g3⟩
theorem ex_lots (w : World) : Calls Try.prog 32 #[.agg #[.int .i64 4, .int .i64 1, .int .i64 10, .int .i64 1], .slice (some ⟨w.heap.size, 0, none⟩) 5 5] (w.alloc (.cells #[.int .i64 4, .int .i64 0, .int .i64 3, .int .i64 9, .int .i64 9] 3 (0, 0))) fun e w' => ∃ g cp, e = .returned (.tuple #[.slice (some ⟨g, 0, none⟩) 5 cp, .bool true]) ∧ w'.cell? ⟨g, 0, none⟩ = some (.int .i64 7) ∧ w'.cell? ⟨g, 3, none⟩ = some (.int .i64 18) ∧ Below w.heap.size w w' := by
  have h := implLotsOf_any ⟨4, 1, 10, 1⟩ (some ⟨w.heap.size, 0, none⟩) 5 5 exM (w.alloc (.cells #[.int .i64 4, .int .i64 0, .int .i64 3, .int .i64 9, .int .i64 9] 3 (0, 0))) (by decide) (Nat.le_refl _) (IR.of_block (CB.new _ _) 5 _ (fun j hj => by
    rcases j with _ | _ | _ | _ | _ | j
    · rfl
    · rfl
    · rfl
    · rfl
    · rfl
    · omega))
  rw [lo_t ex_right, ex_right] at h
  refine h.mono ?_
  rintro e w' ⟨a, cp, rfl, ho, hb⟩
  rcases ho with h0 | ⟨g, cs, rfl, h1, h2, h3, h4⟩
  · cases h0
  · exact ⟨g, cp, rfl, by rw [h2.cell, h4 0 (by omega), ex_0], by rw [h2.cell, h4 3 (by omega), ex_3], ((Below.refl _ _).alloc (Nat.le_refl _) _).trans (hb.mono (by simp))⟩
set_option maxRecDepth 20000 in
theorem big_f (ad : Option Addr) (len cap : Nat) (w : World) (h : (len : Int) ≤ 1048576) :
    Calls Try.prog 16 #[.slice ad len cap] w fun e w' => e = .returned (.bool false) ∧ w' = w := by
  have hd : decide ((1048576 : Int) < (len : Int)) = false := decide_eq_false (by omega)
  go_enter Try.func16, Try.ntmps16
  go_wp2
  go_returns
  exact ⟨rfl, rfl⟩
end Go.Proofs.Ytmbdeafpfdeigaa
