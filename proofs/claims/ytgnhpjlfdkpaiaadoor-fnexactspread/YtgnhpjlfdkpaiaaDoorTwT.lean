/- A slice of pairs of whole numbers that came in, read as a row of pairs. What stands by while the law of Spread is walked. -/
import Derived.Test.YtgnhpjlfdkpaiaaDoorPsV
import Derived.OpenShut
import Derived.ChangeSlices
import Derived.OneCell
import Derived.Deep.SlicePairs
import Derived.Test.YtgnhpjlfdkpaiaaDoorSpY
import Derived.Test.YtgnhpjlfdkpaiaaDoorGg
namespace Go.Proofs.YtgnhpjlfdkpaiaaDoor
open Go.ChangeShapes Go.WideShapes Go.ChangeAt Go.RowKit
set_option linter.unusedVariables false

def intAtP (v : Value) : Int := match v with | .int _ n => n | _ => 0

theorem wf_bd {n : Int} (h : (Lit.int .i64 n).wf = true) : -9223372036854775808 ≤ n ∧ n ≤ 9223372036854775807 := by
  have h2 : (decide (IntKind.i64.min ≤ n) && decide (n ≤ IntKind.i64.max)) = true := h
  have e1 : IntKind.i64.min = -9223372036854775808 := by decide
  have e2 : IntKind.i64.max = 9223372036854775807 := by decide
  rw [e1, e2] at h2
  simpa using h2
theorem pairs_of {H : Type} {enc : TypeId × Value → H} {P : Program} {w : World} {sp : Nat → Bool} {held : Bool} {t e : TypeId} {f0 f1 : Field} {ad : Option Addr} {len cap : Nat} {d : DataW H} {p : List MemPlace}
    (ht : P.underlying t = some (.slice e)) (he : P.underlying e = some (.struct #[f0, f1])) (ce : P.cellsOf e = 2) (o0 : f0.offset = 0) (o1 : f1.offset = 1) (c0 : P.cellsOf f0.type = 1) (c1 : P.cellsOf f1.type = 1)
    (t0 : P.underlying f0.type = some (.int .i64)) (t1 : P.underlying f1.type = some (.int .i64))
    (h : DataW.Trod enc P w 0 sp held t (.slice ad len cap) d p) : ∃ x y : Nat → Int, len ≤ maxLen ∧ PR w ad len x y ∧ (∀ j, -9223372036854775808 ≤ x j ∧ x j ≤ 9223372036854775807) ∧ ∀ j, len ≤ j → x j = 0 ∧ y j = 0 := by
  obtain ⟨fuel, hf⟩ := h
  rcases Go.Deep.open_slice_pairs ht he ce o0 o1 c0 c1 hf with ⟨hcs, _⟩ | ⟨a, l, c, m, n, V0, V1, D0, D1, P0, P1, hcs, _, hl, hm, hmm, _, hcell⟩
  · simp [Value.cells] at hcs
    obtain ⟨rfl, rfl, rfl⟩ := hcs
    exact ⟨fun _ => 0, fun _ => 0, Nat.zero_le _, .inl rfl, fun _ => (by show (-9223372036854775808 : Int) ≤ 0 ∧ (0 : Int) ≤ 9223372036854775807; omega), fun _ _ => ⟨rfl, rfl⟩⟩
  · simp [Value.cells] at hcs
    obtain ⟨rfl, rfl, rfl⟩ := hcs
    have hlm : len ≤ m := by rw [hmm]; split <;> omega
    have cell : ∀ j, j < len → ∃ u0 u1 : Int, w.cell? (a.add (j * 2)) = some (.int .i64 u0) ∧ w.cell? (a.add (j * 2 + 1)) = some (.int .i64 u1) ∧ intAtP (V0 j) = u0 ∧ intAtP (V1 j) = u1 ∧ (-9223372036854775808 ≤ u0 ∧ u0 ≤ 9223372036854775807) := fun j hj => by
      obtain ⟨q0, q1, r0, r1⟩ := hcell j (by omega)
      obtain ⟨u0, e0, _, g0⟩ := DataW.trod_int t0 r0
      obtain ⟨u1, e1, _, _⟩ := DataW.trod_int t1 r1
      have v0 : V0 j = .int .i64 u0 := by simpa using e0
      have v1 : V1 j = .int .i64 u1 := by simpa using e1
      rw [v0] at q0
      rw [v1] at q1
      exact ⟨u0, u1, by simpa using q0, by simpa [Nat.add_assoc] using q1, by rw [v0]; rfl, by rw [v1]; rfl, wf_bd g0⟩
    refine ⟨fun j => if j < len then intAtP (V0 j) else 0, fun j => if j < len then intAtP (V1 j) else 0, Nat.le_trans hl hm, ?_, fun j => ?_, fun j hj => ⟨if_neg (by omega), if_neg (by omega)⟩⟩
    · by_cases h0 : len = 0
      · exact .inl h0
      · obtain ⟨b, off, spot⟩ := a
        obtain ⟨_, _, hc0, _⟩ := cell 0 (by omega)
        have hspot : spot = none := by simpa [Addr.add] using World.cell?_spot hc0
        subst hspot
        have hlt : b < w.heap.size := by
          simp only [Addr.add, World.cell?] at hc0
          cases hh : w.heap[b]? with
          | none => simp [hh] at hc0
          | some o => exact lt_of_block hh
        refine .inr ⟨b, off, rfl, hlt, fun j hj => ?_⟩
        obtain ⟨u0, u1, q0, q1, i0, i1, _⟩ := cell j hj
        show w.cell? ⟨b, off + j * 2, none⟩ = some (.int .i64 (if j < len then intAtP (V0 j) else 0)) ∧ w.cell? ⟨b, off + j * 2 + 1, none⟩ = some (.int .i64 (if j < len then intAtP (V1 j) else 0))
        rw [if_pos hj, if_pos hj, i0, i1]
        constructor
        · by_cases hj0 : j = 0
          · subst hj0; simpa [Addr.add] using q0
          · have hj2 : ¬ j * 2 = 0 := by omega
            simpa [Addr.add, hj0, hj2] using q0
        · simpa [Addr.add, Nat.add_assoc] using q1
    · show -9223372036854775808 ≤ (if j < len then intAtP (V0 j) else 0) ∧ (if j < len then intAtP (V0 j) else 0) ≤ 9223372036854775807
      by_cases hj : j < len
      · obtain ⟨u0, u1, _, _, i0, _, hb⟩ := cell j hj
        rw [if_pos hj, i0]; exact hb
      · rw [if_neg hj]; omega

end Go.Proofs.YtgnhpjlfdkpaiaaDoor

namespace Go.Proofs.YtgnhpjlfdkpaiaaDoor
open Go Go.ChangeShapes Go.WideShapes Go.ChangeAt Go.RowKit
set_option linter.unusedVariables false
set_option linter.unusedSimpArgs false

structure TS (w : World) (fa : Option Addr) (flen fcap : Nat) (fc : Nat → C3) (fd fu : Int) (pa : Option Addr) (pn : Nat) (px py : Nat → Int) (W : World) : Prop where
  xf : CB W w.heap.size #[.slice fa flen fcap, .int .i64 fd, .int .i64 fu] 59
  cr : CR W fa flen fc
  pr : PR W pa pn px py
  bl : Below w.heap.size w W
section
variable {w W W' : World} {fa : Option Addr} {flen fcap : Nat} {fc : Nat → C3} {fd fu : Int} {pa : Option Addr} {pn : Nat} {px py : Nat → Int}
theorem TS.below (h : TS w fa flen fcap fc fd fu pa pn px py W) (b : Below W.heap.size W W') : TS w fa flen fcap fc fd fu pa pn px py W' := ⟨h.xf.below b h.xf.lt, h.cr.below b, h.pr.below b, bel_on h.bl b⟩
theorem TS.alloc (h : TS w fa flen fcap fc fd fu pa pn px py W) (o : Obj) : TS w fa flen fcap fc fd fu pa pn px py (W.alloc o) := h.below ((Below.refl _ _).alloc (Nat.le_refl _) o)
theorem TS.drew (h : TS w fa flen fcap fc fd fu pa pn px py W) : TS w fa flen fcap fc fd fu pa pn px py W.drew := h.below (Below.refl _ _).drew
theorem CB.kr3 {lo hi b : Nat} {cs : Array Value} {t : TypeId} (h : CB W b cs t) (k : KR lo hi W W') (hb : b < lo ∨ hi ≤ b) : CB W' b cs t := by
  have := h.lt
  unfold CB at h ⊢; rw [k.block b this hb]; exact h
theorem KR.bel3 {lo hi B : Nat} (k : KR lo hi W W') (h : B ≤ lo) (hB : B ≤ W.heap.size) : Below B W W' := ⟨k.os, k.tape, k.output, k.size, fun j hj => k.block j (by omega) (by omega)⟩
theorem TS.kr {lo hi : Nat} (h : TS w fa flen fcap fc fd fu pa pn px py W) (k : KR lo hi W W') (hlo : w.heap.size + 1 ≤ lo) (hc : CR w fa flen fc) (hp : PR w pa pn px py) : TS w fa flen fcap fc fd fu pa pn px py W' := by
  have b : Below w.heap.size w W' := h.bl.trans (k.bel3 (by omega) h.bl.size)
  exact ⟨h.xf.kr3 k (by omega), hc.below b, hp.below b, b⟩
end
structure US (fc : Nat → C3) (flen : Nat) (fd fu : Int) (pn : Nat) (px py : Nat → Int) (p9 b9 b5 : Nat) (cs9 cs5 : Array Value) (M : Nat) (E : Nat → E4) (q : Nat) (oa : Option Addr) (oc glo ghi : Nat) (ga : Option Addr) (gc : Nat) (W : World) : Prop where
  x9 : CB W p9 #[.slice (some ⟨b9, 0, none⟩) flen flen, .int .i64 fd, .int .i64 fu] 26
  c9 : CR W (some ⟨b9, 0, none⟩) flen fc
  k9 : CB W b9 cs9 182
  p5 : PR W (some ⟨b5, 0, none⟩) pn px py
  k5 : CB W b5 cs5 54
  o : Loc q (fun W => ER W oa M E) W
  g : NewE glo ghi W ga M E 32 56
section
variable {fc : Nat → C3} {flen : Nat} {fd fu : Int} {pn : Nat} {px py : Nat → Int} {p9 b9 b5 : Nat} {cs9 cs5 : Array Value} {M : Nat} {E : Nat → E4} {q : Nat} {oa : Option Addr} {oc glo ghi : Nat} {ga : Option Addr} {gc : Nat} {W W' : World}
theorem US.below (h : US fc flen fd fu pn px py p9 b9 b5 cs9 cs5 M E q oa oc glo ghi ga gc W) (b : Below W.heap.size W W') : US fc flen fd fu pn px py p9 b9 b5 cs9 cs5 M E q oa oc glo ghi ga gc W' := ⟨h.x9.below b h.x9.lt, h.c9.below b, h.k9.below b h.k9.lt, h.p5.below b, h.k5.below b h.k5.lt, h.o.below b, h.g.below b⟩
theorem US.drew (h : US fc flen fd fu pn px py p9 b9 b5 cs9 cs5 M E q oa oc glo ghi ga gc W) : US fc flen fd fu pn px py p9 b9 b5 cs9 cs5 M E q oa oc glo ghi ga gc W.drew := h.below (Below.refl _ _).drew
end
set_option maxHeartbeats 1000000 in
theorem markEntryS_new (ad : Option Addr) (n cap : Nat) (es : Nat → E4) (lo hi : Nat) (k : Int) (w : World) (h : (n : Int) ≤ 1048576) (hn : ∀ j, j < n → ((es j).n : Int) ≤ 1048576) (h0 : 0 < k) (h1 : k ≤ 1000000000000) (hE : NewE lo hi w ad n es 32 56) :
    Calls Tryd.prog 56 #[.slice ad n cap, .int .i64 k] w fun e w' => e = .returned (.int .i64 (kE k es n)) ∧ NewE lo hi w' ad n (mkE k es) 32 56 ∧ KR lo hi w w' := by
  rcases hE with rfl | ⟨B, bl, m, rfl, hB, hbl, hm, hO⟩
  · refine (markEntryS_none ad cap k w).mono ?_
    rintro e w' ⟨rfl, rfl⟩
    exact ⟨rfl, .inl rfl, KR.refl _ _ _⟩
  · refine (markEntryS_blk B m n cap es bl lo hi k w h hn h0 h1 hm hO hB hbl).mono ?_
    rintro e w' ⟨rfl, o1, k1⟩
    exact ⟨rfl, .inr ⟨B, bl, m, rfl, hB, hbl, hm, o1⟩, k1⟩
end Go.Proofs.YtgnhpjlfdkpaiaaDoor
