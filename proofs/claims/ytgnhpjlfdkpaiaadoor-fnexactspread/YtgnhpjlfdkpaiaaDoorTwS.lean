/- What stands by while the law of Spread is walked. -/
import Derived.Test.YtgnhpjlfdkpaiaaDoorSpV3
import Derived.Test.YtgnhpjlfdkpaiaaDoorPoV
import Derived.Test.YtgnhpjlfdkpaiaaDoorGg
namespace Go.Proofs.YtgnhpjlfdkpaiaaDoor
open Go Go.ChangeShapes Go.WideShapes Go.ChangeAt Go.RowKit
set_option linter.unusedVariables false
set_option linter.unusedSimpArgs false

structure TS (w : World) (fa : Option Addr) (flen fcap : Nat) (fc : Nat → C3) (fd fu : Int) (pa : Option Addr) (pn : Nat) (px py : Nat → Int) (W : World) : Prop where
  xf : CB W w.heap.size #[.slice fa flen fcap, .int .i64 fd, .int .i64 fu] 59
  cr : CR W fa flen fc
  pr : PR W pa pn px py
  bl : Below w.heap.size w W
section
variable {w W W' : World} {fa : Option Addr} {flen fcap : Nat} {fc : Nat → C3} {fd fu : Int} {pa : Option Addr} {pn : Nat} {px py : Nat → Int}
theorem TS.below (h : TS w fa flen fcap fc fd fu pa pn px py W) (b : Below W.heap.size W W') : TS w fa flen fcap fc fd fu pa pn px py W' := ⟨h.xf.below b h.xf.lt, h.cr.below b, h.pr.below b, bel_on h.bl b⟩
theorem TS.alloc (h : TS w fa flen fcap fc fd fu pa pn px py W) (o : Obj) : TS w fa flen fcap fc fd fu pa pn px py (W.alloc o) := h.below ((Below.refl _ _).alloc (Nat.le_refl _) o)
theorem TS.drew (h : TS w fa flen fcap fc fd fu pa pn px py W) : TS w fa flen fcap fc fd fu pa pn px py W.drew := h.below (Below.refl _ _).drew
theorem CB.kr3 {lo hi b : Nat} {cs : Array Value} {t : TypeId} (h : CB W b cs t) (k : KR lo hi W W') (hb : b < lo ∨ hi ≤ b) : CB W' b cs t := by
  have := h.lt
  unfold CB at h ⊢; rw [k.block b this hb]; exact h
theorem KR.bel3 {lo hi B : Nat} (k : KR lo hi W W') (h : B ≤ lo) (hB : B ≤ W.heap.size) : Below B W W' := ⟨k.os, k.tape, k.output, k.size, fun j hj => k.block j (by omega) (by omega)⟩
theorem TS.kr {lo hi : Nat} (h : TS w fa flen fcap fc fd fu pa pn px py W) (k : KR lo hi W W') (hlo : w.heap.size + 1 ≤ lo) (hc : CR w fa flen fc) (hp : PR w pa pn px py) : TS w fa flen fcap fc fd fu pa pn px py W' := by
  have b : Below w.heap.size w W' := h.bl.trans (k.bel3 (by omega) h.bl.size)
  exact ⟨h.xf.kr3 k (by omega), hc.below b, hp.below b, b⟩
end
structure US (fc : Nat → C3) (flen : Nat) (fd fu : Int) (pn : Nat) (px py : Nat → Int) (p9 b9 b5 : Nat) (cs9 cs5 : Array Value) (M : Nat) (E : Nat → E4) (q : Nat) (oa : Option Addr) (oc glo ghi : Nat) (ga : Option Addr) (gc : Nat) (W : World) : Prop where
  x9 : CB W p9 #[.slice (some ⟨b9, 0, none⟩) flen flen, .int .i64 fd, .int .i64 fu] 26
  c9 : CR W (some ⟨b9, 0, none⟩) flen fc
  k9 : CB W b9 cs9 182
  p5 : PR W (some ⟨b5, 0, none⟩) pn px py
  k5 : CB W b5 cs5 54
  o : Loc q (fun W => ER W oa M E) W
  g : NewE glo ghi W ga M E 32 56
section
variable {fc : Nat → C3} {flen : Nat} {fd fu : Int} {pn : Nat} {px py : Nat → Int} {p9 b9 b5 : Nat} {cs9 cs5 : Array Value} {M : Nat} {E : Nat → E4} {q : Nat} {oa : Option Addr} {oc glo ghi : Nat} {ga : Option Addr} {gc : Nat} {W W' : World}
theorem US.below (h : US fc flen fd fu pn px py p9 b9 b5 cs9 cs5 M E q oa oc glo ghi ga gc W) (b : Below W.heap.size W W') : US fc flen fd fu pn px py p9 b9 b5 cs9 cs5 M E q oa oc glo ghi ga gc W' := ⟨h.x9.below b h.x9.lt, h.c9.below b, h.k9.below b h.k9.lt, h.p5.below b, h.k5.below b h.k5.lt, h.o.below b, h.g.below b⟩
theorem US.drew (h : US fc flen fd fu pn px py p9 b9 b5 cs9 cs5 M E q oa oc glo ghi ga gc W) : US fc flen fd fu pn px py p9 b9 b5 cs9 cs5 M E q oa oc glo ghi ga gc W.drew := h.below (Below.refl _ _).drew
end
set_option maxHeartbeats 1000000 in
theorem markEntryS_new (ad : Option Addr) (n cap : Nat) (es : Nat → E4) (lo hi : Nat) (k : Int) (w : World) (h : (n : Int) ≤ 1048576) (hn : ∀ j, j < n → ((es j).n : Int) ≤ 1048576) (h0 : 0 < k) (h1 : k ≤ 1000000000000) (hE : NewE lo hi w ad n es 32 56) :
    Calls Tryd.prog 56 #[.slice ad n cap, .int .i64 k] w fun e w' => e = .returned (.int .i64 (kE k es n)) ∧ NewE lo hi w' ad n (mkE k es) 32 56 ∧ KR lo hi w w' := by
  rcases hE with rfl | ⟨B, bl, m, rfl, hB, hbl, hm, hO⟩
  · refine (markEntryS_none ad cap k w).mono ?_
    rintro e w' ⟨rfl, rfl⟩
    exact ⟨rfl, .inl rfl, KR.refl _ _ _⟩
  · refine (markEntryS_blk B m n cap es bl lo hi k w h hn h0 h1 hm hO hB hbl).mono ?_
    rintro e w' ⟨rfl, o1, k1⟩
    exact ⟨rfl, .inr ⟨B, bl, m, rfl, hB, hbl, hm, o1⟩, k1⟩
end Go.Proofs.YtgnhpjlfdkpaiaaDoor
