/- Marks over worths; what stands by in the laws whose answer is a worth. -/
import Derived.Test.YtdgccdlaokbnhaaWd
import Derived.Test.YtdgccdlaokbnhaaLo
import Derived.Test.YtdgccdlaokbnhaaTa
namespace Go.Proofs.Ytdgccdlaokbnhaa
open Go Go.ChangeShapes Go.WideShapes Go.ChangeAt Go.RowKit
set_option linter.unusedVariables false
set_option linter.unusedSimpArgs false

theorem markWorth_is (m p : Int) (b n cap : Nat) (off k0 : Int) (cs0 : Array Value) (w : World) (h : (n : Int) ≤ 1048576) (g0 : 0 < k0) (g1 : k0 ≤ 1000000000) (hC0 : CB w b cs0 40) (hs0 : n * 2 ≤ cs0.size) :
    Calls Try.prog 32 #[.agg #[.int .i64 m, .int .i64 p, .slice (some ⟨b, 0, none⟩) n cap, .int .i64 off], .int .i64 k0] w fun e w' => e = .returned (.int .i64 (k0 + 2 * (n : Int))) ∧ LAr w' (some ⟨b, 0, none⟩) n (mkLA2M k0) ∧ (∀ y, y < w.heap.size → y ≠ b → w'.heap[y]? = w.heap[y]?) ∧ Below b w w' := by
  have HC := hid hC0
  have hlt := hC0.lt
  clear hC0
  go_enter Try.func32, Try.ntmps32
  go_wp2_with (go_at_call 46; refine (markLA2S_is b n _ k0 cs0 _ h g0 g1 (HC.out.alloc _) hs0).mono ?_; rintro e w1 ⟨rfl, r1, _, kk, b1⟩; have HR := hid r1; have HK : Hid (∀ y, y < w.heap.size → y ≠ b → w1.heap[y]? = w.heap[y]?) := hid (fun y h1 h2 => (kk y (by simp; omega) h2).trans (((Below.refl w.heap.size w).alloc (Nat.le_refl _) _).block y h1)); have HB : Hid (Below b w w1) := hid ((((Below.refl w.heap.size w).alloc (Nat.le_refl _) _).mono (by omega)).trans b1); clear r1 kk b1)
  go_returns
  exact ⟨rfl, HR.out, HK.out, HB.out⟩
theorem markWorth_no (m p : Int) (ad : Option Addr) (cap : Nat) (off k0 : Int) (w : World) :
    Calls Try.prog 32 #[.agg #[.int .i64 m, .int .i64 p, .slice ad 0 cap, .int .i64 off], .int .i64 k0] w fun e w' => e = .returned (.int .i64 k0) ∧ Below w.heap.size w w' := by
  go_enter Try.func32, Try.ntmps32
  go_wp2_with (go_at_call 46; refine (markLA2S_no _ _ _ _).mono ?_; rintro e w1 ⟨rfl, ew⟩; replace ew := ew.symm; subst ew)
  go_returns
  exact ⟨rfl, by go_grown⟩
theorem markWM (m p : Int) (lo hi : Nat) (ad : Option Addr) (n cap : Nat) (off : Int) (c : Nat → LA2) (w : World) (h : (n : Int) ≤ 1048576) (H : OwnM w lo hi ad n c) :
    Calls Try.prog 32 #[.agg #[.int .i64 m, .int .i64 p, .slice ad n cap, .int .i64 off], .int .i64 1] w fun e w' => e = .returned (.int .i64 (1 + 2 * (n : Int))) ∧ LAr w' ad n (mkLA2M 1) ∧ (∀ y, y < w.heap.size → (y < lo ∨ hi ≤ y) → w'.heap[y]? = w.heap[y]?) ∧ (∀ y, y < w.heap.size → (∀ cs, ¬ CB w y cs 40) → w'.heap[y]? = w.heap[y]?) ∧ (lo ≤ w.heap.size → Below lo w w') := by
  rcases H with rfl | ⟨g, cs, rfl, h2, h3, h4, h5, h6⟩
  · refine (markWorth_no m p ad cap off 1 w).mono ?_
    rintro e w' ⟨rfl, b⟩
    exact ⟨by simp, .inl rfl, fun y hy _ => b.block y hy, fun y hy _ => b.block y hy, fun hl => b.mono hl⟩
  · refine (markWorth_is m p g n cap off 1 cs w h (by omega) (by omega) h4 h5).mono ?_
    rintro e w' ⟨rfl, hr, kk, b⟩
    exact ⟨rfl, hr, fun y hy hq => kk y hy (by omega), fun y hy hn => kk y hy (fun e => by subst e; exact hn cs h4), fun _ => b.mono h2⟩
theorem heldWorth_is (m p : Int) (ad : Option Addr) (n cap : Nat) (off k0 : Int) (w : World) (h : (n : Int) ≤ 1048576) (g0 : 0 < k0) (g1 : k0 ≤ 1000000000) (hr : LAr w ad n (mkLA2M k0)) :
    Calls Try.prog 33 #[.agg #[.int .i64 m, .int .i64 p, .slice ad n cap, .int .i64 off], .int .i64 k0] w fun e w' => e = .returned (.int .i64 (k0 + 2 * (n : Int))) ∧ Below w.heap.size w w' := by
  have HR := hid hr
  clear hr
  have hneg : ¬ (k0 + 2 * (n : Int)) < 0 := by omega
  go_enter Try.func33, Try.ntmps33
  go_wp2_with (go_at_call 47; refine (heldLA2S_is _ _ _ k0 _ h g0 g1 (HR.out.alloc _)).mono ?_; rintro e w1 ⟨rfl, ew⟩; replace ew := ew.symm; subst ew)
  go_returns
  exact ⟨rfl, by go_grown⟩
theorem CB.not {w : World} {b : Nat} {cs ds : Array Value} {t u : TypeId} (h : CB w b cs t) (htu : t ≠ u) : ¬ CB w b ds u := fun h2 => by
  unfold CB at h h2; rw [h] at h2; simp only [Option.some.injEq, Obj.cells.injEq] at h2; exact htu h2.2.1
theorem CB.ne_ty {w : World} {b d : Nat} {cs ds : Array Value} {t u : TypeId} (h : CB w b cs t) (h2 : CB w d ds u) (htu : t ≠ u) : b ≠ d := fun e => by subst e; exact h.not htu h2
/-- While the copy is whole. -/
structure TL (w : World) (m p : Int) (ad : Option Addr) (n cap : Nat) (off : Int) (c : Nat → LA2) (rm rp ro : Int) (N : Nat) (C : Nat → LA2) (ob : Nat) (ado : Option Addr) (co xb yb gb : Nat) (adg : Option Addr) (cg lo hi hg : Nat) (W : World) : Prop where
  u : WB w m p ad n cap off c W
  o : CB W ob #[.int .i64 rm, .int .i64 rp, .slice ado N co, .int .i64 ro] 26
  oo : OwnM W w.heap.size lo ado N C
  x : CB W xb #[.int .i64 m, .int .i64 p, .slice (some ⟨yb, 0, none⟩) n n, .int .i64 off] 26
  xr : LAr W (some ⟨yb, 0, none⟩) n c ∧ ∃ cs, CB W yb cs 40 ∧ cs.size = n * 2
  g : CB W gb #[.int .i64 rm, .int .i64 rp, .slice adg N cg, .int .i64 ro] 26
  gg : OwnM W hi hg adg N C
  l : w.heap.size ≤ lo ∧ lo ≤ yb ∧ yb < hi
  hz : hi ≤ W.heap.size
/-- When it is marked. -/
structure TM (w : World) (m p : Int) (ad : Option Addr) (n cap : Nat) (off : Int) (c : Nat → LA2) (rm rp ro : Int) (N : Nat) (C : Nat → LA2) (ob : Nat) (ado : Option Addr) (co xb yb gb : Nat) (adg : Option Addr) (cg lo hi hg : Nat) (W : World) : Prop where
  u : WB w m p ad n cap off c W
  o : CB W ob #[.int .i64 rm, .int .i64 rp, .slice ado N co, .int .i64 ro] 26
  oo : OwnM W w.heap.size lo ado N C
  g : CB W gb #[.int .i64 rm, .int .i64 rp, .slice adg N cg, .int .i64 ro] 26
  gg : OwnM W hi hg adg N C
  l : w.heap.size ≤ lo ∧ lo < hi
  hz : hi ≤ W.heap.size
/-- When the answer is marked too. -/
structure TN (w : World) (m p : Int) (ad : Option Addr) (n cap : Nat) (off : Int) (c : Nat → LA2) (rm rp ro : Int) (N : Nat) (C : Nat → LA2) (ob : Nat) (ado : Option Addr) (co xb yb gb : Nat) (adg : Option Addr) (cg lo hi hg : Nat) (W : World) : Prop where
  u : WB w m p ad n cap off c W
  o : CB W ob #[.int .i64 rm, .int .i64 rp, .slice ado N co, .int .i64 ro] 26
  oo : OwnM W w.heap.size lo ado N C
  g : CB W gb #[.int .i64 rm, .int .i64 rp, .slice adg N cg, .int .i64 ro] 26
  gr : LAr W adg N (mkLA2M 1)
section
variable {w W W' : World} {m p off rm rp ro : Int} {ad ado adg : Option Addr} {n cap N ob co xb yb gb cg lo hi hg : Nat} {c C : Nat → LA2}
theorem TL.below (h : TL w m p ad n cap off c rm rp ro N C ob ado co xb yb gb adg cg lo hi hg W) (b : Below W.heap.size W W') : TL w m p ad n cap off c rm rp ro N C ob ado co xb yb gb adg cg lo hi hg W' := ⟨h.u.below b, h.o.below b h.o.lt, h.oo.below b, h.x.below b h.x.lt, ⟨h.xr.1.below b, by obtain ⟨cs, q1, q2⟩ := h.xr.2; exact ⟨cs, q1.below b q1.lt, q2⟩⟩, h.g.below b h.g.lt, h.gg.below b, h.l, Nat.le_trans h.hz b.size⟩
theorem TM.below (h : TM w m p ad n cap off c rm rp ro N C ob ado co xb yb gb adg cg lo hi hg W) (b : Below W.heap.size W W') : TM w m p ad n cap off c rm rp ro N C ob ado co xb yb gb adg cg lo hi hg W' := ⟨h.u.below b, h.o.below b h.o.lt, h.oo.below b, h.g.below b h.g.lt, h.gg.below b, h.l, Nat.le_trans h.hz b.size⟩
theorem TN.below (h : TN w m p ad n cap off c rm rp ro N C ob ado co xb yb gb adg cg lo hi hg W) (b : Below W.heap.size W W') : TN w m p ad n cap off c rm rp ro N C ob ado co xb yb gb adg cg lo hi hg W' := ⟨h.u.below b, h.o.below b h.o.lt, h.oo.below b, h.g.below b h.g.lt, h.gr.below b⟩
theorem WB.keep (h : WB w m p ad n cap off c W) (k : ∀ y, y < w.heap.size → W'.heap[y]? = W.heap[y]?) (kb : W'.heap[w.heap.size]? = W.heap[w.heap.size]?) (hr : LAr w ad n c) (hb : Below w.heap.size W W') : WB w m p ad n cap off c W' := ⟨h.bl.trans hb, h.bx.keep kb, hr.below (h.bl.trans hb)⟩
theorem TL.marked (h : TL w m p ad n cap off c rm rp ro N C ob ado co xb yb gb adg cg lo hi hg W) (hr : LAr w ad n c) (kk : ∀ y, y < W.heap.size → y ≠ yb → W'.heap[y]? = W.heap[y]?) (b : Below yb W W') : TM w m p ad n cap off c rm rp ro N C ob ado co xb yb gb adg cg lo hi hg W' := by
  obtain ⟨l1, l2, l3⟩ := h.l
  obtain ⟨cs, q1, _⟩ := h.xr.2
  have n1 : w.heap.size ≠ yb := h.u.bx.ne_ty q1 (by decide)
  have n2 : ob ≠ yb := h.o.ne_ty q1 (by decide)
  have n3 : gb ≠ yb := h.g.ne_ty q1 (by decide)
  exact ⟨h.u.keep (fun y hy => kk y (Nat.lt_of_lt_of_le hy h.u.bl.size) (by omega)) (kk _ h.u.bx.lt n1) hr (b.mono (by omega)), h.o.keep (kk _ h.o.lt n2), h.oo.keep (fun g _ h2 h3 => kk g h3 (by omega)), h.g.keep (kk _ h.g.lt n3), h.gg.keep (fun g h1 _ h3 => kk g h3 (by omega)), ⟨l1, by omega⟩, Nat.le_trans h.hz b.size⟩
theorem TM.marked (h : TM w m p ad n cap off c rm rp ro N C ob ado co xb yb gb adg cg lo hi hg W) (hr : LAr w ad n c) (r : LAr W' adg N (mkLA2M 1)) (kk : ∀ y, y < W.heap.size → (y < hi ∨ hg ≤ y) → W'.heap[y]? = W.heap[y]?) (kt : ∀ y, y < W.heap.size → (∀ cs, ¬ CB W y cs 40) → W'.heap[y]? = W.heap[y]?) (b : Below hi W W') : TN w m p ad n cap off c rm rp ro N C ob ado co xb yb gb adg cg lo hi hg W' := by
  obtain ⟨l1, l2⟩ := h.l
  exact ⟨h.u.keep (fun y hy => kk y (Nat.lt_of_lt_of_le hy h.u.bl.size) (Or.inl (by omega))) (kt _ h.u.bx.lt (fun cs => h.u.bx.not (by decide))) hr (b.mono (by omega)), h.o.keep (kt _ h.o.lt (fun cs => h.o.not (by decide))), h.oo.keep (fun g _ h2 h3 => kk g h3 (Or.inl (by omega))), h.g.keep (kt _ h.g.lt (fun cs => h.g.not (by decide))), r⟩
end
end Go.Proofs.Ytdgccdlaokbnhaa
