/- The program's BooksOk; books that came in, read; what stands by in the laws over books. -/
import Derived.Test.YtapailihjlfkgaaDoorBoC
import Derived.Test.YtapailihjlfkgaaDoorBoD
import Derived.Test.YtapailihjlfkgaaDoorBoE
import Derived.Test.YtapailihjlfkgaaDoorEf
import Derived.Test.YtapailihjlfkgaaDoorFl
namespace Go.Proofs.YtapailihjlfkgaaDoor
open Go Go.ChangeShapes Go.WideShapes Go.ChangeAt Go.RowKit
set_option linter.unusedVariables false
set_option linter.unusedSimpArgs false

set_option maxRecDepth 20000 in
set_option maxHeartbeats 2000000 in
theorem implBooks_any (fa : Option Addr) (len cap : Nat) (c : Nat → C3) (d u : Int) (ea : Option Addr) (n ecap : Nat) (es : Nat → E4) (hd : Int) (pa : Option Addr) (m pcap : Nat) (x y : Nat → Int) (cl kp : Int) (w : World) (hl : (len : Int) ≤ 1048576) (hc : ∀ j, (c j).code.size ≤ maxLen) (hr : CR w fa len c) (hE : EL w) (hL : ER w ea n es) (hp : PR w pa m x y) (hm : (m : Int) ≤ 1048576) :
    Calls Tryd.prog 20 #[.agg #[.slice fa len cap, .int .i64 d, .int .i64 u, .slice ea n ecap, .int .i64 hd, .slice pa m pcap, .int .i64 cl, .int .i64 kp]] w fun e w' => e = .returned (.bool (boB len c d u n es hd m x y cl kp)) ∧ Below w.heap.size w w' := by
  have HO := fun W (hW : Below w.heap.size w W) => open_any fa len cap c d u ea n ecap es hd pa m pcap x y cl kp W hl hc (hr.below hW) (hE.below hW hE.nine) (hL.below hW) (hp.below hW) hm
  clear hr hE hL hp hc
  cases hv : boB len c d u n es hd m x y cl kp with
  | false =>
    have HQ : Hid (∀ W, Below w.heap.size w W → Calls Tryd.prog 44 #[.agg #[.slice fa len cap, .int .i64 d, .int .i64 u, .slice ea n ecap, .int .i64 hd, .slice pa m pcap, .int .i64 cl, .int .i64 kp]] W fun e w' => ∃ ty p, e = .returned (.tuple #[.agg #[.slice none 0 0, .int .i64 0, .int .i64 0, .pointer none, .slice none 0 0, .int .i64 0, .slice none 0 0, .int .i64 0, .int .i64 0], .iface ty p]) ∧ Below W.heap.size W w') := fun W hW => (HO W hW).mono (fun e w' q => by
      obtain ⟨T, v, ev, h1, h2, h3⟩ := q
      rcases h2 with ⟨h, _⟩ | ⟨_, rfl, ty, p, rfl, _⟩
      · rw [hv] at h; cases h
      · exact ⟨ty, p, h1, h3⟩)
    clear HO
    go_enter Tryd.func20, Tryd.ntmps20
    go_wp2_with (go_at_call 44; go_loud (refine (HQ.out _ (by go_grown)).mono ?_; rintro e w1 ⟨ty, p, rfl, b1⟩; have HB : Hid (Below w.heap.size w w1) := bel_on ((Below.refl _ _).alloc (Nat.le_refl _) _) b1; clear b1))
    go_returns
    exact ⟨rfl, HB.out.alloc HB.out.size _⟩
  | true =>
    have HQ : Hid (∀ W, Below w.heap.size w W → Calls Tryd.prog 44 #[.agg #[.slice fa len cap, .int .i64 d, .int .i64 u, .slice ea n ecap, .int .i64 hd, .slice pa m pcap, .int .i64 cl, .int .i64 kp]] W fun e w' => ∃ T, e = .returned (.tuple #[.agg #[.slice fa len cap, .int .i64 d, .int .i64 u, .pointer (some ⟨T, 0, none⟩), .slice ea n ecap, .int .i64 hd, .slice pa m pcap, .int .i64 cl, .int .i64 kp], .nilIface]) ∧ Below W.heap.size W w') := fun W hW => (HO W hW).mono (fun e w' q => by
      obtain ⟨T, v, ev, h1, h2, h3⟩ := q
      rcases h2 with ⟨_, rfl, rfl, _⟩ | ⟨h, _⟩
      · exact ⟨T, h1, h3⟩
      · rw [hv] at h; cases h)
    clear HO
    go_enter Tryd.func20, Tryd.ntmps20
    go_wp2_with (go_at_call 44; go_loud (refine (HQ.out _ (by go_grown)).mono ?_; rintro e w1 ⟨T, rfl, b1⟩; have HB : Hid (Below w.heap.size w w1) := bel_on ((Below.refl _ _).alloc (Nat.le_refl _) _) b1; clear b1))
    go_returns
    exact ⟨rfl, HB.out.alloc HB.out.size _⟩

structure BG (w : World) (fa : Option Addr) (len cap : Nat) (c : Nat → C3) (d u : Int) (ea : Option Addr) (n ecap : Nat) (es : Nat → E4) (hd : Int) (pa : Option Addr) (m pcap : Nat) (x y : Nat → Int) (cl kp : Int) (W : World) : Prop where
  xb : CB W w.heap.size #[.slice fa len cap, .int .i64 d, .int .i64 u, .slice ea n ecap, .int .i64 hd, .slice pa m pcap, .int .i64 cl, .int .i64 kp] 61
  cr : CR W fa len c
  er : ER W ea n es
  pr : PR W pa m x y
  bel : Below w.heap.size w W
section
variable {w : World} {fa : Option Addr} {len cap : Nat} {c : Nat → C3} {d u : Int} {ea : Option Addr} {n ecap : Nat} {es : Nat → E4} {hd : Int} {pa : Option Addr} {m pcap : Nat} {x y : Nat → Int} {cl kp : Int} {W W' : World}
theorem BG.below (h : BG w fa len cap c d u ea n ecap es hd pa m pcap x y cl kp W) (b : Below W.heap.size W W') : BG w fa len cap c d u ea n ecap es hd pa m pcap x y cl kp W' := ⟨h.xb.below b h.xb.lt, h.cr.below b, h.er.below b, h.pr.below b, bel_on h.bel b⟩
theorem BG.alloc (h : BG w fa len cap c d u ea n ecap es hd pa m pcap x y cl kp W) (o : Obj) : BG w fa len cap c d u ea n ecap es hd pa m pcap x y cl kp (W.alloc o) := h.below ((Below.refl _ _).alloc (Nat.le_refl _) o)
theorem BG.mk0 (h1 : CR w fa len c) (h2 : ER w ea n es) (h3 : PR w pa m x y) (b : Below (w.alloc (.cells #[.slice fa len cap, .int .i64 d, .int .i64 u, .slice ea n ecap, .int .i64 hd, .slice pa m pcap, .int .i64 cl, .int .i64 kp] 61 (0, 0))).heap.size (w.alloc (.cells #[.slice fa len cap, .int .i64 d, .int .i64 u, .slice ea n ecap, .int .i64 hd, .slice pa m pcap, .int .i64 cl, .int .i64 kp] 61 (0, 0))) W) : BG w fa len cap c d u ea n ecap es hd pa m pcap x y cl kp W :=
  ⟨(CB.new _ _).below b (by simp), (h1.alloc _).below b, (h2.alloc _).below b, (h3.alloc _).below b, bel_on ((Below.refl _ _).alloc (Nat.le_refl _) _) b⟩
end
structure BX (pb b1 b2 b3 len n m : Nat) (c : Nat → C3) (d u : Int) (es : Nat → E4) (hd : Int) (x y : Nat → Int) (cl kp : Int) (W : World) : Prop where
  yb : CB W pb #[.slice (some ⟨b1, 0, none⟩) len len, .int .i64 d, .int .i64 u, .slice (some ⟨b2, 0, none⟩) n n, .int .i64 hd, .slice (some ⟨b3, 0, none⟩) m m, .int .i64 cl, .int .i64 kp] 32
  cr : CR W (some ⟨b1, 0, none⟩) len c
  er : ER W (some ⟨b2, 0, none⟩) n es
  pr : PR W (some ⟨b3, 0, none⟩) m x y
section
variable {pb b1 b2 b3 len n m : Nat} {c : Nat → C3} {d u : Int} {es : Nat → E4} {hd : Int} {x y : Nat → Int} {cl kp : Int} {w W W' : World}
theorem BX.below (h : BX pb b1 b2 b3 len n m c d u es hd x y cl kp W) (b : Below W.heap.size W W') : BX pb b1 b2 b3 len n m c d u es hd x y cl kp W' := ⟨h.yb.below b h.yb.lt, h.cr.below b, h.er.below b, h.pr.below b⟩
theorem BX.mk0 (h1 : CR w (some ⟨b1, 0, none⟩) len c) (h2 : ER w (some ⟨b2, 0, none⟩) n es) (h3 : PR w (some ⟨b3, 0, none⟩) m x y) (b : Below (w.alloc (.cells #[.slice (some ⟨b1, 0, none⟩) len len, .int .i64 d, .int .i64 u, .slice (some ⟨b2, 0, none⟩) n n, .int .i64 hd, .slice (some ⟨b3, 0, none⟩) m m, .int .i64 cl, .int .i64 kp] 32 (0, 0))).heap.size (w.alloc (.cells #[.slice (some ⟨b1, 0, none⟩) len len, .int .i64 d, .int .i64 u, .slice (some ⟨b2, 0, none⟩) n n, .int .i64 hd, .slice (some ⟨b3, 0, none⟩) m m, .int .i64 cl, .int .i64 kp] 32 (0, 0))) W) : BX w.heap.size b1 b2 b3 len n m c d u es hd x y cl kp W :=
  ⟨(CB.new _ _).below b (by simp), (h1.alloc _).below b, (h2.alloc _).below b, (h3.alloc _).below b⟩
end

section
variable {H : Type} {enc : TypeId × Value → H} {P : Program} {w : World} {sp : Nat → Bool} {held : Bool}
/-- A struct of five fields, of three, two, one, one and one cells, opened. -/
theorem open_32111 {r : Reach} {b0 : Nat} {t : TypeId} {f0 f1 f2 f3 f4 : Field} {v : Value} {d : DataW H} {p : List MemPlace} (hs : P.underlying t = some (.struct #[f0, f1, f2, f3, f4])) (hC : P.cellsOf t = 8)
    (ho : f0.offset = 0 ∧ f1.offset = 3 ∧ f2.offset = 5 ∧ f3.offset = 6 ∧ f4.offset = 7) (hc : P.cellsOf f0.type = 3 ∧ P.cellsOf f1.type = 2 ∧ P.cellsOf f2.type = 1 ∧ P.cellsOf f3.type = 1 ∧ P.cellsOf f4.type = 1)
    (hv : Value.okWide P w r b0 t v) (h : DataW.Trod enc P w 0 sp held t v d p) :
    ∃ (v0 v1 v2 v3 v4 v5 v6 v7 : Value) (y0 y1 y2 y3 y4 : DataW H × List MemPlace) (n : Nat), v = .agg #[v0, v1, v2, v3, v4, v5, v6, v7] ∧
      DataW.trod enc P w 0 sp held n f0.type [v0, v1, v2] = some y0 ∧ DataW.trod enc P w 0 sp held n f1.type [v3, v4] = some y1 ∧ DataW.trod enc P w 0 sp held n f2.type [v5] = some y2 ∧ DataW.trod enc P w 0 sp held n f3.type [v6] = some y3 ∧ DataW.trod enc P w 0 sp held n f4.type [v7] = some y4 := by
  obtain ⟨cs, rfl, hsz⟩ := okWide_struct hs hv
  obtain ⟨fuel, hf⟩ := h
  obtain ⟨xs, n, _, _, hl, hlen, hg⟩ := DataW.trod_struct hs hf
  rw [hC] at hsz
  obtain ⟨l⟩ := cs
  match l, hsz, xs, hlen with
  | [c0, c1, c2, c3, c4, c5, c6, c7], _, [y0, y1, y2, y3, y4], _ =>
    have g0 := hg 0 f0 rfl
    have g1 := hg 1 f1 rfl
    have g2 := hg 2 f2 rfl
    have g3 := hg 3 f3 rfl
    have g4 := hg 4 f4 rfl
    rw [ho.1, hc.1] at g0
    rw [ho.2.1, hc.2.1] at g1
    rw [ho.2.2.1, hc.2.2.1] at g2
    rw [ho.2.2.2.1, hc.2.2.2.1] at g3
    rw [ho.2.2.2.2, hc.2.2.2.2] at g4
    exact ⟨c0, c1, c2, c3, c4, c5, c6, c7, y0, y1, y2, y3, y4, n, rfl, by simpa [Value.cells] using g0, by simpa [Value.cells] using g1, by simpa [Value.cells] using g2, by simpa [Value.cells] using g3, by simpa [Value.cells] using g4⟩
theorem open_in3 {t : TypeId} {f0 f1 f2 : Field} {v0 v1 v2 : Value} {k : Nat} {y : DataW H × List MemPlace} (hs : P.underlying t = some (.struct #[f0, f1, f2]))
    (ho : f0.offset = 0 ∧ f1.offset = 1 ∧ f2.offset = 2) (hc : P.cellsOf f0.type = 1 ∧ P.cellsOf f1.type = 1 ∧ P.cellsOf f2.type = 1) (h : DataW.trod enc P w 0 sp held k t [v0, v1, v2] = some y) :
    ∃ (y0 y1 y2 : DataW H × List MemPlace) (n : Nat), DataW.trod enc P w 0 sp held n f0.type [v0] = some y0 ∧ DataW.trod enc P w 0 sp held n f1.type [v1] = some y1 ∧ DataW.trod enc P w 0 sp held n f2.type [v2] = some y2 := by
  obtain ⟨xs, n, _, _, hl, hlen, hg⟩ := DataW.trod_struct hs h
  match xs, hlen with
  | [y0, y1, y2], _ =>
    have g0 := hg 0 f0 rfl
    have g1 := hg 1 f1 rfl
    have g2 := hg 2 f2 rfl
    rw [ho.1, hc.1] at g0
    rw [ho.2.1, hc.2.1] at g1
    rw [ho.2.2, hc.2.2] at g2
    exact ⟨y0, y1, y2, n, by simpa using g0, by simpa using g1, by simpa using g2⟩
theorem open_in2 {t : TypeId} {f0 f1 : Field} {v0 v1 : Value} {k : Nat} {y : DataW H × List MemPlace} (hs : P.underlying t = some (.struct #[f0, f1]))
    (ho : f0.offset = 0 ∧ f1.offset = 1) (hc : P.cellsOf f0.type = 1 ∧ P.cellsOf f1.type = 1) (h : DataW.trod enc P w 0 sp held k t [v0, v1] = some y) :
    ∃ (y0 y1 : DataW H × List MemPlace) (n : Nat), DataW.trod enc P w 0 sp held n f0.type [v0] = some y0 ∧ DataW.trod enc P w 0 sp held n f1.type [v1] = some y1 := by
  obtain ⟨xs, n, _, _, hl, hlen, hg⟩ := DataW.trod_struct hs h
  match xs, hlen with
  | [y0, y1], _ =>
    have g0 := hg 0 f0 rfl
    have g1 := hg 1 f1 rfl
    rw [ho.1, hc.1] at g0
    rw [ho.2, hc.2] at g1
    exact ⟨y0, y1, n, by simpa using g0, by simpa using g1⟩
end
end Go.Proofs.YtapailihjlfkgaaDoor
