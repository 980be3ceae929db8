/- Books that are opened; the program's BooksOk. -/
import Derived.Test.YtapailihjlfkgaaDoorBoB
import Derived.Deep.RegionHeld3
import Derived.Deep.Cut
namespace Go.Proofs.YtapailihjlfkgaaDoor
open Go Go.ChangeShapes Go.WideShapes Go.ChangeAt Go.RowKit
set_option linter.unusedVariables false
set_option linter.unusedSimpArgs false

structure BO (fa : Option Addr) (len cap : Nat) (d u : Int) (ea : Option Addr) (n ecap : Nat) (hd : Int) (pa : Option Addr) (m pcap : Nat) (cl kp : Int) (w W : World) : Prop where
  cg : CB W w.heap.size #[.slice fa len cap, .int .i64 d, .int .i64 u, .slice ea n ecap, .int .i64 hd, .slice pa m pcap, .int .i64 cl, .int .i64 kp] 32
  cz : CB W (w.heap.size + 1) #[.slice none 0 0, .int .i64 0, .int .i64 0, .pointer none, .slice none 0 0, .int .i64 0, .slice none 0 0, .int .i64 0, .int .i64 0] 98
  bel : Below w.heap.size w W
section
variable {fa : Option Addr} {len cap : Nat} {d u : Int} {ea : Option Addr} {n ecap : Nat} {hd : Int} {pa : Option Addr} {m pcap : Nat} {cl kp : Int} {w W W' : World}
theorem BO.below (h : BO fa len cap d u ea n ecap hd pa m pcap cl kp w W) (b : Below W.heap.size W W') : BO fa len cap d u ea n ecap hd pa m pcap cl kp w W' := ⟨h.cg.below b h.cg.lt, h.cz.below b h.cz.lt, bel_on h.bel b⟩
theorem BO.alloc (h : BO fa len cap d u ea n ecap hd pa m pcap cl kp w W) (o : Obj) : BO fa len cap d u ea n ecap hd pa m pcap cl kp w (W.alloc o) := h.below ((Below.refl _ _).alloc (Nat.le_refl _) o)
theorem BO.drewS (h : BO fa len cap d u ea n ecap hd pa m pcap cl kp w W) : BO fa len cap d u ea n ecap hd pa m pcap cl kp w W.drew := h.below (Below.refl _ _).drew
theorem BO.other (h : BO fa len cap d u ea n ecap hd pa m pcap cl kp w W) {b : Nat} (o : Nat) (v : Value) (hb : w.heap.size + 1 < b) : BO fa len cap d u ea n ecap hd pa m pcap cl kp w (W.setCell ⟨b, o, none⟩ v) := ⟨h.cg.other _ (by omega), h.cz.other _ (by omega), h.bel.setCell (by show w.heap.size ≤ b; omega) _⟩
theorem BO.cells (h : BO fa len cap d u ea n ecap hd pa m pcap cl kp w W) : W.cell? ⟨w.heap.size, 0, none⟩ = some (.slice fa len cap) ∧ W.cell? ⟨w.heap.size, 1, none⟩ = some (.int .i64 d) ∧ W.cell? ⟨w.heap.size, 2, none⟩ = some (.int .i64 u) ∧ W.cell? ⟨w.heap.size, 3, none⟩ = some (.slice ea n ecap) ∧ W.cell? ⟨w.heap.size, 4, none⟩ = some (.int .i64 hd) ∧ W.cell? ⟨w.heap.size, 5, none⟩ = some (.slice pa m pcap) ∧ W.cell? ⟨w.heap.size, 6, none⟩ = some (.int .i64 cl) ∧ W.cell? ⟨w.heap.size, 7, none⟩ = some (.int .i64 kp) := ⟨(h.cg.cell 0).trans rfl, (h.cg.cell 1).trans rfl, (h.cg.cell 2).trans rfl, (h.cg.cell 3).trans rfl, (h.cg.cell 4).trans rfl, (h.cg.cell 5).trans rfl, (h.cg.cell 6).trans rfl, (h.cg.cell 7).trans rfl⟩
end
set_option maxRecDepth 20000 in
set_option maxHeartbeats 8000000 in
theorem open_any (fa : Option Addr) (len cap : Nat) (c : Nat → C3) (d u : Int) (ea : Option Addr) (n ecap : Nat) (es : Nat → E4) (hd : Int) (pa : Option Addr) (m pcap : Nat) (x y : Nat → Int) (cl kp : Int) (w : World) (hl : (len : Int) ≤ 1048576) (hc : ∀ j, (c j).code.size ≤ maxLen) (hr : CR w fa len c) (hE : EL w) (hL : ER w ea n es) (hp : PR w pa m x y) (hm : (m : Int) ≤ 1048576) :
    Calls Tryd.prog 44 #[.agg #[.slice fa len cap, .int .i64 d, .int .i64 u, .slice ea n ecap, .int .i64 hd, .slice pa m pcap, .int .i64 cl, .int .i64 kp]] w fun e w' => ∃ T v ev, e = .returned (.tuple #[v, ev]) ∧ ((boB len c d u n es hd m x y cl kp = true ∧ v = .agg #[.slice fa len cap, .int .i64 d, .int .i64 u, .pointer (some ⟨T, 0, none⟩), .slice ea n ecap, .int .i64 hd, .slice pa m pcap, .int .i64 cl, .int .i64 kp] ∧ ev = .nilIface ∧ Tree w' T len c) ∨ (boB len c d u n es hd m x y cl kp = false ∧ v = .agg #[.slice none 0 0, .int .i64 0, .int .i64 0, .pointer none, .slice none 0 0, .int .i64 0, .slice none 0 0, .int .i64 0, .int .i64 0] ∧ ∃ ty p, ev = .iface ty p ∧ w.cell? ⟨0, 0, none⟩ = some (.iface ty p))) ∧ Below w.heap.size w w' := by
  have HC : Hid (∀ j, (c j).code.size ≤ maxLen) := hc
  have HGR : Hid (∀ (W : World) (T : Nat), Tree W T len c → Below w.heap.size w W → Calls Tryd.prog 81 #[.agg #[.slice fa len cap, .int .i64 d, .int .i64 u, .pointer (some ⟨T, 0, none⟩), .slice ea n ecap, .int .i64 hd, .slice pa m pcap, .int .i64 cl, .int .i64 kp]] W fun e w' => e = .returned (.bool (boB len c d u n es hd m x y cl kp)) ∧ Below W.heap.size W w') := fun W T hT hB => booksRight_any fa len cap c d u T ea n ecap es hd pa m pcap x y cl kp W hT (hL.below hB) (hp.below hB) hm
  obtain ⟨ty, gp, hg⟩ := hE 0 (.inl rfl) (by omega)
  have HG : Hid (w.cell? ⟨0, 0, none⟩ = some (.iface ty gp)) := hg
  have hso : BO fa len cap d u ea n ecap hd pa m pcap cl kp w ((w.alloc (.cells #[.slice fa len cap, .int .i64 d, .int .i64 u, .slice ea n ecap, .int .i64 hd, .slice pa m pcap, .int .i64 cl, .int .i64 kp] 32 (0, 0))).alloc (.cells #[.slice none 0 0, .int .i64 0, .int .i64 0, .pointer none, .slice none 0 0, .int .i64 0, .slice none 0 0, .int .i64 0, .int .i64 0] 98 (0, 0))) := ⟨(CB.new _ _).alloc _, CB.newAt (by simp) _ _, ((Below.refl _ _).alloc (Nat.le_refl _) _).alloc (by simp) _⟩
  have hr0 : CR ((w.alloc (.cells #[.slice fa len cap, .int .i64 d, .int .i64 u, .slice ea n ecap, .int .i64 hd, .slice pa m pcap, .int .i64 cl, .int .i64 kp] 32 (0, 0))).alloc (.cells #[.slice none 0 0, .int .i64 0, .int .i64 0, .pointer none, .slice none 0 0, .int .i64 0, .slice none 0 0, .int .i64 0, .int .i64 0] 98 (0, 0))).drew fa len c := ((hr.alloc _).alloc _).drew'
  have he0 : EL ((w.alloc (.cells #[.slice fa len cap, .int .i64 d, .int .i64 u, .slice ea n ecap, .int .i64 hd, .slice pa m pcap, .int .i64 cl, .int .i64 kp] 32 (0, 0))).alloc (.cells #[.slice none 0 0, .int .i64 0, .int .i64 0, .pointer none, .slice none 0 0, .int .i64 0, .slice none 0 0, .int .i64 0, .int .i64 0] 98 (0, 0))).drew := ((hE.alloc' _).alloc' _).drew'
  have hsz : ((w.alloc (.cells #[.slice fa len cap, .int .i64 d, .int .i64 u, .slice ea n ecap, .int .i64 hd, .slice pa m pcap, .int .i64 cl, .int .i64 kp] 32 (0, 0))).alloc (.cells #[.slice none 0 0, .int .i64 0, .int .i64 0, .pointer none, .slice none 0 0, .int .i64 0, .slice none 0 0, .int .i64 0, .int .i64 0] 98 (0, 0))).heap.size = w.heap.size + 1 + 1 := by simp
  clear hc hr hE hL hp hg
  go_enter Tryd.func44, Tryd.ntmps44
  go_wp2
  generalize (w.alloc (.cells #[.slice fa len cap, .int .i64 d, .int .i64 u, .slice ea n ecap, .int .i64 hd, .slice pa m pcap, .int .i64 cl, .int .i64 kp] 32 (0, 0))).alloc (.cells #[.slice none 0 0, .int .i64 0, .int .i64 0, .pointer none, .slice none 0 0, .int .i64 0, .slice none 0 0, .int .i64 0, .int .i64 0] 98 (0, 0)) = W0 at hso hr0 he0 hsz ⊢
  have SO0 : Hid (BO fa len cap d u ea n ecap hd pa m pcap cl kp w W0) := hso
  have HR : Hid (CR W0.drew fa len c) := hr0
  have HE : Hid (EL W0.drew) := he0
  have HSZ : Hid (W0.heap.size = w.heap.size + 1 + 1) := hsz
  clear hso hr0 he0 hsz
  go_cut [4] from 5 (fun s5 wx => ∃ p5 T, s5 = .pointer (some ⟨p5, 0, none⟩) ∧ CB wx p5 #[.slice fa len cap, .int .i64 d, .int .i64 u, .pointer (some ⟨T, 0, none⟩), .slice ea n ecap, .int .i64 hd, .slice pa m pcap, .int .i64 cl, .int .i64 kp] 98 ∧ CB wx (w.heap.size + 1) #[.slice none 0 0, .int .i64 0, .int .i64 0, .pointer none, .slice none 0 0, .int .i64 0, .slice none 0 0, .int .i64 0, .int .i64 0] 98 ∧ w.heap.size + 1 < p5 ∧ TreeF wx (w.heap.size + 1 + 1) T len c ∧ Below w.heap.size w wx)
  case first =>
    refine wp_region_held_drew (S := fun w' => w'.cell? ⟨w.heap.size, 0, none⟩ = some (.slice fa len cap) ∧ w'.cell? ⟨w.heap.size, 1, none⟩ = some (.int .i64 d) ∧ w'.cell? ⟨w.heap.size, 2, none⟩ = some (.int .i64 u) ∧ w'.cell? ⟨w.heap.size, 3, none⟩ = some (.slice ea n ecap) ∧ w'.cell? ⟨w.heap.size, 4, none⟩ = some (.int .i64 hd) ∧ w'.cell? ⟨w.heap.size, 5, none⟩ = some (.slice pa m pcap) ∧ w'.cell? ⟨w.heap.size, 6, none⟩ = some (.int .i64 cl) ∧ w'.cell? ⟨w.heap.size, 7, none⟩ = some (.int .i64 kp)) (by kernel_rfl) (by exact SO0.out.drewS.cells) (fun hHeld => ?_)
    refine wpAnyH_take (i := 0) (oi := { dst := some 5, op := Go.Op.fieldAddr 32 (Go.Operand.tmp 1) 0, type := 0, pos := "l06_books.go:99", after := #[], guard := none }) (v := ?_) rfl (by kernel_rfl) (by kernel_rfl) (by kernel_rfl) (fun _ _ _ h => h) (Or.inl ⟨by rfl, ?_⟩) (by assumption) ?_
    rotate_left
    · (intro w hSw; (try dsimp only at hSw); go_simp <;> try with_reducible rfl)
    try simp only [Act.put, List.setIfInBounds_toArray, List.set_cons_zero, List.set_cons_succ]
    refine wpAnyH_take (i := 1) (oi := { dst := some 6, op := Go.Op.load 26 (Go.Operand.tmp 5), type := 26, pos := "l06_books.go:99", after := #[{ on := 0, ground := Go.Ground.data }], guard := none }) (v := ?_) rfl (by kernel_rfl) (by kernel_rfl) (by kernel_rfl) (fun _ _ _ h => h) (Or.inl ⟨by rfl, ?_⟩) (by assumption) ?_
    rotate_left
    · (intro w hSw; (try dsimp only at hSw); go_simp <;> try with_reducible rfl)
    try simp only [Act.put, List.setIfInBounds_toArray, List.set_cons_zero, List.set_cons_succ]
    refine wpAnyH_take (i := 3) (oi := { dst := some 8, op := Go.Op.fieldAddr 32 (Go.Operand.tmp 1) 1, type := 0, pos := "l06_books.go:99", after := #[], guard := none }) (v := ?_) rfl (by kernel_rfl) (by kernel_rfl) (by kernel_rfl) (fun _ _ _ h => h) (Or.inl ⟨by rfl, ?_⟩) (by assumption) ?_
    rotate_left
    · (intro w hSw; (try dsimp only at hSw); go_simp <;> try with_reducible rfl)
    try simp only [Act.put, List.setIfInBounds_toArray, List.set_cons_zero, List.set_cons_succ]
    refine wpAnyH_take (i := 4) (oi := { dst := some 9, op := Go.Op.load 29 (Go.Operand.tmp 8), type := 29, pos := "l06_books.go:99", after := #[{ on := 3, ground := Go.Ground.data }], guard := none }) (v := ?_) rfl (by kernel_rfl) (by kernel_rfl) (by kernel_rfl) (fun _ _ _ h => h) (Or.inl ⟨by rfl, ?_⟩) (by assumption) ?_
    rotate_left
    · (intro w hSw; (try dsimp only at hSw); go_simp <;> try with_reducible rfl)
    try simp only [Act.put, List.setIfInBounds_toArray, List.set_cons_zero, List.set_cons_succ]
    refine wpAnyH_take (i := 5) (oi := { dst := some 10, op := Go.Op.fieldAddr 32 (Go.Operand.tmp 1) 2, type := 0, pos := "l06_books.go:99", after := #[], guard := none }) (v := ?_) rfl (by kernel_rfl) (by kernel_rfl) (by kernel_rfl) (fun _ _ _ h => h) (Or.inl ⟨by rfl, ?_⟩) (by assumption) ?_
    rotate_left
    · (intro w hSw; (try dsimp only at hSw); go_simp <;> try with_reducible rfl)
    try simp only [Act.put, List.setIfInBounds_toArray, List.set_cons_zero, List.set_cons_succ]
    refine wpAnyH_take (i := 6) (oi := { dst := some 11, op := Go.Op.load 30 (Go.Operand.tmp 10), type := 30, pos := "l06_books.go:99", after := #[{ on := 5, ground := Go.Ground.data }], guard := none }) (v := ?_) rfl (by kernel_rfl) (by kernel_rfl) (by kernel_rfl) (fun _ _ _ h => h) (Or.inl ⟨by rfl, ?_⟩) (by assumption) ?_
    rotate_left
    · (intro w hSw; (try dsimp only at hSw); go_simp <;> try with_reducible rfl)
    try simp only [Act.put, List.setIfInBounds_toArray, List.set_cons_zero, List.set_cons_succ]
    refine wpAnyH_take (i := 7) (oi := { dst := some 12, op := Go.Op.fieldAddr 32 (Go.Operand.tmp 1) 3, type := 0, pos := "l06_books.go:99", after := #[], guard := none }) (v := ?_) rfl (by kernel_rfl) (by kernel_rfl) (by kernel_rfl) (fun _ _ _ h => h) (Or.inl ⟨by rfl, ?_⟩) (by assumption) ?_
    rotate_left
    · (intro w hSw; (try dsimp only at hSw); go_simp <;> try with_reducible rfl)
    try simp only [Act.put, List.setIfInBounds_toArray, List.set_cons_zero, List.set_cons_succ]
    refine wpAnyH_take (i := 8) (oi := { dst := some 13, op := Go.Op.load 3 (Go.Operand.tmp 12), type := 3, pos := "l06_books.go:99", after := #[{ on := 7, ground := Go.Ground.data }], guard := none }) (v := ?_) rfl (by kernel_rfl) (by kernel_rfl) (by kernel_rfl) (fun _ _ _ h => h) (Or.inl ⟨by rfl, ?_⟩) (by assumption) ?_
    rotate_left
    · (intro w hSw; (try dsimp only at hSw); go_simp <;> try with_reducible rfl)
    try simp only [Act.put, List.setIfInBounds_toArray, List.set_cons_zero, List.set_cons_succ]
    refine wpAnyH_take (i := 9) (oi := { dst := some 14, op := Go.Op.fieldAddr 32 (Go.Operand.tmp 1) 4, type := 0, pos := "l06_books.go:99", after := #[], guard := none }) (v := ?_) rfl (by kernel_rfl) (by kernel_rfl) (by kernel_rfl) (fun _ _ _ h => h) (Or.inl ⟨by rfl, ?_⟩) (by assumption) ?_
    rotate_left
    · (intro w hSw; (try dsimp only at hSw); go_simp <;> try with_reducible rfl)
    try simp only [Act.put, List.setIfInBounds_toArray, List.set_cons_zero, List.set_cons_succ]
    refine wpAnyH_take (i := 10) (oi := { dst := some 15, op := Go.Op.load 3 (Go.Operand.tmp 14), type := 3, pos := "l06_books.go:99", after := #[{ on := 9, ground := Go.Ground.data }], guard := none }) (v := ?_) rfl (by kernel_rfl) (by kernel_rfl) (by kernel_rfl) (fun _ _ _ h => h) (Or.inl ⟨by rfl, ?_⟩) (by assumption) ?_
    rotate_left
    · (intro w hSw; (try dsimp only at hSw); go_simp <;> try with_reducible rfl)
    try simp only [Act.put, List.setIfInBounds_toArray, List.set_cons_zero, List.set_cons_succ]
    refine wpAnyH_ready (rs := [2, 12]) (by kernel_rfl) (by simp) ?_
    refine AllReadyH.cons (o := { dst := some 7, op := Go.Op.call { callee := Go.Callee.value (Go.Operand.func 31), args := #[Go.Operand.tmp 6], argTypes := #[26] }, type := 82, pos := "l06_books.go:99", after := #[{ on := 1, ground := Go.Ground.data }], guard := none }) rfl (fun K hK => ?_) (AllReadyH.cons (o := { dst := some 4, op := Go.Op.alloc 98, type := 0, pos := "l06_books.go:99", after := #[], guard := none }) rfl (fun K hK => ?_) (AllReadyH.nil))
    · go_simp
      refine (layF_any _ _ _ c _ _ _ hl HC.out HR.out HE.out).mono ?_
      rintro e w1 ⟨T, rfl, hT, b1⟩
      have bb : Below W0.heap.size W0 w1 := ⟨b1.os, b1.tape, b1.output, b1.size, b1.block⟩
      have SA : Hid (BO fa len cap d u ea n ecap hd pa m pcap cl kp w w1) := SO0.out.below bb
      have HTr : Hid (TreeF w1 W0.drew.heap.size T len c) := hT
      have hw1 : w.heap.size + 1 + 1 ≤ w1.heap.size := by have := bb.size; rw [HSZ.out] at this; exact this
      clear hT b1 bb
      first | refine hK.out _ _ (by exact SA.out.cells) (fun hHeld => ?_) | (go_wp2_with fail; refine hK.out _ _ (by exact SA.out.cells) (fun hHeld => ?_))
      clear hK K
      try simp only [Act.put, List.setIfInBounds_toArray, List.set_cons_zero, List.set_cons_succ]
      refine wpAnyH_take (i := 11) (oi := { dst := some 16, op := Go.Op.build 98 #[(0, Go.Operand.tmp 7), (1, Go.Operand.tmp 9), (2, Go.Operand.tmp 11), (3, Go.Operand.tmp 13), (4, Go.Operand.tmp 15)], type := 98, pos := "l06_books.go:99", after := #[{ on := 2, ground := Go.Ground.data }, { on := 4, ground := Go.Ground.data }, { on := 6, ground := Go.Ground.data }, { on := 8, ground := Go.Ground.data }, { on := 10, ground := Go.Ground.data }], guard := none }) (v := ?_) rfl (by kernel_rfl) (by kernel_rfl) (by kernel_rfl) (fun _ _ _ h => h) (Or.inl ⟨by rfl, ?_⟩) (by assumption) ?_
      rotate_left
      · (intro w hSw; (try dsimp only at hSw); go_simp <;> try with_reducible rfl)
      try simp only [Act.put, List.setIfInBounds_toArray, List.set_cons_zero, List.set_cons_succ]
      refine wpAnyH_ready (rs := [12]) (by kernel_rfl) (by simp) ?_
      refine AllReadyH.cons (o := { dst := some 4, op := Go.Op.alloc 98, type := 0, pos := "l06_books.go:99", after := #[], guard := none }) rfl (fun K hK => ?_) (AllReadyH.nil)
      go_simp
      first | refine hK.out _ _ (by exact (SA.out.alloc _).cells) (fun hHeld => ?_) | (go_wp2_with fail; refine hK.out _ _ (by exact (SA.out.alloc _).cells) (fun hHeld => ?_))
      clear hK K
      try simp only [Act.put, List.setIfInBounds_toArray, List.set_cons_zero, List.set_cons_succ]
      refine wpAnyH_ready (rs := [13]) (by kernel_rfl) (by simp) ?_
      refine AllReadyH.cons (o := { dst := none, op := Go.Op.store 98 (Go.Operand.tmp 4) (Go.Operand.tmp 16), type := 0, pos := "l06_books.go:99", after := #[{ on := 12, ground := Go.Ground.data }, { on := 11, ground := Go.Ground.data }, { on := 2, ground := Go.Ground.chain }, { on := 0, ground := Go.Ground.phase }, { on := 1, ground := Go.Ground.phase }, { on := 2, ground := Go.Ground.phase }, { on := 3, ground := Go.Ground.phase }, { on := 4, ground := Go.Ground.phase }, { on := 5, ground := Go.Ground.phase }, { on := 6, ground := Go.Ground.phase }, { on := 7, ground := Go.Ground.phase }, { on := 8, ground := Go.Ground.phase }, { on := 9, ground := Go.Ground.phase }, { on := 10, ground := Go.Ground.phase }, { on := 11, ground := Go.Ground.phase }, { on := 12, ground := Go.Ground.phase }], guard := none }) rfl (fun K hK => ?_) (AllReadyH.nil)
      go_simp
      first | refine hK.out _ _ (by exact (SA.out.alloc _).cells) (fun hHeld => ?_) | (go_wp2_with fail; refine hK.out _ _ (by exact (SA.out.alloc _).cells) (fun hHeld => ?_))
      clear hK K
      try simp only [Act.put, List.setIfInBounds_toArray, List.set_cons_zero, List.set_cons_succ]
      refine wpAnyH_done (by kernel_rfl) ?_ _
      clear hHeld
      go_wp2_with fail
      go_meet
      exact ⟨_, T, rfl, CB.new _ _, SA.out.cz.alloc _, by omega, (HTr.out.lower (by have := HSZ.out; show w.heap.size + 1 + 1 ≤ W0.heap.size; omega)).alloc _, SA.out.bel.alloc SA.out.bel.size _⟩
    · go_simp
      first | refine hK.out _ _ (by exact (SO0.out.drewS.alloc _).cells) (fun hHeld => ?_) | (go_wp2_with fail; refine hK.out _ _ (by exact (SO0.out.drewS.alloc _).cells) (fun hHeld => ?_))
      clear hK K
      try simp only [Act.put, List.setIfInBounds_toArray, List.set_cons_zero, List.set_cons_succ]
      refine wpAnyH_ready (rs := [2]) (by kernel_rfl) (by simp) ?_
      refine AllReadyH.cons (o := { dst := some 7, op := Go.Op.call { callee := Go.Callee.value (Go.Operand.func 31), args := #[Go.Operand.tmp 6], argTypes := #[26] }, type := 82, pos := "l06_books.go:99", after := #[{ on := 1, ground := Go.Ground.data }], guard := none }) rfl (fun K hK => ?_) (AllReadyH.nil)
      go_simp
      refine (layF_any _ _ _ c _ _ _ hl HC.out (HR.out.alloc _) (HE.out.alloc' _)).mono ?_
      rintro e w1 ⟨T, rfl, hT, b1⟩
      have bb : Below W0.heap.size W0 w1 := by have b0 : Below W0.drew.heap.size W0.drew w1 := bel_on ((Below.refl _ _).alloc (Nat.le_refl _) _) b1; exact ⟨b0.os, b0.tape, b0.output, b0.size, b0.block⟩
      have SA : Hid (BO fa len cap d u ea n ecap hd pa m pcap cl kp w w1) := SO0.out.below bb
      have HTr : Hid (TreeF w1 (W0.drew.alloc (.cells #[.slice none 0 0, .int .i64 0, .int .i64 0, .pointer none, .slice none 0 0, .int .i64 0, .slice none 0 0, .int .i64 0, .int .i64 0] 98 (0, 0))).heap.size T len c) := hT
      have C5 : CB w1 W0.heap.size #[.slice none 0 0, .int .i64 0, .int .i64 0, .pointer none, .slice none 0 0, .int .i64 0, .slice none 0 0, .int .i64 0, .int .i64 0] 98 := (CB.newAt (by rfl) _ _).below b1 (by simp)
      have HC5 : Hid (CB w1 W0.heap.size #[.slice none 0 0, .int .i64 0, .int .i64 0, .pointer none, .slice none 0 0, .int .i64 0, .slice none 0 0, .int .i64 0, .int .i64 0] 98) := C5
      have m0 := (C5.cell 0).trans rfl
      have m1 := (C5.cell 1).trans rfl
      have m2 := (C5.cell 2).trans rfl
      have m3 := (C5.cell 3).trans rfl
      have m4 := (C5.cell 4).trans rfl
      have m5 := (C5.cell 5).trans rfl
      have m6 := (C5.cell 6).trans rfl
      have m7 := (C5.cell 7).trans rfl
      have m8 := (C5.cell 8).trans rfl
      have f0 := C5.fr 0
      have f1 := C5.fr 1
      have f2 := C5.fr 2
      have f3 := C5.fr 3
      have f4 := C5.fr 4
      have f5 := C5.fr 5
      have f6 := C5.fr 6
      have f7 := C5.fr 7
      have f8 := C5.fr 8
      clear C5
      have hw1 : w.heap.size + 1 + 1 ≤ w1.heap.size := by have := bb.size; rw [HSZ.out] at this; exact this
      clear hT b1 bb
      first | refine hK.out _ _ (by exact SA.out.cells) (fun hHeld => ?_) | (go_wp2_with fail; refine hK.out _ _ (by exact SA.out.cells) (fun hHeld => ?_))
      clear hK K
      try simp only [Act.put, List.setIfInBounds_toArray, List.set_cons_zero, List.set_cons_succ]
      refine wpAnyH_take (i := 11) (oi := { dst := some 16, op := Go.Op.build 98 #[(0, Go.Operand.tmp 7), (1, Go.Operand.tmp 9), (2, Go.Operand.tmp 11), (3, Go.Operand.tmp 13), (4, Go.Operand.tmp 15)], type := 98, pos := "l06_books.go:99", after := #[{ on := 2, ground := Go.Ground.data }, { on := 4, ground := Go.Ground.data }, { on := 6, ground := Go.Ground.data }, { on := 8, ground := Go.Ground.data }, { on := 10, ground := Go.Ground.data }], guard := none }) (v := ?_) rfl (by kernel_rfl) (by kernel_rfl) (by kernel_rfl) (fun _ _ _ h => h) (Or.inl ⟨by rfl, ?_⟩) (by assumption) ?_
      rotate_left
      · (intro w hSw; (try dsimp only at hSw); go_simp <;> try with_reducible rfl)
      try simp only [Act.put, List.setIfInBounds_toArray, List.set_cons_zero, List.set_cons_succ]
      refine wpAnyH_ready (rs := [13]) (by kernel_rfl) (by simp) ?_
      refine AllReadyH.cons (o := { dst := none, op := Go.Op.store 98 (Go.Operand.tmp 4) (Go.Operand.tmp 16), type := 0, pos := "l06_books.go:99", after := #[{ on := 12, ground := Go.Ground.data }, { on := 11, ground := Go.Ground.data }, { on := 2, ground := Go.Ground.chain }, { on := 0, ground := Go.Ground.phase }, { on := 1, ground := Go.Ground.phase }, { on := 2, ground := Go.Ground.phase }, { on := 3, ground := Go.Ground.phase }, { on := 4, ground := Go.Ground.phase }, { on := 5, ground := Go.Ground.phase }, { on := 6, ground := Go.Ground.phase }, { on := 7, ground := Go.Ground.phase }, { on := 8, ground := Go.Ground.phase }, { on := 9, ground := Go.Ground.phase }, { on := 10, ground := Go.Ground.phase }, { on := 11, ground := Go.Ground.phase }, { on := 12, ground := Go.Ground.phase }], guard := none }) rfl (fun K hK => ?_) (AllReadyH.nil)
      have hp5 : w.heap.size + 1 < W0.heap.size := by rw [HSZ.out]; omega
      have SX : Hid (BO fa len cap d u ea n ecap hd pa m pcap cl kp w (((((((((w1.setCell ⟨W0.heap.size, 0, none⟩ (.slice fa len cap)).setCell ⟨W0.heap.size, 1, none⟩ (.int .i64 d)).setCell ⟨W0.heap.size, 2, none⟩ (.int .i64 u)).setCell ⟨W0.heap.size, 3, none⟩ (.pointer (some ⟨T, 0, none⟩))).setCell ⟨W0.heap.size, 4, none⟩ (.slice ea n ecap)).setCell ⟨W0.heap.size, 5, none⟩ (.int .i64 hd)).setCell ⟨W0.heap.size, 6, none⟩ (.slice pa m pcap)).setCell ⟨W0.heap.size, 7, none⟩ (.int .i64 cl)).setCell ⟨W0.heap.size, 8, none⟩ (.int .i64 kp))) := (((((((((SA.out.other 0 (.slice fa len cap) hp5).other 1 (.int .i64 d) hp5).other 2 (.int .i64 u) hp5).other 3 (.pointer (some ⟨T, 0, none⟩)) hp5).other 4 (.slice ea n ecap) hp5).other 5 (.int .i64 hd) hp5).other 6 (.slice pa m pcap) hp5).other 7 (.int .i64 cl) hp5).other 8 (.int .i64 kp) hp5)
      have HX5 : Hid (CB (((((((((w1.setCell ⟨W0.heap.size, 0, none⟩ (.slice fa len cap)).setCell ⟨W0.heap.size, 1, none⟩ (.int .i64 d)).setCell ⟨W0.heap.size, 2, none⟩ (.int .i64 u)).setCell ⟨W0.heap.size, 3, none⟩ (.pointer (some ⟨T, 0, none⟩))).setCell ⟨W0.heap.size, 4, none⟩ (.slice ea n ecap)).setCell ⟨W0.heap.size, 5, none⟩ (.int .i64 hd)).setCell ⟨W0.heap.size, 6, none⟩ (.slice pa m pcap)).setCell ⟨W0.heap.size, 7, none⟩ (.int .i64 cl)).setCell ⟨W0.heap.size, 8, none⟩ (.int .i64 kp)) (W0.heap.size) #[.slice fa len cap, .int .i64 d, .int .i64 u, .pointer (some ⟨T, 0, none⟩), .slice ea n ecap, .int .i64 hd, .slice pa m pcap, .int .i64 cl, .int .i64 kp] 98) := (((((((((HC5.out.set 0 (.slice fa len cap)).set 1 (.int .i64 d)).set 2 (.int .i64 u)).set 3 (.pointer (some ⟨T, 0, none⟩))).set 4 (.slice ea n ecap)).set 5 (.int .i64 hd)).set 6 (.slice pa m pcap)).set 7 (.int .i64 cl)).set 8 (.int .i64 kp))
      have h5 : W0.heap.size < (W0.drew.alloc (.cells #[.slice none 0 0, .int .i64 0, .int .i64 0, .pointer none, .slice none 0 0, .int .i64 0, .slice none 0 0, .int .i64 0, .int .i64 0] 98 (0, 0))).heap.size := by simp
      have HTX : Hid (TreeF (((((((((w1.setCell ⟨W0.heap.size, 0, none⟩ (.slice fa len cap)).setCell ⟨W0.heap.size, 1, none⟩ (.int .i64 d)).setCell ⟨W0.heap.size, 2, none⟩ (.int .i64 u)).setCell ⟨W0.heap.size, 3, none⟩ (.pointer (some ⟨T, 0, none⟩))).setCell ⟨W0.heap.size, 4, none⟩ (.slice ea n ecap)).setCell ⟨W0.heap.size, 5, none⟩ (.int .i64 hd)).setCell ⟨W0.heap.size, 6, none⟩ (.slice pa m pcap)).setCell ⟨W0.heap.size, 7, none⟩ (.int .i64 cl)).setCell ⟨W0.heap.size, 8, none⟩ (.int .i64 kp)) (w.heap.size + 1 + 1) T len c) := (((((((((HTr.out.other 0 (.slice fa len cap) h5).other 1 (.int .i64 d) h5).other 2 (.int .i64 u) h5).other 3 (.pointer (some ⟨T, 0, none⟩)) h5).other 4 (.slice ea n ecap) h5).other 5 (.int .i64 hd) h5).other 6 (.slice pa m pcap) h5).other 7 (.int .i64 cl) h5).other 8 (.int .i64 kp) h5).lower (by omega)
      clear h5 hp5
      go_simp
      first | refine hK.out _ _ (by exact SX.out.cells) (fun hHeld => ?_) | (go_wp2_with fail; refine hK.out _ _ (by exact SX.out.cells) (fun hHeld => ?_))
      clear hK K
      try simp only [Act.put, List.setIfInBounds_toArray, List.set_cons_zero, List.set_cons_succ]
      refine wpAnyH_done (by kernel_rfl) ?_ _
      clear hHeld m0 f0 m1 f1 m2 f2 m3 f3 m4 f4 m5 f5 m6 f6 m7 f7 m8 f8
      go_wp2_with fail
      go_meet
      exact ⟨_, T, rfl, HX5.out, SX.out.cz, by have := HSZ.out; omega, HTX.out, SX.out.bel⟩
  case rest =>
    obtain ⟨wd, hwd⟩ : ∃ wd, wd = wc := ⟨_, rfl⟩
    subst hwd
    obtain ⟨p5, T, rfl, hc5, hcz, hp5, htr, hbx⟩ := hcut
    have HP : Hid (CB wd p5 #[.slice fa len cap, .int .i64 d, .int .i64 u, .pointer (some ⟨T, 0, none⟩), .slice ea n ecap, .int .i64 hd, .slice pa m pcap, .int .i64 cl, .int .i64 kp] 98) := hc5
    have HQ : Hid (CB wd (w.heap.size + 1) #[.slice none 0 0, .int .i64 0, .int .i64 0, .pointer none, .slice none 0 0, .int .i64 0, .slice none 0 0, .int .i64 0, .int .i64 0] 98) := hcz
    have HTr : Hid (TreeF wd (w.heap.size + 1 + 1) T len c) := htr
    have HBx : Hid (Below w.heap.size w wd) := hbx
    have z0 : wd.cell? ⟨p5, 0, none⟩ = some (.slice fa len cap) := (hc5.cell 0).trans rfl
    have z1 : wd.cell? ⟨p5, 1, none⟩ = some (.int .i64 d) := (hc5.cell 1).trans rfl
    have z2 : wd.cell? ⟨p5, 2, none⟩ = some (.int .i64 u) := (hc5.cell 2).trans rfl
    have z3 : wd.cell? ⟨p5, 3, none⟩ = some (.pointer (some ⟨T, 0, none⟩)) := (hc5.cell 3).trans rfl
    have z4 : wd.cell? ⟨p5, 4, none⟩ = some (.slice ea n ecap) := (hc5.cell 4).trans rfl
    have z5 : wd.cell? ⟨p5, 5, none⟩ = some (.int .i64 hd) := (hc5.cell 5).trans rfl
    have z6 : wd.cell? ⟨p5, 6, none⟩ = some (.slice pa m pcap) := (hc5.cell 6).trans rfl
    have z7 : wd.cell? ⟨p5, 7, none⟩ = some (.int .i64 cl) := (hc5.cell 7).trans rfl
    have z8 : wd.cell? ⟨p5, 8, none⟩ = some (.int .i64 kp) := (hc5.cell 8).trans rfl
    clear hc5 hcz htr hbx
    cases hv : boB len c d u n es hd m x y cl kp with
    | false =>
      go_wp2_with (go_at_call 81; go_loud (refine (HGR.out _ T HTr.out.tree HBx.out).mono ?_; rintro e w2 ⟨rfl, b2⟩; rw [hv]; have HP2 : Hid (CB w2 p5 #[.slice fa len cap, .int .i64 d, .int .i64 u, .pointer (some ⟨T, 0, none⟩), .slice ea n ecap, .int .i64 hd, .slice pa m pcap, .int .i64 cl, .int .i64 kp] 98) := HP.out.below b2 HP.out.lt; have HQ2 : Hid (CB w2 (w.heap.size + 1) #[.slice none 0 0, .int .i64 0, .int .i64 0, .pointer none, .slice none 0 0, .int .i64 0, .slice none 0 0, .int .i64 0, .int .i64 0] 98) := HQ.out.below b2 HQ.out.lt; have HT2 : Hid (TreeF w2 (w.heap.size + 1 + 1) T len c) := HTr.out.below b2; have HB2 : Hid (Below w.heap.size w w2) := bel_on HBx.out b2; have t0 : w2.cell? ⟨w.heap.size + 1, 0, none⟩ = some (.slice none 0 0) := (HQ2.out.cell 0).trans rfl; have t1 : w2.cell? ⟨w.heap.size + 1, 1, none⟩ = some (.int .i64 0) := (HQ2.out.cell 1).trans rfl; have t2 : w2.cell? ⟨w.heap.size + 1, 2, none⟩ = some (.int .i64 0) := (HQ2.out.cell 2).trans rfl; have t3 : w2.cell? ⟨w.heap.size + 1, 3, none⟩ = some (.pointer none) := (HQ2.out.cell 3).trans rfl; have t4 : w2.cell? ⟨w.heap.size + 1, 4, none⟩ = some (.slice none 0 0) := (HQ2.out.cell 4).trans rfl; have t5 : w2.cell? ⟨w.heap.size + 1, 5, none⟩ = some (.int .i64 0) := (HQ2.out.cell 5).trans rfl; have t6 : w2.cell? ⟨w.heap.size + 1, 6, none⟩ = some (.slice none 0 0) := (HQ2.out.cell 6).trans rfl; have t7 : w2.cell? ⟨w.heap.size + 1, 7, none⟩ = some (.int .i64 0) := (HQ2.out.cell 7).trans rfl; have t8 : w2.cell? ⟨w.heap.size + 1, 8, none⟩ = some (.int .i64 0) := (HQ2.out.cell 8).trans rfl; have f0 : w2.frozen? ⟨w.heap.size + 1, 0, none⟩ = false := HQ2.out.fr 0; have f1 : w2.frozen? ⟨w.heap.size + 1, 1, none⟩ = false := HQ2.out.fr 1; have f2 : w2.frozen? ⟨w.heap.size + 1, 2, none⟩ = false := HQ2.out.fr 2; have f3 : w2.frozen? ⟨w.heap.size + 1, 3, none⟩ = false := HQ2.out.fr 3; have f4 : w2.frozen? ⟨w.heap.size + 1, 4, none⟩ = false := HQ2.out.fr 4; have f5 : w2.frozen? ⟨w.heap.size + 1, 5, none⟩ = false := HQ2.out.fr 5; have f6 : w2.frozen? ⟨w.heap.size + 1, 6, none⟩ = false := HQ2.out.fr 6; have f7 : w2.frozen? ⟨w.heap.size + 1, 7, none⟩ = false := HQ2.out.fr 7; have f8 : w2.frozen? ⟨w.heap.size + 1, 8, none⟩ = false := HQ2.out.fr 8; have s0 : w2.cell? ⟨p5, 0, none⟩ = some (.slice fa len cap) := (HP2.out.cell 0).trans rfl; have s1 : w2.cell? ⟨p5, 1, none⟩ = some (.int .i64 d) := (HP2.out.cell 1).trans rfl; have s2 : w2.cell? ⟨p5, 2, none⟩ = some (.int .i64 u) := (HP2.out.cell 2).trans rfl; have s3 : w2.cell? ⟨p5, 3, none⟩ = some (.pointer (some ⟨T, 0, none⟩)) := (HP2.out.cell 3).trans rfl; have s4 : w2.cell? ⟨p5, 4, none⟩ = some (.slice ea n ecap) := (HP2.out.cell 4).trans rfl; have s5 : w2.cell? ⟨p5, 5, none⟩ = some (.int .i64 hd) := (HP2.out.cell 5).trans rfl; have s6 : w2.cell? ⟨p5, 6, none⟩ = some (.slice pa m pcap) := (HP2.out.cell 6).trans rfl; have s7 : w2.cell? ⟨p5, 7, none⟩ = some (.int .i64 cl) := (HP2.out.cell 7).trans rfl; have s8 : w2.cell? ⟨p5, 8, none⟩ = some (.int .i64 kp) := (HP2.out.cell 8).trans rfl; have gg : w2.cell? ⟨0, 0, none⟩ = some (.iface ty gp) := keep_cell HB2.out HG.out; clear b2))
      have HQ3 : Hid (CB (((((((((w2.setCell ⟨w.heap.size + 1, 0, none⟩ (.slice none 0 0)).setCell ⟨w.heap.size + 1, 1, none⟩ (.int .i64 0)).setCell ⟨w.heap.size + 1, 2, none⟩ (.int .i64 0)).setCell ⟨w.heap.size + 1, 3, none⟩ (.pointer none)).setCell ⟨w.heap.size + 1, 4, none⟩ (.slice none 0 0)).setCell ⟨w.heap.size + 1, 5, none⟩ (.int .i64 0)).setCell ⟨w.heap.size + 1, 6, none⟩ (.slice none 0 0)).setCell ⟨w.heap.size + 1, 7, none⟩ (.int .i64 0)).setCell ⟨w.heap.size + 1, 8, none⟩ (.int .i64 0)) (w.heap.size + 1) #[.slice none 0 0, .int .i64 0, .int .i64 0, .pointer none, .slice none 0 0, .int .i64 0, .slice none 0 0, .int .i64 0, .int .i64 0] 98) := (((((((((HQ2.out.set 0 (.slice none 0 0)).set 1 (.int .i64 0)).set 2 (.int .i64 0)).set 3 (.pointer none)).set 4 (.slice none 0 0)).set 5 (.int .i64 0)).set 6 (.slice none 0 0)).set 7 (.int .i64 0)).set 8 (.int .i64 0))
      have HB3 : Hid (Below w.heap.size w (((((((((w2.setCell ⟨w.heap.size + 1, 0, none⟩ (.slice none 0 0)).setCell ⟨w.heap.size + 1, 1, none⟩ (.int .i64 0)).setCell ⟨w.heap.size + 1, 2, none⟩ (.int .i64 0)).setCell ⟨w.heap.size + 1, 3, none⟩ (.pointer none)).setCell ⟨w.heap.size + 1, 4, none⟩ (.slice none 0 0)).setCell ⟨w.heap.size + 1, 5, none⟩ (.int .i64 0)).setCell ⟨w.heap.size + 1, 6, none⟩ (.slice none 0 0)).setCell ⟨w.heap.size + 1, 7, none⟩ (.int .i64 0)).setCell ⟨w.heap.size + 1, 8, none⟩ (.int .i64 0))) := (((((((((HB2.out.setCell (p := ⟨w.heap.size + 1, 0, none⟩) (by simp) (.slice none 0 0)).setCell (p := ⟨w.heap.size + 1, 1, none⟩) (by simp) (.int .i64 0)).setCell (p := ⟨w.heap.size + 1, 2, none⟩) (by simp) (.int .i64 0)).setCell (p := ⟨w.heap.size + 1, 3, none⟩) (by simp) (.pointer none)).setCell (p := ⟨w.heap.size + 1, 4, none⟩) (by simp) (.slice none 0 0)).setCell (p := ⟨w.heap.size + 1, 5, none⟩) (by simp) (.int .i64 0)).setCell (p := ⟨w.heap.size + 1, 6, none⟩) (by simp) (.slice none 0 0)).setCell (p := ⟨w.heap.size + 1, 7, none⟩) (by simp) (.int .i64 0)).setCell (p := ⟨w.heap.size + 1, 8, none⟩) (by simp) (.int .i64 0))
      go_region
      all_goals go_wp2
      all_goals
        clear t0 f0 s0 t1 f1 s1 t2 f2 s2 t3 f3 s3 t4 f4 s4 t5 f5 s5 t6 f6 s6 t7 f7 s7 t8 f8 s8
        generalize (((((((((w2.setCell ⟨w.heap.size + 1, 0, none⟩ (.slice none 0 0)).setCell ⟨w.heap.size + 1, 1, none⟩ (.int .i64 0)).setCell ⟨w.heap.size + 1, 2, none⟩ (.int .i64 0)).setCell ⟨w.heap.size + 1, 3, none⟩ (.pointer none)).setCell ⟨w.heap.size + 1, 4, none⟩ (.slice none 0 0)).setCell ⟨w.heap.size + 1, 5, none⟩ (.int .i64 0)).setCell ⟨w.heap.size + 1, 6, none⟩ (.slice none 0 0)).setCell ⟨w.heap.size + 1, 7, none⟩ (.int .i64 0)).setCell ⟨w.heap.size + 1, 8, none⟩ (.int .i64 0)) = W5 at HQ3 HB3 ⊢
        have e0 := (HQ3.out.cell 0).trans rfl
        have e1 := (HQ3.out.cell 1).trans rfl
        have e2 := (HQ3.out.cell 2).trans rfl
        have e3 := (HQ3.out.cell 3).trans rfl
        have e4 := (HQ3.out.cell 4).trans rfl
        have e5 := (HQ3.out.cell 5).trans rfl
        have e6 := (HQ3.out.cell 6).trans rfl
        have e7 := (HQ3.out.cell 7).trans rfl
        have e8 := (HQ3.out.cell 8).trans rfl
        refine bodyPost_ret (by simp [results, Tryd.results44, go_sem, e0, e1, e2, e3, e4, e5, e6, e7, e8]; try rfl) rfl ?_
        exact ⟨T, _, _, rfl, .inr ⟨hv, rfl, ty, gp, rfl, HG.out⟩, HB3.out.drew⟩
    | true =>
      go_wp2_with (go_at_call 81; go_loud (refine (HGR.out _ T HTr.out.tree HBx.out).mono ?_; rintro e w2 ⟨rfl, b2⟩; rw [hv]; have HP2 : Hid (CB w2 p5 #[.slice fa len cap, .int .i64 d, .int .i64 u, .pointer (some ⟨T, 0, none⟩), .slice ea n ecap, .int .i64 hd, .slice pa m pcap, .int .i64 cl, .int .i64 kp] 98) := HP.out.below b2 HP.out.lt; have HQ2 : Hid (CB w2 (w.heap.size + 1) #[.slice none 0 0, .int .i64 0, .int .i64 0, .pointer none, .slice none 0 0, .int .i64 0, .slice none 0 0, .int .i64 0, .int .i64 0] 98) := HQ.out.below b2 HQ.out.lt; have HT2 : Hid (TreeF w2 (w.heap.size + 1 + 1) T len c) := HTr.out.below b2; have HB2 : Hid (Below w.heap.size w w2) := bel_on HBx.out b2; have t0 : w2.cell? ⟨w.heap.size + 1, 0, none⟩ = some (.slice none 0 0) := (HQ2.out.cell 0).trans rfl; have t1 : w2.cell? ⟨w.heap.size + 1, 1, none⟩ = some (.int .i64 0) := (HQ2.out.cell 1).trans rfl; have t2 : w2.cell? ⟨w.heap.size + 1, 2, none⟩ = some (.int .i64 0) := (HQ2.out.cell 2).trans rfl; have t3 : w2.cell? ⟨w.heap.size + 1, 3, none⟩ = some (.pointer none) := (HQ2.out.cell 3).trans rfl; have t4 : w2.cell? ⟨w.heap.size + 1, 4, none⟩ = some (.slice none 0 0) := (HQ2.out.cell 4).trans rfl; have t5 : w2.cell? ⟨w.heap.size + 1, 5, none⟩ = some (.int .i64 0) := (HQ2.out.cell 5).trans rfl; have t6 : w2.cell? ⟨w.heap.size + 1, 6, none⟩ = some (.slice none 0 0) := (HQ2.out.cell 6).trans rfl; have t7 : w2.cell? ⟨w.heap.size + 1, 7, none⟩ = some (.int .i64 0) := (HQ2.out.cell 7).trans rfl; have t8 : w2.cell? ⟨w.heap.size + 1, 8, none⟩ = some (.int .i64 0) := (HQ2.out.cell 8).trans rfl; have f0 : w2.frozen? ⟨w.heap.size + 1, 0, none⟩ = false := HQ2.out.fr 0; have f1 : w2.frozen? ⟨w.heap.size + 1, 1, none⟩ = false := HQ2.out.fr 1; have f2 : w2.frozen? ⟨w.heap.size + 1, 2, none⟩ = false := HQ2.out.fr 2; have f3 : w2.frozen? ⟨w.heap.size + 1, 3, none⟩ = false := HQ2.out.fr 3; have f4 : w2.frozen? ⟨w.heap.size + 1, 4, none⟩ = false := HQ2.out.fr 4; have f5 : w2.frozen? ⟨w.heap.size + 1, 5, none⟩ = false := HQ2.out.fr 5; have f6 : w2.frozen? ⟨w.heap.size + 1, 6, none⟩ = false := HQ2.out.fr 6; have f7 : w2.frozen? ⟨w.heap.size + 1, 7, none⟩ = false := HQ2.out.fr 7; have f8 : w2.frozen? ⟨w.heap.size + 1, 8, none⟩ = false := HQ2.out.fr 8; have s0 : w2.cell? ⟨p5, 0, none⟩ = some (.slice fa len cap) := (HP2.out.cell 0).trans rfl; have s1 : w2.cell? ⟨p5, 1, none⟩ = some (.int .i64 d) := (HP2.out.cell 1).trans rfl; have s2 : w2.cell? ⟨p5, 2, none⟩ = some (.int .i64 u) := (HP2.out.cell 2).trans rfl; have s3 : w2.cell? ⟨p5, 3, none⟩ = some (.pointer (some ⟨T, 0, none⟩)) := (HP2.out.cell 3).trans rfl; have s4 : w2.cell? ⟨p5, 4, none⟩ = some (.slice ea n ecap) := (HP2.out.cell 4).trans rfl; have s5 : w2.cell? ⟨p5, 5, none⟩ = some (.int .i64 hd) := (HP2.out.cell 5).trans rfl; have s6 : w2.cell? ⟨p5, 6, none⟩ = some (.slice pa m pcap) := (HP2.out.cell 6).trans rfl; have s7 : w2.cell? ⟨p5, 7, none⟩ = some (.int .i64 cl) := (HP2.out.cell 7).trans rfl; have s8 : w2.cell? ⟨p5, 8, none⟩ = some (.int .i64 kp) := (HP2.out.cell 8).trans rfl; have gg : w2.cell? ⟨0, 0, none⟩ = some (.iface ty gp) := keep_cell HB2.out HG.out; clear b2))
      have HQ3 : Hid (CB (((((((((w2.setCell ⟨w.heap.size + 1, 0, none⟩ (.slice fa len cap)).setCell ⟨w.heap.size + 1, 1, none⟩ (.int .i64 d)).setCell ⟨w.heap.size + 1, 2, none⟩ (.int .i64 u)).setCell ⟨w.heap.size + 1, 3, none⟩ (.pointer (some ⟨T, 0, none⟩))).setCell ⟨w.heap.size + 1, 4, none⟩ (.slice ea n ecap)).setCell ⟨w.heap.size + 1, 5, none⟩ (.int .i64 hd)).setCell ⟨w.heap.size + 1, 6, none⟩ (.slice pa m pcap)).setCell ⟨w.heap.size + 1, 7, none⟩ (.int .i64 cl)).setCell ⟨w.heap.size + 1, 8, none⟩ (.int .i64 kp)) (w.heap.size + 1) #[.slice fa len cap, .int .i64 d, .int .i64 u, .pointer (some ⟨T, 0, none⟩), .slice ea n ecap, .int .i64 hd, .slice pa m pcap, .int .i64 cl, .int .i64 kp] 98) := (((((((((HQ2.out.set 0 (.slice fa len cap)).set 1 (.int .i64 d)).set 2 (.int .i64 u)).set 3 (.pointer (some ⟨T, 0, none⟩))).set 4 (.slice ea n ecap)).set 5 (.int .i64 hd)).set 6 (.slice pa m pcap)).set 7 (.int .i64 cl)).set 8 (.int .i64 kp))
      have HB3 : Hid (Below w.heap.size w (((((((((w2.setCell ⟨w.heap.size + 1, 0, none⟩ (.slice fa len cap)).setCell ⟨w.heap.size + 1, 1, none⟩ (.int .i64 d)).setCell ⟨w.heap.size + 1, 2, none⟩ (.int .i64 u)).setCell ⟨w.heap.size + 1, 3, none⟩ (.pointer (some ⟨T, 0, none⟩))).setCell ⟨w.heap.size + 1, 4, none⟩ (.slice ea n ecap)).setCell ⟨w.heap.size + 1, 5, none⟩ (.int .i64 hd)).setCell ⟨w.heap.size + 1, 6, none⟩ (.slice pa m pcap)).setCell ⟨w.heap.size + 1, 7, none⟩ (.int .i64 cl)).setCell ⟨w.heap.size + 1, 8, none⟩ (.int .i64 kp))) := (((((((((HB2.out.setCell (p := ⟨w.heap.size + 1, 0, none⟩) (by simp) (.slice fa len cap)).setCell (p := ⟨w.heap.size + 1, 1, none⟩) (by simp) (.int .i64 d)).setCell (p := ⟨w.heap.size + 1, 2, none⟩) (by simp) (.int .i64 u)).setCell (p := ⟨w.heap.size + 1, 3, none⟩) (by simp) (.pointer (some ⟨T, 0, none⟩))).setCell (p := ⟨w.heap.size + 1, 4, none⟩) (by simp) (.slice ea n ecap)).setCell (p := ⟨w.heap.size + 1, 5, none⟩) (by simp) (.int .i64 hd)).setCell (p := ⟨w.heap.size + 1, 6, none⟩) (by simp) (.slice pa m pcap)).setCell (p := ⟨w.heap.size + 1, 7, none⟩) (by simp) (.int .i64 cl)).setCell (p := ⟨w.heap.size + 1, 8, none⟩) (by simp) (.int .i64 kp))
      have HT3 : Hid (TreeF (((((((((w2.setCell ⟨w.heap.size + 1, 0, none⟩ (.slice fa len cap)).setCell ⟨w.heap.size + 1, 1, none⟩ (.int .i64 d)).setCell ⟨w.heap.size + 1, 2, none⟩ (.int .i64 u)).setCell ⟨w.heap.size + 1, 3, none⟩ (.pointer (some ⟨T, 0, none⟩))).setCell ⟨w.heap.size + 1, 4, none⟩ (.slice ea n ecap)).setCell ⟨w.heap.size + 1, 5, none⟩ (.int .i64 hd)).setCell ⟨w.heap.size + 1, 6, none⟩ (.slice pa m pcap)).setCell ⟨w.heap.size + 1, 7, none⟩ (.int .i64 cl)).setCell ⟨w.heap.size + 1, 8, none⟩ (.int .i64 kp)) (w.heap.size + 1 + 1) T len c) := (((((((((HT2.out.other 0 (.slice fa len cap) (by omega)).other 1 (.int .i64 d) (by omega)).other 2 (.int .i64 u) (by omega)).other 3 (.pointer (some ⟨T, 0, none⟩)) (by omega)).other 4 (.slice ea n ecap) (by omega)).other 5 (.int .i64 hd) (by omega)).other 6 (.slice pa m pcap) (by omega)).other 7 (.int .i64 cl) (by omega)).other 8 (.int .i64 kp) (by omega))
      try go_wp2
      clear t0 f0 s0 t1 f1 s1 t2 f2 s2 t3 f3 s3 t4 f4 s4 t5 f5 s5 t6 f6 s6 t7 f7 s7 t8 f8 s8
      generalize (((((((((w2.setCell ⟨w.heap.size + 1, 0, none⟩ (.slice fa len cap)).setCell ⟨w.heap.size + 1, 1, none⟩ (.int .i64 d)).setCell ⟨w.heap.size + 1, 2, none⟩ (.int .i64 u)).setCell ⟨w.heap.size + 1, 3, none⟩ (.pointer (some ⟨T, 0, none⟩))).setCell ⟨w.heap.size + 1, 4, none⟩ (.slice ea n ecap)).setCell ⟨w.heap.size + 1, 5, none⟩ (.int .i64 hd)).setCell ⟨w.heap.size + 1, 6, none⟩ (.slice pa m pcap)).setCell ⟨w.heap.size + 1, 7, none⟩ (.int .i64 cl)).setCell ⟨w.heap.size + 1, 8, none⟩ (.int .i64 kp)) = W5 at HQ3 HB3 HT3 ⊢
      have e0 := (HQ3.out.cell 0).trans rfl
      have e1 := (HQ3.out.cell 1).trans rfl
      have e2 := (HQ3.out.cell 2).trans rfl
      have e3 := (HQ3.out.cell 3).trans rfl
      have e4 := (HQ3.out.cell 4).trans rfl
      have e5 := (HQ3.out.cell 5).trans rfl
      have e6 := (HQ3.out.cell 6).trans rfl
      have e7 := (HQ3.out.cell 7).trans rfl
      have e8 := (HQ3.out.cell 8).trans rfl
      refine bodyPost_ret (by simp [results, Tryd.results44, go_sem, e0, e1, e2, e3, e4, e5, e6, e7, e8]; try rfl) rfl ?_
      exact ⟨T, _, _, rfl, .inl ⟨hv, rfl, rfl, HT3.out.tree⟩, HB3.out⟩
end Go.Proofs.YtapailihjlfkgaaDoor
