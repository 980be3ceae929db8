/- A bill in the making: one round of billOf, and billOf whole. -/
import Derived.Test.YtbhghghkgojpgaaTk
import Derived.Test.YtbhghghkgojpgaaTq
import Derived.Deep.RegionWith
namespace Go.Proofs.Ytbhghghkgojpgaa
open Go.ChangeShapes Go.WideShapes Go.ChangeAt Go.RowKit
set_option linter.unusedVariables false
set_option linter.unusedSimpArgs false

def C4 (cs : Array Value) (k : Nat) (u : Nat → P4) : Prop := ∀ j, j < k → cs[j * 4]? = some (.string (u j).code) ∧ cs[j * 4 + 1]? = some (.int .i64 (u j).kind) ∧ cs[j * 4 + 2]? = some (.int .i64 (u j).base) ∧ cs[j * 4 + 3]? = some (.int .i64 (u j).tax)
theorem C4.step {cs : Array Value} {k m : Nat} {u : Nat → P4} (h : C4 cs k u) (hs : cs.size = m * 4) (hk : k < m) {q0 : ByteArray} {q1 q2 q3 : Int} (e : u k = ⟨q0, q1, q2, q3⟩) :
    C4 ((((cs.setIfInBounds (k * 4) (.string q0)).setIfInBounds (k * 4 + 1) (.int .i64 q1)).setIfInBounds (k * 4 + 2) (.int .i64 q2)).setIfInBounds (k * 4 + 3) (.int .i64 q3)) (k + 1) u := fun j hj => by
  by_cases hjk : j = k
  · subst hjk
    rw [e]
    refine ⟨?_, ?_, ?_, ?_⟩
    · rw [get_set_ne (by omega), get_set_ne (by omega), get_set_ne (by omega), get_set_eq (by omega)]
    · rw [get_set_ne (by omega), get_set_ne (by omega), get_set_eq (by simp; omega)]
    · rw [get_set_ne (by omega), get_set_eq (by simp; omega)]
    · rw [get_set_eq (by simp; omega)]
  · obtain ⟨y0, y1, y2, y3⟩ := h j (by omega)
    refine ⟨?_, ?_, ?_, ?_⟩ <;> (rw [get_set_ne (by omega), get_set_ne (by omega), get_set_ne (by omega), get_set_ne (by omega)]; assumption)

/-- What stands while a levy is asked for. -/
structure SB (w1 wo : World) (q0 : ByteArray) (q1 q2 q3 kd nt g wi : Int) (ib io k il : Nat) (ce : Array Value) (W : World) : Prop where
  cr : CB W wo.heap.size #[.string q0, .int .i64 q1, .int .i64 q2, .int .i64 q3, .int .i64 kd] 79
  c1 : CB W w1.heap.size ce 34
  c2 : CB W (w1.heap.size + 1) #[.int .i64 nt, .int .i64 g, .slice (some ⟨w1.heap.size, 0, none⟩) il il] 30
  bel : Below w1.heap.size w1 W
  ci : W.cell? ⟨ib, io + k, none⟩ = some (.int .i64 wi)
section
variable {w1 wo W W' : World} {q0 : ByteArray} {q1 q2 q3 kd nt g wi : Int} {ib io k il : Nat} {ce : Array Value}
theorem SB.below (h : SB w1 wo q0 q1 q2 q3 kd nt g wi ib io k il ce W) (b : Below W.heap.size W W') : SB w1 wo q0 q1 q2 q3 kd nt g wi ib io k il ce W' := ⟨h.cr.below b h.cr.lt, h.c1.below b h.c1.lt, h.c2.below b h.c2.lt, bel_on h.bel b, keep_cell b h.ci⟩
theorem SB.alloc (h : SB w1 wo q0 q1 q2 q3 kd nt g wi ib io k il ce W) (o : Obj) : SB w1 wo q0 q1 q2 q3 kd nt g wi ib io k il ce (W.alloc o) := h.below ((Below.refl _ _).alloc (Nat.le_refl _) o)
theorem SB.drewS (h : SB w1 wo q0 q1 q2 q3 kd nt g wi ib io k il ce W) : SB w1 wo q0 q1 q2 q3 kd nt g wi ib io k il ce W.drew := h.below (Below.refl _ _).drew
theorem SB.other (h : SB w1 wo q0 q1 q2 q3 kd nt g wi ib io k il ce W) {b : Nat} (o : Nat) (v : Value) (hb : wo.heap.size < b) (h1 : w1.heap.size + 1 < b) (hi : ib < w1.heap.size) : SB w1 wo q0 q1 q2 q3 kd nt g wi ib io k il ce (W.setCell ⟨b, o, none⟩ v) := ⟨h.cr.other _ (by omega), h.c1.other _ (by omega), h.c2.other _ (by omega), h.bel.setCell (by show w1.heap.size ≤ b; omega) _, by rw [World.cell?_of_block (w := W) (Below.heap_setCell _ _ _ _ (by simp; omega))]; exact h.ci⟩
theorem SB.cells (h : SB w1 wo q0 q1 q2 q3 kd nt g wi ib io k il ce W) : W.cell? ⟨wo.heap.size, 4, none⟩ = some (.int .i64 kd) ∧ W.cell? ⟨wo.heap.size, 3, none⟩ = some (.int .i64 q3) ∧ W.cell? ⟨w1.heap.size + 1, 1, none⟩ = some (.int .i64 g) ∧ W.cell? ⟨ib, io + k, none⟩ = some (.int .i64 wi) := ⟨(h.cr.cell 4).trans rfl, (h.cr.cell 3).trans rfl, (h.c2.cell 1).trans rfl, h.ci⟩
end

theorem amount_any (x : Int) (w : World) : Calls Try.prog 83 #[.int .i64 x] w fun e w' => e = .returned (.bool (amt x)) ∧ w' = w := by
  go_enter Try.func83, Try.ntmps83
  go_wp2
  all_goals go_ret
  all_goals exact ⟨ret_bool (by unfold amt; rw [Bool.eq_iff_iff]; simp; try omega), rfl⟩
theorem levy_of (r : T5) (g nt wi : Int) (h : 1 ≤ r.kind ∧ r.kind ≤ 4) : ∃ t K, (K = 180 ∨ K = 182 ∨ K = 183 ∨ K = 184) ∧ kV r.kind = .iface t (.agg #[]) ∧ (∀ w, (nilAhead 319 t (.agg #[]) "loop.example/g00040/impl.levyOn").run Try.prog w = .ok (some false) w) ∧ (∀ w, (method 319 t (.agg #[]) "loop.example/g00040/impl.levyOn").run Try.prog w = .ok (K, .agg #[]) w) ∧
    ∀ W, Calls Try.prog K #[.agg #[], gAgg r.rate nt g wi] W fun e w' => e = .returned (.tuple #[lAgg (lvB r g nt) (lvT r g nt wi) (lvG r g nt wi), .bool (lvO r g nt)]) ∧ Below W.heap.size W w' := by
  obtain ⟨q0, q1, q2, q3, kd⟩ := r
  simp only at h
  have hk : kd = 1 ∨ kd = 2 ∨ kd = 3 ∨ kd = 4 := by omega
  rcases hk with rfl | rfl | rfl | rfl
  · refine ⟨144, 180, by decide, rfl, fun w => by kernel_rfl, fun w => by kernel_rfl, fun W => ?_⟩
    exact plain_levy q3 nt g wi W
  · refine ⟨145, 182, by decide, rfl, fun w => by kernel_rfl, fun w => by kernel_rfl, fun W => ?_⟩
    exact over_levy q3 nt g wi W
  · refine ⟨146, 183, by decide, rfl, fun w => by kernel_rfl, fun w => by kernel_rfl, fun W => ?_⟩
    exact within_levy q3 nt g wi W
  · refine ⟨147, 184, by decide, rfl, fun w => by kernel_rfl, fun w => by kernel_rfl, fun W => ?_⟩
    exact reverse_levy q3 nt g wi W


/-- What billOf leaves. -/
def BlP (u : Nat → T5) (m : Nat) (p : Int) (w : World) (e : Ending) (w' : World) : Prop :=
  Below w.heap.size w w' ∧ ((BiP u m p ∧ ∃ pb cs, e = .returned (.tuple #[.agg #[.int .i64 (netV u m p), .int .i64 (grV u (netV u m p) (wiV u m p) m), .slice (some ⟨pb, 0, none⟩) m m], .bool true]) ∧ w.heap.size ≤ pb ∧ CB w' pb cs 34 ∧ cs.size = m * 4 ∧ C4 cs m (ptV u (netV u m p) (wiV u m p))) ∨ (¬ BiP u m p ∧ e = .returned (.tuple #[.agg #[.int .i64 0, .int .i64 0, .slice none 0 0], .bool false])))

set_option maxRecDepth 20000 in
set_option maxHeartbeats 16000000 in
theorem billOf_any (ad : Option Addr) (m cap : Nat) (u : Nat → T5) (p : Int) (w : World) (hm : m ≤ 6) (hU : UOk u m) (hp64 : -9223372036854775808 ≤ p ∧ p ≤ 9223372036854775807) (hr : TR w ad m u) (hp : amt p = true) :
    Calls Try.prog 46 #[.slice ad m cap, .int .i64 p] w (BlP u m p w) := by
  have HR : Hid (TR w ad m u) := hr
  have HU : Hid (UOk u m) := hU
  have HP : Hid (amt p = true) := hp
  have hm2 : (m : Int) ≤ 1048576 := by omega
  obtain ⟨nt, hnt⟩ : ∃ x, netV u m p = x := ⟨_, rfl⟩
  have HNT : Hid (netV u m p = nt) := hnt
  have hmk := mkP4 m hm2
  clear hr hU hp hnt
  go_enter Try.func46, Try.ntmps46
  go_wp2_with (go_at_call 81; refine (takeOut_any _ _ _ u p _ hm HU.out hp64 (HR.out.below (by go_grown))).mono ?_; rintro e w1 ⟨b1, ia, il, ic, rfl, hi⟩; rw [HP.out, HNT.out]; obtain ⟨hil, hiw⟩ := hi HP.out; subst hil; have HI : Hid (IR w1 ia il (wiV u il p)) := hiw; have C0 : CB w1 w.heap.size #[.int .i64 0, .int .i64 0, .slice none 0 0] 30 := (CB.new _ _).below b1 (by simp); have HC : Hid (CB w1 w.heap.size #[.int .i64 0, .int .i64 0, .slice none 0 0] 30) := C0; have HB1 : Hid (Below w.heap.size w w1) := bel_on ((Below.refl _ _).alloc (Nat.le_refl _) _) b1; clear b1 C0 hi hiw)
  go_loopw [32] (fun i wr => ∃ (k : Nat) (ce : Array Value) (g : Int), k ≤ il ∧ i = .int .i64 (k : Int) ∧ CB wr w1.heap.size ce 34 ∧ CB wr (w1.heap.size + 1) #[.int .i64 nt, .int .i64 g, .slice (some ⟨w1.heap.size, 0, none⟩) il il] 30 ∧ Hid (ce.size = il * 4 ∧ C4 ce k (ptV u nt (wiV u il p)) ∧ (∀ j, j < k → lvO (u j) (grV u nt (wiV u il p) j) nt = true) ∧ Below w1.heap.size w1 wr) ∧ Hid (g = grV u nt (wiV u il p) k)) (fun i _ => il - (intOf i).toNat)
  case atStart =>
    exact ⟨0, zerosP4 il, nt, Nat.zero_le _, rfl, (CB.new _ _).alloc _, CB.newAt (by simp) _ _, ⟨zerosP4_size _, fun j hj => by omega, fun j hj => by omega, ((Below.refl _ _).alloc (Nat.le_refl _) _).alloc (by simp) _⟩, rfl⟩
  case round =>
    obtain ⟨k, ce, g, hk, rfl, hC1, hC2, HH, HG⟩ := hrel
    obtain ⟨wo, rfl⟩ : ∃ x, x = wr := ⟨wr, rfl⟩
    by_cases hlt : k < il
    · have hlt2 : (k : Int) < (il : Int) := by omega
      obtain ⟨kb, off, rfl, hkb⟩ := HR.out.addr (by omega)
      obtain ⟨c0, c1, c2, c3, c4⟩ := (HR.out.below (bel_on HB1.out HH.out.2.2.2)).cell hlt
      obtain ⟨ib, io, rfl, hib⟩ := HI.out.addr (by omega)
      have i0 := (HI.out.below HH.out.2.2.2).cell hlt
      obtain ⟨r, hr⟩ : ∃ r, u k = r := ⟨_, rfl⟩
      have HK : Hid (u k = r) := hr
      rw [hr] at c0 c1 c2 c3 c4
      obtain ⟨q0, q1, q2, q3, kd⟩ := r
      simp only at c0 c1 c2 c3 c4
      clear hr
      obtain ⟨wi, hwi⟩ : ∃ x, wiV u il p k = x := ⟨_, rfl⟩
      have HWI : Hid (wiV u il p k = wi) := hwi
      rw [hwi] at i0
      clear hwi
      have HCL : Hid (w1.heap.size + 1 < wo.heap.size) := hC2.lt
      have SB0 : Hid (SB w1 wo q0 q1 q2 q3 kd nt g wi ib io k il ce (wo.alloc (.cells #[.string q0, .int .i64 q1, .int .i64 q2, .int .i64 q3, .int .i64 kd] 79 (0, 0)))) := hid ⟨CB.new _ _, hC1.alloc _, hC2.alloc _, HH.out.2.2.2.alloc HH.out.2.2.2.size _, keep_cell ((Below.refl _ _).alloc (Nat.le_refl _) _) i0⟩
      clear hC1 hC2 i0
      obtain ⟨t, K0, hK0, hkv, hnil, hmeth, hlev⟩ := levy_of ⟨q0, q1, q2, q3, kd⟩ g nt wi (by have := (HU.out k hlt).2; rw [HK.out] at this; exact this)
      simp only at hkv hlev
      have HKV : Hid (kV kd = .iface t (.agg #[])) := hkv
      obtain ⟨B, hB⟩ : ∃ x, lvB ⟨q0, q1, q2, q3, kd⟩ g nt = x := ⟨_, rfl⟩
      obtain ⟨T, hT⟩ : ∃ x, lvT ⟨q0, q1, q2, q3, kd⟩ g nt wi = x := ⟨_, rfl⟩
      obtain ⟨G, hG⟩ : ∃ x, lvG ⟨q0, q1, q2, q3, kd⟩ g nt wi = x := ⟨_, rfl⟩
      obtain ⟨O, hO⟩ : ∃ x, lvO ⟨q0, q1, q2, q3, kd⟩ g nt = x := ⟨_, rfl⟩
      rw [hB, hT, hG, hO] at hlev
      have HLV : Hid (∀ W, Calls Try.prog K0 #[.agg #[], gAgg q3 nt g wi] W fun e w' => e = .returned (.tuple #[lAgg B T G, .bool O]) ∧ Below W.heap.size W w') := hlev
      have HV4 : Hid (lvB ⟨q0, q1, q2, q3, kd⟩ g nt = B ∧ lvT ⟨q0, q1, q2, q3, kd⟩ g nt wi = T ∧ lvG ⟨q0, q1, q2, q3, kd⟩ g nt wi = G ∧ lvO ⟨q0, q1, q2, q3, kd⟩ g nt = O) := ⟨hB, hT, hG, hO⟩
      clear hkv hlev hB hT hG hO
      rcases hK0 with rfl | rfl | rfl | rfl
      all_goals
       go_wp2
       refine wp_region_noPanic ?_
       refine wp_region_held_drew (S := fun w' => w'.cell? ⟨wo.heap.size, 4, none⟩ = some (.int .i64 kd) ∧ w'.cell? ⟨wo.heap.size, 3, none⟩ = some (.int .i64 q3) ∧ w'.cell? ⟨w1.heap.size + 1, 1, none⟩ = some (.int .i64 g) ∧ w'.cell? ⟨ib, io + k, none⟩ = some (.int .i64 wi)) (by kernel_rfl) (by exact SB0.out.drewS.cells) (fun hHeld => ?_)
       refine wpAnyH_take (i := 0) (oi := { dst := some 38, op := Go.Op.fieldAddr 79 (Go.Operand.tmp 11) 4, type := 0, pos := "l10_tax.go:192", after := #[], guard := none }) (v := ?_) rfl (by kernel_rfl) (by kernel_rfl) (by kernel_rfl) (fun _ _ _ h => h) (Or.inl ⟨by rfl, ?_⟩) (by assumption) ?_
       rotate_left
       · (intro w hSw; (try dsimp only at hSw); go_simp <;> try with_reducible rfl)
       try simp only [Act.put, List.setIfInBounds_toArray, List.set_cons_zero, List.set_cons_succ]
       refine wpAnyH_take (i := 1) (oi := { dst := some 39, op := Go.Op.load 3 (Go.Operand.tmp 38), type := 3, pos := "l10_tax.go:192", after := #[{ on := 0, ground := Go.Ground.data }], guard := none }) (v := ?_) rfl (by kernel_rfl) (by kernel_rfl) (by kernel_rfl) (fun _ _ _ h => h) (Or.inl ⟨by rfl, ?_⟩) (by assumption) ?_
       rotate_left
       · (intro w hSw; (try dsimp only at hSw); go_simp <;> try with_reducible rfl)
       try simp only [Act.put, List.setIfInBounds_toArray, List.set_cons_zero, List.set_cons_succ]
       refine wpAnyH_take (i := 3) (oi := { dst := some 41, op := Go.Op.fieldAddr 79 (Go.Operand.tmp 11) 3, type := 0, pos := "l10_tax.go:192", after := #[], guard := none }) (v := ?_) rfl (by kernel_rfl) (by kernel_rfl) (by kernel_rfl) (fun _ _ _ h => h) (Or.inl ⟨by rfl, ?_⟩) (by assumption) ?_
       rotate_left
       · (intro w hSw; (try dsimp only at hSw); go_simp <;> try with_reducible rfl)
       try simp only [Act.put, List.setIfInBounds_toArray, List.set_cons_zero, List.set_cons_succ]
       refine wpAnyH_take (i := 4) (oi := { dst := some 42, op := Go.Op.load 3 (Go.Operand.tmp 41), type := 3, pos := "l10_tax.go:192", after := #[{ on := 3, ground := Go.Ground.data }], guard := none }) (v := ?_) rfl (by kernel_rfl) (by kernel_rfl) (by kernel_rfl) (fun _ _ _ h => h) (Or.inl ⟨by rfl, ?_⟩) (by assumption) ?_
       rotate_left
       · (intro w hSw; (try dsimp only at hSw); go_simp <;> try with_reducible rfl)
       try simp only [Act.put, List.setIfInBounds_toArray, List.set_cons_zero, List.set_cons_succ]
       refine wpAnyH_take (i := 5) (oi := { dst := some 43, op := Go.Op.move (Go.Operand.tmp 6), type := 3, pos := "l10_tax.go:192", after := #[], guard := none }) (v := ?_) rfl (by kernel_rfl) (by kernel_rfl) (by kernel_rfl) (fun _ _ _ h => h) (Or.inl ⟨by rfl, ?_⟩) (by assumption) ?_
       rotate_left
       · (intro w hSw; (try dsimp only at hSw); go_simp <;> try with_reducible rfl)
       try simp only [Act.put, List.setIfInBounds_toArray, List.set_cons_zero, List.set_cons_succ]
       refine wpAnyH_take (i := 6) (oi := { dst := some 44, op := Go.Op.fieldAddr 30 (Go.Operand.tmp 9) 1, type := 0, pos := "l10_tax.go:192", after := #[], guard := none }) (v := ?_) rfl (by kernel_rfl) (by kernel_rfl) (by kernel_rfl) (fun _ _ _ h => h) (Or.inl ⟨by rfl, ?_⟩) (by assumption) ?_
       rotate_left
       · (intro w hSw; (try dsimp only at hSw); go_simp <;> try with_reducible rfl)
       try simp only [Act.put, List.setIfInBounds_toArray, List.set_cons_zero, List.set_cons_succ]
       refine wpAnyH_take (i := 7) (oi := { dst := some 45, op := Go.Op.load 3 (Go.Operand.tmp 44), type := 3, pos := "l10_tax.go:192", after := #[{ on := 6, ground := Go.Ground.data }], guard := none }) (v := ?_) rfl (by kernel_rfl) (by kernel_rfl) (by kernel_rfl) (fun _ _ _ h => h) (Or.inl ⟨by rfl, ?_⟩) (by assumption) ?_
       rotate_left
       · (intro w hSw; (try dsimp only at hSw); go_simp <;> try with_reducible rfl)
       try simp only [Act.put, List.setIfInBounds_toArray, List.set_cons_zero, List.set_cons_succ]
       refine wpAnyH_take (i := 8) (oi := { dst := some 46, op := Go.Op.move (Go.Operand.tmp 7), type := 73, pos := "l10_tax.go:192", after := #[], guard := none }) (v := ?_) rfl (by kernel_rfl) (by kernel_rfl) (by kernel_rfl) (fun _ _ _ h => h) (Or.inl ⟨by rfl, ?_⟩) (by assumption) ?_
       rotate_left
       · (intro w hSw; (try dsimp only at hSw); go_simp <;> try with_reducible rfl)
       try simp only [Act.put, List.setIfInBounds_toArray, List.set_cons_zero, List.set_cons_succ]
       refine wpAnyH_take (i := 9) (oi := { dst := some 47, op := Go.Op.move (Go.Operand.tmp 10), type := 3, pos := "l10_tax.go:192", after := #[], guard := none }) (v := ?_) rfl (by kernel_rfl) (by kernel_rfl) (by kernel_rfl) (fun _ _ _ h => h) (Or.inl ⟨by rfl, ?_⟩) (by assumption) ?_
       rotate_left
       · (intro w hSw; (try dsimp only at hSw); go_simp <;> try with_reducible rfl)
       try simp only [Act.put, List.setIfInBounds_toArray, List.set_cons_zero, List.set_cons_succ]
       refine wpAnyH_take (i := 10) (oi := { dst := some 48, op := Go.Op.indexAddr 73 (Go.Operand.tmp 46) (Go.Operand.tmp 47), type := 0, pos := "l10_tax.go:192", after := #[{ on := 8, ground := Go.Ground.data }, { on := 9, ground := Go.Ground.data }], guard := none }) (v := ?_) rfl (by kernel_rfl) (by kernel_rfl) (by kernel_rfl) (fun _ _ _ h => h) (Or.inl ⟨by rfl, ?_⟩) (by assumption) ?_
       rotate_left
       · (intro w hSw; (try dsimp only at hSw); go_simp <;> try with_reducible rfl)
       try simp only [Act.put, List.setIfInBounds_toArray, List.set_cons_zero, List.set_cons_succ]
       refine wpAnyH_take (i := 11) (oi := { dst := some 49, op := Go.Op.load 3 (Go.Operand.tmp 48), type := 3, pos := "l10_tax.go:192", after := #[{ on := 10, ground := Go.Ground.data }], guard := none }) (v := ?_) rfl (by kernel_rfl) (by kernel_rfl) (by kernel_rfl) (fun _ _ _ h => h) (Or.inl ⟨by rfl, ?_⟩) (by assumption) ?_
       rotate_left
       · (intro w hSw; (try dsimp only at hSw); go_simp <;> try with_reducible rfl)
       try simp only [Act.put, List.setIfInBounds_toArray, List.set_cons_zero, List.set_cons_succ]
       refine wpAnyH_take (i := 12) (oi := { dst := some 50, op := Go.Op.build 128 #[(0, Go.Operand.tmp 42), (1, Go.Operand.tmp 43), (2, Go.Operand.tmp 45), (3, Go.Operand.tmp 49)], type := 128, pos := "l10_tax.go:192", after := #[{ on := 4, ground := Go.Ground.data }, { on := 5, ground := Go.Ground.data }, { on := 7, ground := Go.Ground.data }, { on := 11, ground := Go.Ground.data }], guard := none }) (v := ?_) rfl (by kernel_rfl) (by kernel_rfl) (by kernel_rfl) (fun _ _ _ h => h) (Or.inl ⟨by rfl, ?_⟩) (by assumption) ?_
       rotate_left
       · (intro w hSw; (try dsimp only at hSw); go_simp <;> try with_reducible rfl)
       try simp only [Act.put, List.setIfInBounds_toArray, List.set_cons_zero, List.set_cons_succ]
       refine wpAnyH_ready (rs := [2, 20]) (by kernel_rfl) (by simp) ?_
       refine AllReadyH.cons (o := { dst := some 40, op := Go.Op.call { callee := Go.Callee.value (Go.Operand.func 82), args := #[Go.Operand.tmp 39], argTypes := #[3] }, type := 124, pos := "l10_tax.go:192", after := #[{ on := 1, ground := Go.Ground.data }], guard := none }) rfl (fun K hK => ?_) (AllReadyH.cons (o := { dst := some 12, op := Go.Op.alloc 121, type := 0, pos := "l10_tax.go:192", after := #[], guard := none }) rfl (fun K hK => ?_) (AllReadyH.nil))
       · go_simp
         refine (kind_any _ _).mono ?_
         rintro e w2 ⟨rfl, rfl⟩
         rw [HKV.out]
         first | refine hK.out _ _ (by exact SB0.out.drewS.cells) (fun hHeld => ?_) | (go_wp2_with fail; refine hK.out _ _ (by exact SB0.out.drewS.cells) (fun hHeld => ?_))
         clear hK K
         try simp only [Act.put, List.setIfInBounds_toArray, List.set_cons_zero, List.set_cons_succ]
         refine wpAnyH_take (i := 13) (oi := { dst := some 51, op := Go.Op.makeFunc (Go.Fn.method "loop.example/g00040/impl.levyOn") #[Go.Operand.tmp 40] #[], type := 126, pos := "l10_tax.go:192", after := #[{ on := 2, ground := Go.Ground.data }], guard := none }) (v := ?_) rfl (by kernel_rfl) (by kernel_rfl) (by kernel_rfl) (fun _ _ _ h => h) (Or.inl ⟨by rfl, ?_⟩) (by assumption) ?_
         rotate_left
         · (intro w hSw; (try dsimp only at hSw); go_simp <;> try with_reducible rfl)
         try simp only [Act.put, List.setIfInBounds_toArray, List.set_cons_zero, List.set_cons_succ]
         refine wpAnyH_take (i := 14) (oi := { dst := some 52, op := Go.Op.nilCheck (Go.Operand.tmp 51), type := 126, pos := "l10_tax.go:192", after := #[{ on := 13, ground := Go.Ground.data }], guard := none }) (v := ?_) rfl (by kernel_rfl) (by kernel_rfl) (by kernel_rfl) (fun _ _ _ h => h) (Or.inl ⟨by rfl, ?_⟩) (by assumption) ?_
         rotate_left
         · (intro w hSw; (try dsimp only at hSw); go_simp <;> try with_reducible rfl)
         try simp only [Act.put, List.setIfInBounds_toArray, List.set_cons_zero, List.set_cons_succ]
         refine wpAnyH_take (i := 15) (oi := { dst := some 53, op := Go.Op.move (Go.Operand.tmp 40), type := 124, pos := "l10_tax.go:192", after := #[{ on := 2, ground := Go.Ground.data }, { on := 13, ground := Go.Ground.data }, { on := 14, ground := Go.Ground.data }], guard := none }) (v := ?_) rfl (by kernel_rfl) (by kernel_rfl) (by kernel_rfl) (fun _ _ _ h => h) (Or.inl ⟨by rfl, ?_⟩) (by assumption) ?_
         rotate_left
         · (intro w hSw; (try dsimp only at hSw); go_simp <;> try with_reducible rfl)
         try simp only [Act.put, List.setIfInBounds_toArray, List.set_cons_zero, List.set_cons_succ]
         refine wpAnyH_ready (rs := [16, 20]) (by kernel_rfl) (by simp) ?_
         refine AllReadyH.cons (o := { dst := some 54, op := Go.Op.call { callee := Go.Callee.invoke (Go.Operand.tmp 53) "loop.example/g00040/impl.levyOn", args := #[Go.Operand.tmp 50], argTypes := #[128] }, type := 122, pos := "l10_tax.go:192", after := #[{ on := 15, ground := Go.Ground.data }, { on := 12, ground := Go.Ground.data }, { on := 2, ground := Go.Ground.chain }], guard := none }) rfl (fun K hK => ?_) (AllReadyH.cons (o := { dst := some 12, op := Go.Op.alloc 121, type := 0, pos := "l10_tax.go:192", after := #[], guard := none }) rfl (fun K hK => ?_) (AllReadyH.nil))
         · go_simp
           refine (HLV.out _).mono ?_
           rintro e w3 ⟨rfl, b3⟩
           unfold lAgg
           have SA : Hid (SB w1 wo q0 q1 q2 q3 kd nt g wi ib io k il ce w3) := SB0.out.drewS.below b3
           clear b3
           first | refine hK.out _ _ (by exact SA.out.cells) (fun hHeld => ?_) | (go_wp2_with fail; refine hK.out _ _ (by exact SA.out.cells) (fun hHeld => ?_))
           clear hK K
           try simp only [Act.put, List.setIfInBounds_toArray, List.set_cons_zero, List.set_cons_succ]
           refine wpAnyH_take (i := 17) (oi := { dst := some 37, op := Go.Op.move (Go.Operand.tmp 54), type := 122, pos := "l10_tax.go:192", after := #[{ on := 16, ground := Go.Ground.data }], guard := none }) (v := ?_) rfl (by kernel_rfl) (by kernel_rfl) (by kernel_rfl) (fun _ _ _ h => h) (Or.inl ⟨by rfl, ?_⟩) (by assumption) ?_
           rotate_left
           · (intro w hSw; (try dsimp only at hSw); go_simp <;> try with_reducible rfl)
           try simp only [Act.put, List.setIfInBounds_toArray, List.set_cons_zero, List.set_cons_succ]
           refine wpAnyH_take (i := 18) (oi := { dst := some 55, op := Go.Op.extract (Go.Operand.tmp 37) 0, type := 121, pos := "l10_tax.go:192", after := #[{ on := 17, ground := Go.Ground.data }], guard := none }) (v := ?_) rfl (by kernel_rfl) (by kernel_rfl) (by kernel_rfl) (fun _ _ _ h => h) (Or.inl ⟨by rfl, ?_⟩) (by assumption) ?_
           rotate_left
           · (intro w hSw; (try dsimp only at hSw); go_simp <;> try with_reducible rfl)
           try simp only [Act.put, List.setIfInBounds_toArray, List.set_cons_zero, List.set_cons_succ]
           refine wpAnyH_take (i := 19) (oi := { dst := some 56, op := Go.Op.extract (Go.Operand.tmp 37) 1, type := 4, pos := "l10_tax.go:192", after := #[{ on := 17, ground := Go.Ground.data }, { on := 21, ground := Go.Ground.gcOnly Go.Departure.lateStores }], guard := none }) (v := ?_) rfl (by kernel_rfl) (by kernel_rfl) (by kernel_rfl) (fun _ _ _ h => h) (Or.inl ⟨by rfl, ?_⟩) (by assumption) ?_
           rotate_left
           · (intro w hSw; (try dsimp only at hSw); go_simp <;> try with_reducible rfl)
           try simp only [Act.put, List.setIfInBounds_toArray, List.set_cons_zero, List.set_cons_succ]
           refine wpAnyH_ready (rs := [20]) (by kernel_rfl) (by simp) ?_
           refine AllReadyH.cons (o := { dst := some 12, op := Go.Op.alloc 121, type := 0, pos := "l10_tax.go:192", after := #[], guard := none }) rfl (fun K hK => ?_) (AllReadyH.nil)
           go_simp
           first | refine hK.out _ _ (by exact (SA.out.alloc _).cells) (fun hHeld => ?_) | (go_wp2_with fail; refine hK.out _ _ (by exact (SA.out.alloc _).cells) (fun hHeld => ?_))
           clear hK K
           try simp only [Act.put, List.setIfInBounds_toArray, List.set_cons_zero, List.set_cons_succ]
           refine wpAnyH_ready (rs := [21]) (by kernel_rfl) (by simp) ?_
           refine AllReadyH.cons (o := { dst := none, op := Go.Op.store 121 (Go.Operand.tmp 12) (Go.Operand.tmp 55), type := 0, pos := "l10_tax.go:192", after := #[{ on := 20, ground := Go.Ground.data }, { on := 18, ground := Go.Ground.data }, { on := 16, ground := Go.Ground.chain }, { on := 0, ground := Go.Ground.phase }, { on := 1, ground := Go.Ground.phase }, { on := 2, ground := Go.Ground.phase }, { on := 3, ground := Go.Ground.phase }, { on := 4, ground := Go.Ground.phase }, { on := 5, ground := Go.Ground.phase }, { on := 6, ground := Go.Ground.phase }, { on := 7, ground := Go.Ground.phase }, { on := 8, ground := Go.Ground.phase }, { on := 9, ground := Go.Ground.phase }, { on := 10, ground := Go.Ground.phase }, { on := 11, ground := Go.Ground.phase }, { on := 12, ground := Go.Ground.phase }, { on := 13, ground := Go.Ground.phase }, { on := 14, ground := Go.Ground.phase }, { on := 15, ground := Go.Ground.phase }, { on := 16, ground := Go.Ground.phase }, { on := 17, ground := Go.Ground.phase }, { on := 18, ground := Go.Ground.phase }, { on := 19, ground := Go.Ground.textOnly Go.Departure.lateStores }, { on := 20, ground := Go.Ground.phase }], guard := none }) rfl (fun K hK => ?_) (AllReadyH.nil)
           go_simp
           first | refine hK.out _ _ (by exact (SA.out.alloc _).cells) (fun hHeld => ?_) | (go_wp2_with fail; refine hK.out _ _ (by exact (SA.out.alloc _).cells) (fun hHeld => ?_))
           clear hK K
           try simp only [Act.put, List.setIfInBounds_toArray, List.set_cons_zero, List.set_cons_succ]
           refine wpAnyH_take (i := 22) (oi := { dst := some 13, op := Go.Op.assign (Go.Operand.tmp 56), type := 4, pos := "l10_tax.go:192", after := #[{ on := 19, ground := Go.Ground.data }, { on := 21, ground := Go.Ground.chain }, { on := 0, ground := Go.Ground.phase }, { on := 1, ground := Go.Ground.phase }, { on := 2, ground := Go.Ground.phase }, { on := 3, ground := Go.Ground.phase }, { on := 4, ground := Go.Ground.phase }, { on := 5, ground := Go.Ground.phase }, { on := 6, ground := Go.Ground.phase }, { on := 7, ground := Go.Ground.phase }, { on := 8, ground := Go.Ground.phase }, { on := 9, ground := Go.Ground.phase }, { on := 10, ground := Go.Ground.phase }, { on := 11, ground := Go.Ground.phase }, { on := 12, ground := Go.Ground.phase }, { on := 13, ground := Go.Ground.phase }, { on := 14, ground := Go.Ground.phase }, { on := 15, ground := Go.Ground.phase }, { on := 16, ground := Go.Ground.phase }, { on := 17, ground := Go.Ground.phase }, { on := 18, ground := Go.Ground.phase }, { on := 19, ground := Go.Ground.phase }, { on := 20, ground := Go.Ground.phase }, { on := 21, ground := Go.Ground.phase }], guard := none }) (v := ?_) rfl (by kernel_rfl) (by kernel_rfl) (by kernel_rfl) (fun _ _ _ h => h) (Or.inl ⟨by rfl, ?_⟩) (by assumption) ?_
           rotate_left
           · (intro w hSw; (try dsimp only at hSw); go_simp <;> try with_reducible rfl)
           try simp only [Act.put, List.setIfInBounds_toArray, List.set_cons_zero, List.set_cons_succ]
           refine wpAnyH_done (by kernel_rfl) ?_ _
           refine NoPanic.normal ?_
           clear hHeld
           have HS : Hid (SB w1 wo q0 q1 q2 q3 kd nt g wi ib io k il ce (w3.alloc (.cells #[.int .i64 B, .int .i64 T, .int .i64 G] 121 (0, 0)))) := SA.out.alloc _
           have HL : Hid (CB (w3.alloc (.cells #[.int .i64 B, .int .i64 T, .int .i64 G] 121 (0, 0))) w3.heap.size #[.int .i64 B, .int .i64 T, .int .i64 G] 121) := CB.new _ _
           have hLB : wo.heap.size < w3.heap.size ∧ w1.heap.size + 1 < w3.heap.size := ⟨SA.out.cr.lt, SA.out.c2.lt⟩
           clear SA SB0
           generalize w3.alloc (.cells #[.int .i64 B, .int .i64 T, .int .i64 G] 121 (0, 0)) = W at HS HL ⊢
           generalize w3.heap.size = LB at HL hLB ⊢
           have a0 := (HS.out.cr.cell 0).trans rfl
           have a4 := (HS.out.cr.cell 4).trans rfl
           have b1 := (HS.out.c2.cell 1).trans rfl
           have b2 := (HS.out.c2.cell 2).trans rfl
           have bf := HS.out.c2.fr 1
           have l0 := (HL.out.cell 0).trans rfl
           have l1 := (HL.out.cell 1).trans rfl
           have l2 := (HL.out.cell 2).trans rfl
           cases O
           · have HN : Hid (¬ BiP u il p) := hid (fun H => by have := H.2.1 k hlt; rw [HNT.out, HK.out, ← HG.out, HV4.out.2.2.2] at this; cases this)
             have hC0 : CB W w.heap.size #[.int .i64 0, .int .i64 0, .slice none 0 0] 30 := HC.out.below HS.out.bel HC.out.lt
             have k0 := (hC0.cell 0).trans rfl
             have k1 := (hC0.cell 1).trans rfl
             have k2 := (hC0.cell 2).trans rfl
             have f0 := hC0.fr 0
             have f1 := hC0.fr 1
             have f2 := hC0.fr 2
             have HC0 : Hid (CB W w.heap.size #[.int .i64 0, .int .i64 0, .slice none 0 0] 30) := hC0
             have HBW : Hid (Below w.heap.size w W) := bel_on HB1.out HS.out.bel
             clear hC0
             go_wp2
             have hX := ((HC0.out.set 0 (.int .i64 0)).set 1 (.int .i64 0)).set 2 (.slice none 0 0)
             have hZ := ((HBW.out.setCell (p := ⟨w.heap.size, 0, none⟩) (by simp) (.int .i64 0)).setCell (p := ⟨w.heap.size, 1, none⟩) (by simp) (.int .i64 0)).setCell (p := ⟨w.heap.size, 2, none⟩) (by simp) (.slice none 0 0)
             have e0 := hX.cell 0
             have e1 := hX.cell 1
             have e2 := hX.cell 2
             simp at e0 e1 e2
             clear hX k0 k1 k2 f0 f1 f2 a0 a4 b1 b2 bf l0 l1 l2
             generalize (World.setCell _ _ _) = W5 at e0 e1 e2 hZ ⊢
             refine bodyPost_ret (by simp [results, Try.results46, go_sem, e0, e1, e2]; try rfl) rfl ?_
             exact ⟨hZ, .inr ⟨HN.out, rfl⟩⟩
           · have hsz := HH.out.1
             obtain ⟨v0, d0⟩ : ∃ v, ce[k * 4]? = some v := ⟨ce[k * 4]'(by omega), Array.getElem?_eq_getElem (by omega)⟩
             obtain ⟨v1, d1⟩ : ∃ v, ce[k * 4 + 1]? = some v := ⟨ce[k * 4 + 1]'(by omega), Array.getElem?_eq_getElem (by omega)⟩
             obtain ⟨v2, d2⟩ : ∃ v, ce[k * 4 + 2]? = some v := ⟨ce[k * 4 + 2]'(by omega), Array.getElem?_eq_getElem (by omega)⟩
             obtain ⟨v3, d3⟩ : ∃ v, ce[k * 4 + 3]? = some v := ⟨ce[k * 4 + 3]'(by omega), Array.getElem?_eq_getElem (by omega)⟩
             have p0 := (HS.out.c1.cell (k * 4)).trans d0
             have p1 := (HS.out.c1.cell (k * 4 + 1)).trans d1
             have p2 := (HS.out.c1.cell (k * 4 + 2)).trans d2
             have p3 := (HS.out.c1.cell (k * 4 + 3)).trans d3
             have r0 := HS.out.c1.fr (k * 4)
             have r1 := HS.out.c1.fr (k * 4 + 1)
             have r2 := HS.out.c1.fr (k * 4 + 2)
             have r3 := HS.out.c1.fr (k * 4 + 3)
             have hgb : -9000000000000 ≤ g + G ∧ g + G ≤ 9000000000000 := by
               have q1 := gr_bd HU.out hm HP.out (k + 1) (by omega)
               rw [HNT.out] at q1
               have q2 : grV u nt (wiV u il p) (k + 1) = g + G := by
                 show grV u nt (wiV u il p) k + lvG (u k) (grV u nt (wiV u il p) k) nt (wiV u il p k) = _
                 rw [← HG.out, HK.out, HWI.out, HV4.out.2.2.1]
               rw [q2] at q1
               omega
             have HGG : Hid (g + G = grV u nt (wiV u il p) (k + 1)) := hid (by
               show _ = grV u nt (wiV u il p) k + lvG (u k) (grV u nt (wiV u il p) k) nt (wiV u il p k)
               rw [← HG.out, HK.out, HWI.out, HV4.out.2.2.1])
             have HPT : Hid (ptV u nt (wiV u il p) k = ⟨q0, kd, B, T⟩) := hid (by
               unfold ptV
               rw [← HG.out, HK.out, HWI.out, HV4.out.1, HV4.out.2.1])
             have HLO : Hid (∀ j, j < k + 1 → lvO (u j) (grV u nt (wiV u il p) j) nt = true) := hid (fun j hj => by
               by_cases e : j = k
               · subst e; rw [← HG.out, HK.out]; exact HV4.out.2.2.2
               · exact HH.out.2.2.1 j (by omega))
             go_wp2
             go_roundw
             case rel =>
               exact ⟨k + 1, _, g + G, by omega, by go_num, ((((HS.out.c1.set _ _).set _ _).set _ _).set _ _).other _ (by omega), ((((HS.out.c2.other _ (by omega)).other _ (by omega)).other _ (by omega)).other _ (by omega)).set 1 _, ⟨by simp [hsz], HH.out.2.1.step hsz hlt HPT.out, HLO.out, ((((HS.out.bel.setCell (Nat.le_refl _) _).setCell (Nat.le_refl _) _).setCell (Nat.le_refl _) _).setCell (Nat.le_refl _) _).setCell (by show w1.heap.size ≤ w1.heap.size + 1; omega) _⟩, HGG⟩
             case measure => simp [intOf]; omega
         · go_simp
           first | refine hK.out _ _ (by exact (SB0.out.drewS.alloc _).cells) (fun hHeld => ?_) | (go_wp2_with fail; refine hK.out _ _ (by exact (SB0.out.drewS.alloc _).cells) (fun hHeld => ?_))
           clear hK K
           try simp only [Act.put, List.setIfInBounds_toArray, List.set_cons_zero, List.set_cons_succ]
           refine wpAnyH_ready (rs := [16]) (by kernel_rfl) (by simp) ?_
           refine AllReadyH.cons (o := { dst := some 54, op := Go.Op.call { callee := Go.Callee.invoke (Go.Operand.tmp 53) "loop.example/g00040/impl.levyOn", args := #[Go.Operand.tmp 50], argTypes := #[128] }, type := 122, pos := "l10_tax.go:192", after := #[{ on := 15, ground := Go.Ground.data }, { on := 12, ground := Go.Ground.data }, { on := 2, ground := Go.Ground.chain }], guard := none }) rfl (fun K hK => ?_) (AllReadyH.nil)
           go_simp
           refine (HLV.out _).mono ?_
           rintro e w3 ⟨rfl, b3⟩
           unfold lAgg
           have SA : Hid (SB w1 wo q0 q1 q2 q3 kd nt g wi ib io k il ce w3) := (SB0.out.drewS.alloc _).below b3
           have C5 : CB w3 (wo.heap.size + 1) #[.int .i64 0, .int .i64 0, .int .i64 0] 121 := CB.below (CB.newAt (w := (wo.alloc (.cells #[.string q0, .int .i64 q1, .int .i64 q2, .int .i64 q3, .int .i64 kd] 79 (0, 0))).drew) (b := wo.heap.size + 1) (by show (wo.alloc _).heap.size = _; simp) #[.int .i64 0, .int .i64 0, .int .i64 0] 121) b3 (by show wo.heap.size + 1 < ((wo.alloc _).alloc _).heap.size; simp)
           have hz1 : w1.heap.size + 1 < wo.heap.size + 1 := by have := HH.out.2.2.2.size; have := HCL.out; omega
           have HC5 : Hid (CB w3 (wo.heap.size + 1) #[.int .i64 0, .int .i64 0, .int .i64 0] 121) := C5
           have m0 := (C5.cell 0).trans rfl
           have m1 := (C5.cell 1).trans rfl
           have m2 := (C5.cell 2).trans rfl
           have f0 := C5.fr 0
           have f1 := C5.fr 1
           have f2 := C5.fr 2
           clear b3 C5
           first | refine hK.out _ _ (by exact SA.out.cells) (fun hHeld => ?_) | (go_wp2_with fail; refine hK.out _ _ (by exact SA.out.cells) (fun hHeld => ?_))
           clear hK K
           try simp only [Act.put, List.setIfInBounds_toArray, List.set_cons_zero, List.set_cons_succ]
           refine wpAnyH_take (i := 17) (oi := { dst := some 37, op := Go.Op.move (Go.Operand.tmp 54), type := 122, pos := "l10_tax.go:192", after := #[{ on := 16, ground := Go.Ground.data }], guard := none }) (v := ?_) rfl (by kernel_rfl) (by kernel_rfl) (by kernel_rfl) (fun _ _ _ h => h) (Or.inl ⟨by rfl, ?_⟩) (by assumption) ?_
           rotate_left
           · (intro w hSw; (try dsimp only at hSw); go_simp <;> try with_reducible rfl)
           try simp only [Act.put, List.setIfInBounds_toArray, List.set_cons_zero, List.set_cons_succ]
           refine wpAnyH_take (i := 18) (oi := { dst := some 55, op := Go.Op.extract (Go.Operand.tmp 37) 0, type := 121, pos := "l10_tax.go:192", after := #[{ on := 17, ground := Go.Ground.data }], guard := none }) (v := ?_) rfl (by kernel_rfl) (by kernel_rfl) (by kernel_rfl) (fun _ _ _ h => h) (Or.inl ⟨by rfl, ?_⟩) (by assumption) ?_
           rotate_left
           · (intro w hSw; (try dsimp only at hSw); go_simp <;> try with_reducible rfl)
           try simp only [Act.put, List.setIfInBounds_toArray, List.set_cons_zero, List.set_cons_succ]
           refine wpAnyH_take (i := 19) (oi := { dst := some 56, op := Go.Op.extract (Go.Operand.tmp 37) 1, type := 4, pos := "l10_tax.go:192", after := #[{ on := 17, ground := Go.Ground.data }, { on := 21, ground := Go.Ground.gcOnly Go.Departure.lateStores }], guard := none }) (v := ?_) rfl (by kernel_rfl) (by kernel_rfl) (by kernel_rfl) (fun _ _ _ h => h) (Or.inl ⟨by rfl, ?_⟩) (by assumption) ?_
           rotate_left
           · (intro w hSw; (try dsimp only at hSw); go_simp <;> try with_reducible rfl)
           try simp only [Act.put, List.setIfInBounds_toArray, List.set_cons_zero, List.set_cons_succ]
           refine wpAnyH_ready (rs := [21]) (by kernel_rfl) (by simp) ?_
           refine AllReadyH.cons (o := { dst := none, op := Go.Op.store 121 (Go.Operand.tmp 12) (Go.Operand.tmp 55), type := 0, pos := "l10_tax.go:192", after := #[{ on := 20, ground := Go.Ground.data }, { on := 18, ground := Go.Ground.data }, { on := 16, ground := Go.Ground.chain }, { on := 0, ground := Go.Ground.phase }, { on := 1, ground := Go.Ground.phase }, { on := 2, ground := Go.Ground.phase }, { on := 3, ground := Go.Ground.phase }, { on := 4, ground := Go.Ground.phase }, { on := 5, ground := Go.Ground.phase }, { on := 6, ground := Go.Ground.phase }, { on := 7, ground := Go.Ground.phase }, { on := 8, ground := Go.Ground.phase }, { on := 9, ground := Go.Ground.phase }, { on := 10, ground := Go.Ground.phase }, { on := 11, ground := Go.Ground.phase }, { on := 12, ground := Go.Ground.phase }, { on := 13, ground := Go.Ground.phase }, { on := 14, ground := Go.Ground.phase }, { on := 15, ground := Go.Ground.phase }, { on := 16, ground := Go.Ground.phase }, { on := 17, ground := Go.Ground.phase }, { on := 18, ground := Go.Ground.phase }, { on := 19, ground := Go.Ground.textOnly Go.Departure.lateStores }, { on := 20, ground := Go.Ground.phase }], guard := none }) rfl (fun K hK => ?_) (AllReadyH.nil)
           have HS : Hid (SB w1 wo q0 q1 q2 q3 kd nt g wi ib io k il ce (((w3.setCell ⟨wo.heap.size + 1, 0, none⟩ (.int .i64 B)).setCell ⟨wo.heap.size + 1, 1, none⟩ (.int .i64 T)).setCell ⟨wo.heap.size + 1, 2, none⟩ (.int .i64 G))) := ((SA.out.other 0 _ (by omega) hz1 hib).other 1 _ (by omega) hz1 hib).other 2 _ (by omega) hz1 hib
           have HL : Hid (CB (((w3.setCell ⟨wo.heap.size + 1, 0, none⟩ (.int .i64 B)).setCell ⟨wo.heap.size + 1, 1, none⟩ (.int .i64 T)).setCell ⟨wo.heap.size + 1, 2, none⟩ (.int .i64 G)) (wo.heap.size + 1) #[.int .i64 B, .int .i64 T, .int .i64 G] 121) := ((HC5.out.set 0 (.int .i64 B)).set 1 (.int .i64 T)).set 2 (.int .i64 G)
           go_simp
           first | refine hK.out _ _ (by exact HS.out.cells) (fun hHeld => ?_) | (go_wp2_with fail; refine hK.out _ _ (by exact HS.out.cells) (fun hHeld => ?_))
           clear hK K
           try simp only [Act.put, List.setIfInBounds_toArray, List.set_cons_zero, List.set_cons_succ]
           refine wpAnyH_take (i := 22) (oi := { dst := some 13, op := Go.Op.assign (Go.Operand.tmp 56), type := 4, pos := "l10_tax.go:192", after := #[{ on := 19, ground := Go.Ground.data }, { on := 21, ground := Go.Ground.chain }, { on := 0, ground := Go.Ground.phase }, { on := 1, ground := Go.Ground.phase }, { on := 2, ground := Go.Ground.phase }, { on := 3, ground := Go.Ground.phase }, { on := 4, ground := Go.Ground.phase }, { on := 5, ground := Go.Ground.phase }, { on := 6, ground := Go.Ground.phase }, { on := 7, ground := Go.Ground.phase }, { on := 8, ground := Go.Ground.phase }, { on := 9, ground := Go.Ground.phase }, { on := 10, ground := Go.Ground.phase }, { on := 11, ground := Go.Ground.phase }, { on := 12, ground := Go.Ground.phase }, { on := 13, ground := Go.Ground.phase }, { on := 14, ground := Go.Ground.phase }, { on := 15, ground := Go.Ground.phase }, { on := 16, ground := Go.Ground.phase }, { on := 17, ground := Go.Ground.phase }, { on := 18, ground := Go.Ground.phase }, { on := 19, ground := Go.Ground.phase }, { on := 20, ground := Go.Ground.phase }, { on := 21, ground := Go.Ground.phase }], guard := none }) (v := ?_) rfl (by kernel_rfl) (by kernel_rfl) (by kernel_rfl) (fun _ _ _ h => h) (Or.inl ⟨by rfl, ?_⟩) (by assumption) ?_
           rotate_left
           · (intro w hSw; (try dsimp only at hSw); go_simp <;> try with_reducible rfl)
           try simp only [Act.put, List.setIfInBounds_toArray, List.set_cons_zero, List.set_cons_succ]
           refine wpAnyH_done (by kernel_rfl) ?_ _
           refine NoPanic.normal ?_
           clear hHeld m0 m1 m2 f0 f1 f2
           have hLB : wo.heap.size < wo.heap.size + 1 ∧ w1.heap.size + 1 < wo.heap.size + 1 := ⟨by omega, hz1⟩
           clear SA SB0 HC5 hz1
           generalize (((w3.setCell ⟨wo.heap.size + 1, 0, none⟩ (.int .i64 B)).setCell ⟨wo.heap.size + 1, 1, none⟩ (.int .i64 T)).setCell ⟨wo.heap.size + 1, 2, none⟩ (.int .i64 G)) = W at HS HL ⊢
           generalize hLBe : wo.heap.size + 1 = LB at HL hLB ⊢
           clear hLBe
           have a0 := (HS.out.cr.cell 0).trans rfl
           have a4 := (HS.out.cr.cell 4).trans rfl
           have b1 := (HS.out.c2.cell 1).trans rfl
           have b2 := (HS.out.c2.cell 2).trans rfl
           have bf := HS.out.c2.fr 1
           have l0 := (HL.out.cell 0).trans rfl
           have l1 := (HL.out.cell 1).trans rfl
           have l2 := (HL.out.cell 2).trans rfl
           cases O
           · have HN : Hid (¬ BiP u il p) := hid (fun H => by have := H.2.1 k hlt; rw [HNT.out, HK.out, ← HG.out, HV4.out.2.2.2] at this; cases this)
             have hC0 : CB W w.heap.size #[.int .i64 0, .int .i64 0, .slice none 0 0] 30 := HC.out.below HS.out.bel HC.out.lt
             have k0 := (hC0.cell 0).trans rfl
             have k1 := (hC0.cell 1).trans rfl
             have k2 := (hC0.cell 2).trans rfl
             have f0 := hC0.fr 0
             have f1 := hC0.fr 1
             have f2 := hC0.fr 2
             have HC0 : Hid (CB W w.heap.size #[.int .i64 0, .int .i64 0, .slice none 0 0] 30) := hC0
             have HBW : Hid (Below w.heap.size w W) := bel_on HB1.out HS.out.bel
             clear hC0
             go_wp2
             have hX := ((HC0.out.set 0 (.int .i64 0)).set 1 (.int .i64 0)).set 2 (.slice none 0 0)
             have hZ := ((HBW.out.setCell (p := ⟨w.heap.size, 0, none⟩) (by simp) (.int .i64 0)).setCell (p := ⟨w.heap.size, 1, none⟩) (by simp) (.int .i64 0)).setCell (p := ⟨w.heap.size, 2, none⟩) (by simp) (.slice none 0 0)
             have e0 := hX.cell 0
             have e1 := hX.cell 1
             have e2 := hX.cell 2
             simp at e0 e1 e2
             clear hX k0 k1 k2 f0 f1 f2 a0 a4 b1 b2 bf l0 l1 l2
             generalize (World.setCell _ _ _) = W5 at e0 e1 e2 hZ ⊢
             refine bodyPost_ret (by simp [results, Try.results46, go_sem, e0, e1, e2]; try rfl) rfl ?_
             exact ⟨hZ, .inr ⟨HN.out, rfl⟩⟩
           · have hsz := HH.out.1
             obtain ⟨v0, d0⟩ : ∃ v, ce[k * 4]? = some v := ⟨ce[k * 4]'(by omega), Array.getElem?_eq_getElem (by omega)⟩
             obtain ⟨v1, d1⟩ : ∃ v, ce[k * 4 + 1]? = some v := ⟨ce[k * 4 + 1]'(by omega), Array.getElem?_eq_getElem (by omega)⟩
             obtain ⟨v2, d2⟩ : ∃ v, ce[k * 4 + 2]? = some v := ⟨ce[k * 4 + 2]'(by omega), Array.getElem?_eq_getElem (by omega)⟩
             obtain ⟨v3, d3⟩ : ∃ v, ce[k * 4 + 3]? = some v := ⟨ce[k * 4 + 3]'(by omega), Array.getElem?_eq_getElem (by omega)⟩
             have p0 := (HS.out.c1.cell (k * 4)).trans d0
             have p1 := (HS.out.c1.cell (k * 4 + 1)).trans d1
             have p2 := (HS.out.c1.cell (k * 4 + 2)).trans d2
             have p3 := (HS.out.c1.cell (k * 4 + 3)).trans d3
             have r0 := HS.out.c1.fr (k * 4)
             have r1 := HS.out.c1.fr (k * 4 + 1)
             have r2 := HS.out.c1.fr (k * 4 + 2)
             have r3 := HS.out.c1.fr (k * 4 + 3)
             have hgb : -9000000000000 ≤ g + G ∧ g + G ≤ 9000000000000 := by
               have q1 := gr_bd HU.out hm HP.out (k + 1) (by omega)
               rw [HNT.out] at q1
               have q2 : grV u nt (wiV u il p) (k + 1) = g + G := by
                 show grV u nt (wiV u il p) k + lvG (u k) (grV u nt (wiV u il p) k) nt (wiV u il p k) = _
                 rw [← HG.out, HK.out, HWI.out, HV4.out.2.2.1]
               rw [q2] at q1
               omega
             have HGG : Hid (g + G = grV u nt (wiV u il p) (k + 1)) := hid (by
               show _ = grV u nt (wiV u il p) k + lvG (u k) (grV u nt (wiV u il p) k) nt (wiV u il p k)
               rw [← HG.out, HK.out, HWI.out, HV4.out.2.2.1])
             have HPT : Hid (ptV u nt (wiV u il p) k = ⟨q0, kd, B, T⟩) := hid (by
               unfold ptV
               rw [← HG.out, HK.out, HWI.out, HV4.out.1, HV4.out.2.1])
             have HLO : Hid (∀ j, j < k + 1 → lvO (u j) (grV u nt (wiV u il p) j) nt = true) := hid (fun j hj => by
               by_cases e : j = k
               · subst e; rw [← HG.out, HK.out]; exact HV4.out.2.2.2
               · exact HH.out.2.2.1 j (by omega))
             go_wp2
             go_roundw
             case rel =>
               exact ⟨k + 1, _, g + G, by omega, by go_num, ((((HS.out.c1.set _ _).set _ _).set _ _).set _ _).other _ (by omega), ((((HS.out.c2.other _ (by omega)).other _ (by omega)).other _ (by omega)).other _ (by omega)).set 1 _, ⟨by simp [hsz], HH.out.2.1.step hsz hlt HPT.out, HLO.out, ((((HS.out.bel.setCell (Nat.le_refl _) _).setCell (Nat.le_refl _) _).setCell (Nat.le_refl _) _).setCell (Nat.le_refl _) _).setCell (by show w1.heap.size ≤ w1.heap.size + 1; omega) _⟩, HGG⟩
             case measure => simp [intOf]; omega
       · go_simp
         first | refine hK.out _ _ (by exact (SB0.out.drewS.alloc _).cells) (fun hHeld => ?_) | (go_wp2_with fail; refine hK.out _ _ (by exact (SB0.out.drewS.alloc _).cells) (fun hHeld => ?_))
         clear hK K
         try simp only [Act.put, List.setIfInBounds_toArray, List.set_cons_zero, List.set_cons_succ]
         refine wpAnyH_ready (rs := [2]) (by kernel_rfl) (by simp) ?_
         refine AllReadyH.cons (o := { dst := some 40, op := Go.Op.call { callee := Go.Callee.value (Go.Operand.func 82), args := #[Go.Operand.tmp 39], argTypes := #[3] }, type := 124, pos := "l10_tax.go:192", after := #[{ on := 1, ground := Go.Ground.data }], guard := none }) rfl (fun K hK => ?_) (AllReadyH.nil)
         go_simp
         refine (kind_any _ _).mono ?_
         rintro e w2 ⟨rfl, rfl⟩
         rw [HKV.out]
         first | refine hK.out _ _ (by exact (SB0.out.drewS.alloc _).cells) (fun hHeld => ?_) | (go_wp2_with fail; refine hK.out _ _ (by exact (SB0.out.drewS.alloc _).cells) (fun hHeld => ?_))
         clear hK K
         try simp only [Act.put, List.setIfInBounds_toArray, List.set_cons_zero, List.set_cons_succ]
         refine wpAnyH_take (i := 13) (oi := { dst := some 51, op := Go.Op.makeFunc (Go.Fn.method "loop.example/g00040/impl.levyOn") #[Go.Operand.tmp 40] #[], type := 126, pos := "l10_tax.go:192", after := #[{ on := 2, ground := Go.Ground.data }], guard := none }) (v := ?_) rfl (by kernel_rfl) (by kernel_rfl) (by kernel_rfl) (fun _ _ _ h => h) (Or.inl ⟨by rfl, ?_⟩) (by assumption) ?_
         rotate_left
         · (intro w hSw; (try dsimp only at hSw); go_simp <;> try with_reducible rfl)
         try simp only [Act.put, List.setIfInBounds_toArray, List.set_cons_zero, List.set_cons_succ]
         refine wpAnyH_take (i := 14) (oi := { dst := some 52, op := Go.Op.nilCheck (Go.Operand.tmp 51), type := 126, pos := "l10_tax.go:192", after := #[{ on := 13, ground := Go.Ground.data }], guard := none }) (v := ?_) rfl (by kernel_rfl) (by kernel_rfl) (by kernel_rfl) (fun _ _ _ h => h) (Or.inl ⟨by rfl, ?_⟩) (by assumption) ?_
         rotate_left
         · (intro w hSw; (try dsimp only at hSw); go_simp <;> try with_reducible rfl)
         try simp only [Act.put, List.setIfInBounds_toArray, List.set_cons_zero, List.set_cons_succ]
         refine wpAnyH_take (i := 15) (oi := { dst := some 53, op := Go.Op.move (Go.Operand.tmp 40), type := 124, pos := "l10_tax.go:192", after := #[{ on := 2, ground := Go.Ground.data }, { on := 13, ground := Go.Ground.data }, { on := 14, ground := Go.Ground.data }], guard := none }) (v := ?_) rfl (by kernel_rfl) (by kernel_rfl) (by kernel_rfl) (fun _ _ _ h => h) (Or.inl ⟨by rfl, ?_⟩) (by assumption) ?_
         rotate_left
         · (intro w hSw; (try dsimp only at hSw); go_simp <;> try with_reducible rfl)
         try simp only [Act.put, List.setIfInBounds_toArray, List.set_cons_zero, List.set_cons_succ]
         refine wpAnyH_ready (rs := [16]) (by kernel_rfl) (by simp) ?_
         refine AllReadyH.cons (o := { dst := some 54, op := Go.Op.call { callee := Go.Callee.invoke (Go.Operand.tmp 53) "loop.example/g00040/impl.levyOn", args := #[Go.Operand.tmp 50], argTypes := #[128] }, type := 122, pos := "l10_tax.go:192", after := #[{ on := 15, ground := Go.Ground.data }, { on := 12, ground := Go.Ground.data }, { on := 2, ground := Go.Ground.chain }], guard := none }) rfl (fun K hK => ?_) (AllReadyH.nil)
         go_simp
         refine (HLV.out _).mono ?_
         rintro e w3 ⟨rfl, b3⟩
         unfold lAgg
         have SA : Hid (SB w1 wo q0 q1 q2 q3 kd nt g wi ib io k il ce w3) := (SB0.out.drewS.alloc _).below b3
         have C5 : CB w3 (wo.heap.size + 1) #[.int .i64 0, .int .i64 0, .int .i64 0] 121 := CB.below (CB.newAt (w := (wo.alloc (.cells #[.string q0, .int .i64 q1, .int .i64 q2, .int .i64 q3, .int .i64 kd] 79 (0, 0))).drew) (b := wo.heap.size + 1) (by show (wo.alloc _).heap.size = _; simp) #[.int .i64 0, .int .i64 0, .int .i64 0] 121) b3 (by show wo.heap.size + 1 < ((wo.alloc _).alloc _).heap.size; simp)
         have hz1 : w1.heap.size + 1 < wo.heap.size + 1 := by have := HH.out.2.2.2.size; have := HCL.out; omega
         have HC5 : Hid (CB w3 (wo.heap.size + 1) #[.int .i64 0, .int .i64 0, .int .i64 0] 121) := C5
         have m0 := (C5.cell 0).trans rfl
         have m1 := (C5.cell 1).trans rfl
         have m2 := (C5.cell 2).trans rfl
         have f0 := C5.fr 0
         have f1 := C5.fr 1
         have f2 := C5.fr 2
         clear b3 C5
         first | refine hK.out _ _ (by exact SA.out.cells) (fun hHeld => ?_) | (go_wp2_with fail; refine hK.out _ _ (by exact SA.out.cells) (fun hHeld => ?_))
         clear hK K
         try simp only [Act.put, List.setIfInBounds_toArray, List.set_cons_zero, List.set_cons_succ]
         refine wpAnyH_take (i := 17) (oi := { dst := some 37, op := Go.Op.move (Go.Operand.tmp 54), type := 122, pos := "l10_tax.go:192", after := #[{ on := 16, ground := Go.Ground.data }], guard := none }) (v := ?_) rfl (by kernel_rfl) (by kernel_rfl) (by kernel_rfl) (fun _ _ _ h => h) (Or.inl ⟨by rfl, ?_⟩) (by assumption) ?_
         rotate_left
         · (intro w hSw; (try dsimp only at hSw); go_simp <;> try with_reducible rfl)
         try simp only [Act.put, List.setIfInBounds_toArray, List.set_cons_zero, List.set_cons_succ]
         refine wpAnyH_take (i := 18) (oi := { dst := some 55, op := Go.Op.extract (Go.Operand.tmp 37) 0, type := 121, pos := "l10_tax.go:192", after := #[{ on := 17, ground := Go.Ground.data }], guard := none }) (v := ?_) rfl (by kernel_rfl) (by kernel_rfl) (by kernel_rfl) (fun _ _ _ h => h) (Or.inl ⟨by rfl, ?_⟩) (by assumption) ?_
         rotate_left
         · (intro w hSw; (try dsimp only at hSw); go_simp <;> try with_reducible rfl)
         try simp only [Act.put, List.setIfInBounds_toArray, List.set_cons_zero, List.set_cons_succ]
         refine wpAnyH_take (i := 19) (oi := { dst := some 56, op := Go.Op.extract (Go.Operand.tmp 37) 1, type := 4, pos := "l10_tax.go:192", after := #[{ on := 17, ground := Go.Ground.data }, { on := 21, ground := Go.Ground.gcOnly Go.Departure.lateStores }], guard := none }) (v := ?_) rfl (by kernel_rfl) (by kernel_rfl) (by kernel_rfl) (fun _ _ _ h => h) (Or.inl ⟨by rfl, ?_⟩) (by assumption) ?_
         rotate_left
         · (intro w hSw; (try dsimp only at hSw); go_simp <;> try with_reducible rfl)
         try simp only [Act.put, List.setIfInBounds_toArray, List.set_cons_zero, List.set_cons_succ]
         refine wpAnyH_ready (rs := [21]) (by kernel_rfl) (by simp) ?_
         refine AllReadyH.cons (o := { dst := none, op := Go.Op.store 121 (Go.Operand.tmp 12) (Go.Operand.tmp 55), type := 0, pos := "l10_tax.go:192", after := #[{ on := 20, ground := Go.Ground.data }, { on := 18, ground := Go.Ground.data }, { on := 16, ground := Go.Ground.chain }, { on := 0, ground := Go.Ground.phase }, { on := 1, ground := Go.Ground.phase }, { on := 2, ground := Go.Ground.phase }, { on := 3, ground := Go.Ground.phase }, { on := 4, ground := Go.Ground.phase }, { on := 5, ground := Go.Ground.phase }, { on := 6, ground := Go.Ground.phase }, { on := 7, ground := Go.Ground.phase }, { on := 8, ground := Go.Ground.phase }, { on := 9, ground := Go.Ground.phase }, { on := 10, ground := Go.Ground.phase }, { on := 11, ground := Go.Ground.phase }, { on := 12, ground := Go.Ground.phase }, { on := 13, ground := Go.Ground.phase }, { on := 14, ground := Go.Ground.phase }, { on := 15, ground := Go.Ground.phase }, { on := 16, ground := Go.Ground.phase }, { on := 17, ground := Go.Ground.phase }, { on := 18, ground := Go.Ground.phase }, { on := 19, ground := Go.Ground.textOnly Go.Departure.lateStores }, { on := 20, ground := Go.Ground.phase }], guard := none }) rfl (fun K hK => ?_) (AllReadyH.nil)
         have HS : Hid (SB w1 wo q0 q1 q2 q3 kd nt g wi ib io k il ce (((w3.setCell ⟨wo.heap.size + 1, 0, none⟩ (.int .i64 B)).setCell ⟨wo.heap.size + 1, 1, none⟩ (.int .i64 T)).setCell ⟨wo.heap.size + 1, 2, none⟩ (.int .i64 G))) := ((SA.out.other 0 _ (by omega) hz1 hib).other 1 _ (by omega) hz1 hib).other 2 _ (by omega) hz1 hib
         have HL : Hid (CB (((w3.setCell ⟨wo.heap.size + 1, 0, none⟩ (.int .i64 B)).setCell ⟨wo.heap.size + 1, 1, none⟩ (.int .i64 T)).setCell ⟨wo.heap.size + 1, 2, none⟩ (.int .i64 G)) (wo.heap.size + 1) #[.int .i64 B, .int .i64 T, .int .i64 G] 121) := ((HC5.out.set 0 (.int .i64 B)).set 1 (.int .i64 T)).set 2 (.int .i64 G)
         go_simp
         first | refine hK.out _ _ (by exact HS.out.cells) (fun hHeld => ?_) | (go_wp2_with fail; refine hK.out _ _ (by exact HS.out.cells) (fun hHeld => ?_))
         clear hK K
         try simp only [Act.put, List.setIfInBounds_toArray, List.set_cons_zero, List.set_cons_succ]
         refine wpAnyH_take (i := 22) (oi := { dst := some 13, op := Go.Op.assign (Go.Operand.tmp 56), type := 4, pos := "l10_tax.go:192", after := #[{ on := 19, ground := Go.Ground.data }, { on := 21, ground := Go.Ground.chain }, { on := 0, ground := Go.Ground.phase }, { on := 1, ground := Go.Ground.phase }, { on := 2, ground := Go.Ground.phase }, { on := 3, ground := Go.Ground.phase }, { on := 4, ground := Go.Ground.phase }, { on := 5, ground := Go.Ground.phase }, { on := 6, ground := Go.Ground.phase }, { on := 7, ground := Go.Ground.phase }, { on := 8, ground := Go.Ground.phase }, { on := 9, ground := Go.Ground.phase }, { on := 10, ground := Go.Ground.phase }, { on := 11, ground := Go.Ground.phase }, { on := 12, ground := Go.Ground.phase }, { on := 13, ground := Go.Ground.phase }, { on := 14, ground := Go.Ground.phase }, { on := 15, ground := Go.Ground.phase }, { on := 16, ground := Go.Ground.phase }, { on := 17, ground := Go.Ground.phase }, { on := 18, ground := Go.Ground.phase }, { on := 19, ground := Go.Ground.phase }, { on := 20, ground := Go.Ground.phase }, { on := 21, ground := Go.Ground.phase }], guard := none }) (v := ?_) rfl (by kernel_rfl) (by kernel_rfl) (by kernel_rfl) (fun _ _ _ h => h) (Or.inl ⟨by rfl, ?_⟩) (by assumption) ?_
         rotate_left
         · (intro w hSw; (try dsimp only at hSw); go_simp <;> try with_reducible rfl)
         try simp only [Act.put, List.setIfInBounds_toArray, List.set_cons_zero, List.set_cons_succ]
         refine wpAnyH_done (by kernel_rfl) ?_ _
         refine NoPanic.normal ?_
         clear hHeld m0 m1 m2 f0 f1 f2
         have hLB : wo.heap.size < wo.heap.size + 1 ∧ w1.heap.size + 1 < wo.heap.size + 1 := ⟨by omega, hz1⟩
         clear SA SB0 HC5 hz1
         generalize (((w3.setCell ⟨wo.heap.size + 1, 0, none⟩ (.int .i64 B)).setCell ⟨wo.heap.size + 1, 1, none⟩ (.int .i64 T)).setCell ⟨wo.heap.size + 1, 2, none⟩ (.int .i64 G)) = W at HS HL ⊢
         generalize hLBe : wo.heap.size + 1 = LB at HL hLB ⊢
         clear hLBe
         have a0 := (HS.out.cr.cell 0).trans rfl
         have a4 := (HS.out.cr.cell 4).trans rfl
         have b1 := (HS.out.c2.cell 1).trans rfl
         have b2 := (HS.out.c2.cell 2).trans rfl
         have bf := HS.out.c2.fr 1
         have l0 := (HL.out.cell 0).trans rfl
         have l1 := (HL.out.cell 1).trans rfl
         have l2 := (HL.out.cell 2).trans rfl
         cases O
         · have HN : Hid (¬ BiP u il p) := hid (fun H => by have := H.2.1 k hlt; rw [HNT.out, HK.out, ← HG.out, HV4.out.2.2.2] at this; cases this)
           have hC0 : CB W w.heap.size #[.int .i64 0, .int .i64 0, .slice none 0 0] 30 := HC.out.below HS.out.bel HC.out.lt
           have k0 := (hC0.cell 0).trans rfl
           have k1 := (hC0.cell 1).trans rfl
           have k2 := (hC0.cell 2).trans rfl
           have f0 := hC0.fr 0
           have f1 := hC0.fr 1
           have f2 := hC0.fr 2
           have HC0 : Hid (CB W w.heap.size #[.int .i64 0, .int .i64 0, .slice none 0 0] 30) := hC0
           have HBW : Hid (Below w.heap.size w W) := bel_on HB1.out HS.out.bel
           clear hC0
           go_wp2
           have hX := ((HC0.out.set 0 (.int .i64 0)).set 1 (.int .i64 0)).set 2 (.slice none 0 0)
           have hZ := ((HBW.out.setCell (p := ⟨w.heap.size, 0, none⟩) (by simp) (.int .i64 0)).setCell (p := ⟨w.heap.size, 1, none⟩) (by simp) (.int .i64 0)).setCell (p := ⟨w.heap.size, 2, none⟩) (by simp) (.slice none 0 0)
           have e0 := hX.cell 0
           have e1 := hX.cell 1
           have e2 := hX.cell 2
           simp at e0 e1 e2
           clear hX k0 k1 k2 f0 f1 f2 a0 a4 b1 b2 bf l0 l1 l2
           generalize (World.setCell _ _ _) = W5 at e0 e1 e2 hZ ⊢
           refine bodyPost_ret (by simp [results, Try.results46, go_sem, e0, e1, e2]; try rfl) rfl ?_
           exact ⟨hZ, .inr ⟨HN.out, rfl⟩⟩
         · have hsz := HH.out.1
           obtain ⟨v0, d0⟩ : ∃ v, ce[k * 4]? = some v := ⟨ce[k * 4]'(by omega), Array.getElem?_eq_getElem (by omega)⟩
           obtain ⟨v1, d1⟩ : ∃ v, ce[k * 4 + 1]? = some v := ⟨ce[k * 4 + 1]'(by omega), Array.getElem?_eq_getElem (by omega)⟩
           obtain ⟨v2, d2⟩ : ∃ v, ce[k * 4 + 2]? = some v := ⟨ce[k * 4 + 2]'(by omega), Array.getElem?_eq_getElem (by omega)⟩
           obtain ⟨v3, d3⟩ : ∃ v, ce[k * 4 + 3]? = some v := ⟨ce[k * 4 + 3]'(by omega), Array.getElem?_eq_getElem (by omega)⟩
           have p0 := (HS.out.c1.cell (k * 4)).trans d0
           have p1 := (HS.out.c1.cell (k * 4 + 1)).trans d1
           have p2 := (HS.out.c1.cell (k * 4 + 2)).trans d2
           have p3 := (HS.out.c1.cell (k * 4 + 3)).trans d3
           have r0 := HS.out.c1.fr (k * 4)
           have r1 := HS.out.c1.fr (k * 4 + 1)
           have r2 := HS.out.c1.fr (k * 4 + 2)
           have r3 := HS.out.c1.fr (k * 4 + 3)
           have hgb : -9000000000000 ≤ g + G ∧ g + G ≤ 9000000000000 := by
             have q1 := gr_bd HU.out hm HP.out (k + 1) (by omega)
             rw [HNT.out] at q1
             have q2 : grV u nt (wiV u il p) (k + 1) = g + G := by
               show grV u nt (wiV u il p) k + lvG (u k) (grV u nt (wiV u il p) k) nt (wiV u il p k) = _
               rw [← HG.out, HK.out, HWI.out, HV4.out.2.2.1]
             rw [q2] at q1
             omega
           have HGG : Hid (g + G = grV u nt (wiV u il p) (k + 1)) := hid (by
             show _ = grV u nt (wiV u il p) k + lvG (u k) (grV u nt (wiV u il p) k) nt (wiV u il p k)
             rw [← HG.out, HK.out, HWI.out, HV4.out.2.2.1])
           have HPT : Hid (ptV u nt (wiV u il p) k = ⟨q0, kd, B, T⟩) := hid (by
             unfold ptV
             rw [← HG.out, HK.out, HWI.out, HV4.out.1, HV4.out.2.1])
           have HLO : Hid (∀ j, j < k + 1 → lvO (u j) (grV u nt (wiV u il p) j) nt = true) := hid (fun j hj => by
             by_cases e : j = k
             · subst e; rw [← HG.out, HK.out]; exact HV4.out.2.2.2
             · exact HH.out.2.2.1 j (by omega))
           go_wp2
           go_roundw
           case rel =>
             exact ⟨k + 1, _, g + G, by omega, by go_num, ((((HS.out.c1.set _ _).set _ _).set _ _).set _ _).other _ (by omega), ((((HS.out.c2.other _ (by omega)).other _ (by omega)).other _ (by omega)).other _ (by omega)).set 1 _, ⟨by simp [hsz], HH.out.2.1.step hsz hlt HPT.out, HLO.out, ((((HS.out.bel.setCell (Nat.le_refl _) _).setCell (Nat.le_refl _) _).setCell (Nat.le_refl _) _).setCell (Nat.le_refl _) _).setCell (by show w1.heap.size ≤ w1.heap.size + 1; omega) _⟩, HGG⟩
           case measure => simp [intOf]; omega
    · obtain rfl : k = il := by omega
      have lkk : ¬ (k : Int) < (k : Int) := by omega
      have g0 := (hC2.cell 0).trans rfl
      have g1 := (hC2.cell 1).trans rfl
      have g2 := (hC2.cell 2).trans rfl
      have hC0 : CB wo w.heap.size #[.int .i64 0, .int .i64 0, .slice none 0 0] 30 := HC.out.below HH.out.2.2.2 HC.out.lt
      have k0 := (hC0.cell 0).trans rfl
      have k1 := (hC0.cell 1).trans rfl
      have k2 := (hC0.cell 2).trans rfl
      have f0 := hC0.fr 0
      have f1 := hC0.fr 1
      have f2 := hC0.fr 2
      have HC0 : Hid (CB wo w.heap.size #[.int .i64 0, .int .i64 0, .slice none 0 0] 30) := hC0
      have HBW : Hid (Below w.heap.size w wo) := bel_on HB1.out HH.out.2.2.2
      have HC1 : Hid (CB wo w1.heap.size ce 34) := hC1
      have hne : w1.heap.size ≠ w.heap.size := by have := HC.out.lt; omega
      clear hC0 hC1 hC2
      cases hg : amt g
      · have HN : Hid (¬ BiP u k p) := hid (fun H => by have := H.2.2; rw [HNT.out, ← HG.out, hg] at this; cases this)
        go_wp2_with (go_at_call 83; refine (amount_any _ _).mono ?_; rintro e w4 ⟨rfl, rfl⟩; rw [hg])
        have hX := ((HC0.out.set 0 (.int .i64 0)).set 1 (.int .i64 0)).set 2 (.slice none 0 0)
        have hZ := ((HBW.out.setCell (p := ⟨w.heap.size, 0, none⟩) (by simp) (.int .i64 0)).setCell (p := ⟨w.heap.size, 1, none⟩) (by simp) (.int .i64 0)).setCell (p := ⟨w.heap.size, 2, none⟩) (by simp) (.slice none 0 0)
        have e0 := hX.cell 0
        have e1 := hX.cell 1
        have e2 := hX.cell 2
        simp at e0 e1 e2
        clear hX k0 k1 k2 f0 f1 f2 g0 g1 g2
        generalize (World.setCell _ _ _) = W5 at e0 e1 e2 hZ ⊢
        refine bodyPost_ret (by simp [results, Try.results46, go_sem, e0, e1, e2]; try rfl) rfl ?_
        exact ⟨hZ, .inr ⟨HN.out, rfl⟩⟩
      · have HBI : Hid (BiP u k p) := hid ⟨HP.out, by rw [HNT.out]; exact HH.out.2.2.1, by rw [HNT.out, ← HG.out]; exact hg⟩
        go_wp2_with (go_at_call 83; refine (amount_any _ _).mono ?_; rintro e w4 ⟨rfl, rfl⟩; rw [hg])
        have hX := ((HC0.out.set 0 (.int .i64 nt)).set 1 (.int .i64 g)).set 2 (.slice (some ⟨w1.heap.size, 0, none⟩) k k)
        have hY := ((HC1.out.other (o := 0) (.int .i64 nt) hne).other (o := 1) (.int .i64 g) hne).other (o := 2) (.slice (some ⟨w1.heap.size, 0, none⟩) k k) hne
        have hZ := ((HBW.out.setCell (p := ⟨w.heap.size, 0, none⟩) (by simp) (.int .i64 nt)).setCell (p := ⟨w.heap.size, 1, none⟩) (by simp) (.int .i64 g)).setCell (p := ⟨w.heap.size, 2, none⟩) (by simp) (.slice (some ⟨w1.heap.size, 0, none⟩) k k)
        have e0 := hX.cell 0
        have e1 := hX.cell 1
        have e2 := hX.cell 2
        simp at e0 e1 e2
        clear hX k0 k1 k2 f0 f1 f2 g0 g1 g2
        generalize (World.setCell _ _ _) = W5 at e0 e1 e2 hY hZ ⊢
        refine bodyPost_ret (by simp [results, Try.results46, go_sem, e0, e1, e2]; try rfl) rfl ?_
        exact ⟨hZ, .inl ⟨HBI.out, w1.heap.size, ce, by rw [HNT.out, ← HG.out], by have := HC.out.lt; omega, hY, HH.out.1, by rw [HNT.out]; exact HH.out.2.1⟩⟩
end Go.Proofs.Ytbhghghkgojpgaa
