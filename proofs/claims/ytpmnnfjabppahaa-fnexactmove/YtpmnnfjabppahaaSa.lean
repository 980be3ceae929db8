/- Picks done one by one, plain (eaS, eaT); a row of cells of which one is changed. -/
import Derived.Test.YtpmnnfjabppahaaCr
import Derived.Test.YtpmnnfjabppahaaCn
import Derived.Test.YtpmnnfjabppahaaPk
namespace Go.Proofs.Ytpmnnfjabppahaa
open Go Go.ChangeShapes Go.WideShapes Go.ChangeAt Go.RowKit
set_option linter.unusedVariables false
set_option linter.unusedSimpArgs false

theorem CB.not {w : World} {b : Nat} {cs ds : Array Value} {t u : TypeId} (h : CB w b cs t) (htu : t ≠ u) : ¬ CB w b ds u := fun h2 => by
  unfold CB at h h2; rw [h] at h2; simp only [Option.some.injEq, Obj.cells.injEq] at h2; exact htu h2.2.1
theorem CB.ne_ty {w : World} {b d : Nat} {cs ds : Array Value} {t u : TypeId} (h : CB w b cs t) (h2 : CB w d ds u) (htu : t ≠ u) : b ≠ d := fun e => by subst e; exact h.not htu h2
/-- Is a cell short of what is picked? -/
def shB (ship : Bool) (x : CE6) (q : Int) : Bool := if ship = true then decide (x.hld < q) else decide (x.qty - x.hld < q)
def stC (ship : Bool) (x : CE6) (q : Int) : CE6 := if ship = true then ⟨x.item, x.place, x.lot, x.exp, x.qty - q, x.hld - q⟩ else ⟨x.item, x.place, x.lot, x.exp, x.qty, x.hld + q⟩
def putC (c : Nat → CE6) (i : Nat) (x : CE6) (j : Nat) : CE6 := if j = i then x else c j
/-- What one pick is told: 0, or what is wrong. -/
def cdP (ship : Bool) (n : Nat) (d : Nat → CE6) (p : PK2) : Int :=
  if inB p.at_ 0 ((n : Int) - 1) = true ∧ inB p.qty 1 1000000 = true then (if shB ship (d p.at_.toNat) p.qty = true then 3 else 0) else 2
def eaS (ship : Bool) (c : Nat → CE6) (pk : Nat → PK2) : Nat → Nat → CE6
  | 0 => c
  | k + 1 => putC (eaS ship c pk k) (pk k).at_.toNat (stC ship (eaS ship c pk k (pk k).at_.toNat) (pk k).qty)
def eaT (ship : Bool) (n : Nat) (c : Nat → CE6) (pk : Nat → PK2) : Nat → Int
  | 0 => 0
  | k + 1 => if eaT ship n c pk k = 0 then cdP ship n (eaS ship c pk k) (pk k) else eaT ship n c pk k
section
variable {ship : Bool} {n : Nat} {c : Nat → CE6} {pk : Nat → PK2}
theorem eaT_stop : ∀ {m k : Nat}, k ≤ m → eaT ship n c pk k ≠ 0 → eaT ship n c pk m = eaT ship n c pk k
  | 0, k, h, _ => by obtain rfl : k = 0 := by omega
                     rfl
  | m + 1, k, h, hk => by
    rcases Nat.lt_or_ge m k with g | g
    · obtain rfl : k = m + 1 := by omega
      rfl
    · have e := eaT_stop (m := m) g hk
      simp only [eaT]
      rw [if_neg (by rw [e]; exact hk), e]
theorem cdP_0 {d : Nat → CE6} {p : PK2} (h : cdP ship n d p = 0) : inB p.at_ 0 ((n : Int) - 1) = true ∧ inB p.qty 1 1000000 = true ∧ shB ship (d p.at_.toNat) p.qty = false := by
  unfold cdP at h
  split at h
  · next g =>
    refine ⟨g.1, g.2, ?_⟩
    split at h
    · omega
    · next k => simpa using k
  · omega
/-- The numbers of cells that are right. -/
def CeN (n : Nat) (d : Nat → CE6) : Prop := ∀ j, j < n → (0 ≤ (d j).hld ∧ (d j).hld ≤ (d j).qty) ∧ (0 ≤ (d j).qty ∧ (d j).qty ≤ 1000000)
theorem ceN_of (h : CsP n c) : CeN n c := fun j hj => by
  obtain ⟨_, _, _, _, h5, h6⟩ := ceB_p (h.2 j hj)
  exact ⟨h6, h5⟩
theorem ceN_put {d : Nat → CE6} {p : PK2} (h : CeN n d) (h0 : cdP ship n d p = 0) : CeN n (putC d p.at_.toNat (stC ship (d p.at_.toNat) p.qty)) := fun j hj => by
  obtain ⟨h1, h2, h3⟩ := cdP_0 h0
  have b1 := inB_t h1
  have b2 := inB_t h2
  unfold putC
  by_cases e : j = p.at_.toNat
  · rw [if_pos e]
    have hx := h p.at_.toNat (by omega)
    unfold stC shB at *
    cases ship
    · simp at h3 ⊢; omega
    · simp at h3 ⊢; omega
  · rw [if_neg e]; exact h j hj
theorem eaS_ok (h : CeN n c) : ∀ k, eaT ship n c pk k = 0 → CeN n (eaS ship c pk k)
  | 0, _ => h
  | k + 1, h0 => by
    have e : eaT ship n c pk k = 0 := by
      by_cases g : eaT ship n c pk k = 0
      · exact g
      · simp only [eaT] at h0; rw [if_neg g] at h0; exact absurd h0 g
    simp only [eaT] at h0
    rw [if_pos e] at h0
    exact ceN_put (eaS_ok h k e) h0
end
/-- What picks leave and tell. -/
noncomputable def eaV (ship : Bool) (n : Nat) (c : Nat → CE6) (m : Nat) (pk : Nat → PK2) : Int := if stB n c = true then (if m ≤ 100 then eaT ship n c pk m else 2) else 1
noncomputable def eaM (n : Nat) (c : Nat → CE6) : Nat := if stB n c = true then n else 0
noncomputable def eaC (ship : Bool) (n : Nat) (c : Nat → CE6) (m : Nat) (pk : Nat → PK2) : Nat → CE6 := if eaV ship n c m pk = 0 then eaS ship c pk m else c

/-- A row of cells in block g. -/
def RO (w : World) (g n : Nat) (c : Nat → CE6) : Prop := ∃ cs, CB w g cs 28 ∧ n * 6 ≤ cs.size ∧ ∀ j, j < n → cs[j * 6]? = some (.string (c j).item) ∧ cs[j * 6 + 1]? = some (.string (c j).place) ∧ cs[j * 6 + 2]? = some (.string (c j).lot) ∧ cs[j * 6 + 3]? = some (.int .i64 (c j).exp) ∧ cs[j * 6 + 4]? = some (.int .i64 (c j).qty) ∧ cs[j * 6 + 5]? = some (.int .i64 (c j).hld)
section
variable {w w' : World} {g n : Nat} {c : Nat → CE6}
theorem RO.lt (h : RO w g n c) : g < w.heap.size := by obtain ⟨cs, q, _⟩ := h; exact q.lt
theorem RO.below (h : RO w g n c) (b : Below w.heap.size w w') : RO w' g n c := by obtain ⟨cs, q, r⟩ := h; exact ⟨cs, q.below b q.lt, r⟩
theorem RO.other (h : RO w g n c) {b o : Nat} (v : Value) (hb : g ≠ b) : RO (w.setCell ⟨b, o, none⟩ v) g n c := by obtain ⟨cs, q, r⟩ := h; exact ⟨cs, q.other _ hb, r⟩
theorem RO.fr (h : RO w g n c) (x : Nat) : w.frozen? ⟨g, x, none⟩ = false := by obtain ⟨cs, q, _⟩ := h; exact q.fr x
theorem RO.el (h : RO w g n c) {i : Nat} (hi : i < n) : w.cell? ⟨g, i * 6, none⟩ = some (.string (c i).item) ∧ w.cell? ⟨g, i * 6 + 1, none⟩ = some (.string (c i).place) ∧ w.cell? ⟨g, i * 6 + 2, none⟩ = some (.string (c i).lot) ∧ w.cell? ⟨g, i * 6 + 3, none⟩ = some (.int .i64 (c i).exp) ∧ w.cell? ⟨g, i * 6 + 4, none⟩ = some (.int .i64 (c i).qty) ∧ w.cell? ⟨g, i * 6 + 5, none⟩ = some (.int .i64 (c i).hld) := by
  obtain ⟨cs, q, _, r⟩ := h
  obtain ⟨r0, r1, r2, r3, r4, r5⟩ := r i hi
  exact ⟨(q.cell _).trans r0, (q.cell _).trans r1, (q.cell _).trans r2, (q.cell _).trans r3, (q.cell _).trans r4, (q.cell _).trans r5⟩
theorem RO.own (h : RO w g n c) {lo : Nat} (hl : lo ≤ g) : OwnCE6 w lo (some ⟨g, 0, none⟩) n c := by obtain ⟨cs, q, q2, r⟩ := h; exact .inr ⟨g, cs, rfl, hl, q, q2, r⟩
theorem RO.set5 (h : RO w g n c) {i : Nat} (hi : i < n) (v : Int) : RO (w.setCell ⟨g, i * 6 + 5, none⟩ (.int .i64 v)) g n (putC c i ⟨(c i).item, (c i).place, (c i).lot, (c i).exp, (c i).qty, v⟩) := by
  obtain ⟨cs, q, q2, r⟩ := h
  refine ⟨_, q.set _ _, by simpa using q2, fun j hj => ?_⟩
  obtain ⟨r0, r1, r2, r3, r4, r5⟩ := r j hj
  unfold putC
  by_cases e : j = i
  · subst e
    rw [if_pos rfl]
    refine ⟨?_, ?_, ?_, ?_, ?_, by rw [get_set_eq (by omega)]⟩ <;> (rw [get_set_ne (by omega)]; assumption)
  · rw [if_neg e]
    refine ⟨?_, ?_, ?_, ?_, ?_, ?_⟩ <;> (rw [get_set_ne (by omega)]; assumption)
theorem RO.set4 (h : RO w g n c) {i : Nat} (hi : i < n) (v : Int) : RO (w.setCell ⟨g, i * 6 + 4, none⟩ (.int .i64 v)) g n (putC c i ⟨(c i).item, (c i).place, (c i).lot, (c i).exp, v, (c i).hld⟩) := by
  obtain ⟨cs, q, q2, r⟩ := h
  refine ⟨_, q.set _ _, by simpa using q2, fun j hj => ?_⟩
  obtain ⟨r0, r1, r2, r3, r4, r5⟩ := r j hj
  unfold putC
  by_cases e : j = i
  · subst e
    rw [if_pos rfl]
    refine ⟨?_, ?_, ?_, ?_, by rw [get_set_eq (by omega)], ?_⟩ <;> (rw [get_set_ne (by omega)]; assumption)
  · rw [if_neg e]
    refine ⟨?_, ?_, ?_, ?_, ?_, ?_⟩ <;> (rw [get_set_ne (by omega)]; assumption)
theorem RO.congr (h : RO w g n c) {d : Nat → CE6} (e : ∀ j, j < n → c j = d j) : RO w g n d := by
  obtain ⟨cs, q, q2, r⟩ := h
  exact ⟨cs, q, q2, fun j hj => by rw [← e j hj]; exact r j hj⟩
end
theorem own_ro {w : World} {lo n : Nat} {ad : Option Addr} {c : Nat → CE6} (h : OwnCE6 w lo ad n c) (hn : 0 < n) : ∃ g, ad = some ⟨g, 0, none⟩ ∧ lo ≤ g ∧ RO w g n c := by
  rcases h with q | ⟨g, cs, e, h0, h1, h2⟩
  · omega
  · exact ⟨g, e, h0, cs, h1, h2⟩
end Go.Proofs.Ytpmnnfjabppahaa
