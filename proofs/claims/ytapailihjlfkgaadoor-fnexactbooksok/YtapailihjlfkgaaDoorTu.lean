/- The new tree, the way up, in the program. -/
import Derived.Test.YtapailihjlfkgaaDoorTr
import Derived.Test.YtapailihjlfkgaaDoorSm
import Derived.Outline
import Derived.Deep.QuietTactic
import Derived.Deep.RegionWith
import Derived.Deep.RegionHeld3
import Derived.WalkSmall
namespace Go.Proofs.YtapailihjlfkgaaDoor
open Go.ChangeShapes Go.WideShapes Go.ChangeAt Go.RowKit
set_option linter.unusedVariables false
set_option linter.unusedSimpArgs false

theorem fits_eq (nb b : Nat) (pl p : Int) {v : Bool} (w : World) (h1 : w.cell? ⟨nb, 3, none⟩ = some (.int .i64 pl)) (h2 : w.cell? ⟨b, 1, none⟩ = some (.int .i64 p)) (hv : (pl == p) = v) :
    Calls Tryd.prog 125 #[.pointer (some ⟨nb, 0, none⟩), .pointer (some ⟨b, 0, none⟩)] w fun e w' => e = .returned (.bool v) ∧ ∃ q, w' = w.drewN q := by
  go_enter Tryd.func125, Tryd.ntmps125
  go_wp2
  go_quiet (fail)
  go_wp2
  go_returns
  exact ⟨rfl, _, rfl⟩

theorem isTop_eq (nb : Nat) (ad : Option Addr) {v : Bool} (w : World) (h1 : w.cell? ⟨nb, 5, none⟩ = some (.pointer ad)) (hv : ad.isNone = v) :
    Calls Tryd.prog 126 #[.pointer (some ⟨nb, 0, none⟩)] w fun e w' => e = .returned (.bool v) ∧ w' = w := by
  cases ad with
  | none =>
    subst hv
    go_enter Tryd.func126, Tryd.ntmps126
    go_wp2
    go_returns
    exact ⟨rfl, rfl⟩
  | some a =>
    subst hv
    go_enter Tryd.func126, Tryd.ntmps126
    go_wp2
    go_returns
    exact ⟨rfl, rfl⟩

def upV (N : Nat → Nat) (o : Option Nat) : Value := match o with | some t => .pointer (some ⟨N t, 0, none⟩) | none => .pointer none

theorem up_nil (fv : Value) (w : World) : Calls Tryd.prog 124 #[.pointer none, fv] w fun e w' => e = .returned (.pointer none) ∧ w' = w := by
  go_enter Tryd.func124, Tryd.ntmps124
  go_wp2
  go_returns
  exact ⟨rfl, rfl⟩

theorem atP_eq {p : Int} {s : Nat} {v : Bool} (h : atP p s = v) : (((s : Int) - 1) == p) = v := by
  subst h
  unfold atP
  rw [Bool.eq_iff_iff]; simp

section
variable {w : World} {base T mp n : Nat} {c : Nat → C3} {N : Nat → Nat} {S : Nat → Value} {ns : Value}
theorem TR.place (h : TR Tryd.prog w base T mp n c N S ns) {s : Nat} (hs : s ≤ n) : w.cell? ⟨N s, 3, none⟩ = some (.int .i64 ((s : Int) - 1)) := by
  rw [(h.node s hs).cell]
  cases s with
  | zero => rfl
  | succ i => simp only [nodeCs]; rw [show (((i + 1 : Nat) : Int) - 1) = (i : Int) by omega]; rfl
theorem TR.depth (h : TR Tryd.prog w base T mp n c N S ns) {s : Nat} (hs : s ≤ n) : w.cell? ⟨N s, 4, none⟩ = some (.int .i64 ((dep (par c) s : Int) - 1)) := by
  rw [(h.node s hs).cell]
  cases s with
  | zero => rw [dep_zero]; rfl
  | succ i => rfl
theorem TR.above0 (h : TR Tryd.prog w base T mp n c N S ns) : w.cell? ⟨N 0, 5, none⟩ = some (.pointer none) := by
  rw [(h.node 0 (Nat.zero_le _)).cell]; rfl
theorem TR.aboveS (h : TR Tryd.prog w base T mp n c N S ns) {i : Nat} (hs : i < n) : w.cell? ⟨N (i + 1), 5, none⟩ = some (.pointer (some ⟨N (par c i + 1).toNat, 0, none⟩)) := by
  rw [(h.node (i + 1) hs).cell]; rfl
theorem TR.kind (h : TR Tryd.prog w base T mp n c N S ns) {i : Nat} (hs : i < n) : w.cell? ⟨N (i + 1), 2, none⟩ = some (.int .i64 (c i).step) := by
  rw [(h.node (i + 1) hs).cell]; rfl
theorem TR.code (h : TR Tryd.prog w base T mp n c N S ns) {i : Nat} (hs : i < n) : w.cell? ⟨N (i + 1), 0, none⟩ = some (.string (c i).code) := by
  rw [(h.node (i + 1) hs).cell]; rfl
theorem TR.partsC (h : TR Tryd.prog w base T mp n c N S ns) {s : Nat} (hs : s ≤ n) : w.cell? ⟨N s, 6, none⟩ = some (S s) := by
  rw [(h.node s hs).cell]
  cases s <;> rfl
theorem TR.top0 (h : TR Tryd.prog w base T mp n c N S ns) : w.cell? ⟨T, 0, none⟩ = some (.pointer (some ⟨N n, 0, none⟩)) := by rw [h.top.cell]; rfl
theorem TR.top1 (h : TR Tryd.prog w base T mp n c N S ns) : w.cell? ⟨T, 1, none⟩ = some ns := by rw [h.top.cell]; rfl
theorem TR.top2 (h : TR Tryd.prog w base T mp n c N S ns) : w.cell? ⟨T, 2, none⟩ = some (.map (some mp)) := by rw [h.top.cell]; rfl
theorem TR.drewN (h : TR Tryd.prog w base T mp n c N S ns) (q : Nat) : TR Tryd.prog (w.drewN q) base T mp n c N S ns := h.keep (fun b hb => rfl)
end

theorem up_any (b : Nat) (p : Int) {base T mp n : Nat} {c : Nat → C3} {N : Nat → Nat} {S : Nat → Value} {ns : Value} (w : World) (h : TR Tryd.prog w base T mp n c N S ns) (L : Low (par c) n) (hb : w.cell? ⟨b, 1, none⟩ = some (.int .i64 p)) :
    ∀ s, s ≤ n → ∀ q, Calls Tryd.prog 124 #[.pointer (some ⟨N s, 0, none⟩), .func (Fn.func 125) #[] #[.pointer (some ⟨b, 0, none⟩)]] (w.drewN q) fun e w' => e = .returned (upV N (upW (par c) (atP p) s)) ∧ ∃ q', w' = w.drewN q' := by
  intro s
  induction s using Nat.strongRecOn with
  | _ s ih =>
    intro hs q
    have c1 := (h.drewN q).place hs
    have c2 : (w.drewN q).cell? ⟨b, 1, none⟩ = some (.int .i64 p) := hb
    cases hv : atP p s with
    | true =>
      have hv2 := atP_eq hv
      have HU : Hid (upW (par c) (atP p) s = some s) := upW_hit hv
      clear h hb hv
      go_enter Tryd.func124, Tryd.ntmps124
      go_wp2_with (go_at_call 125; refine (fits_eq (N s) b _ _ (w.drewN q) c1 c2 hv2).mono ?_; rintro e w1 ⟨rfl, q1, rfl⟩)
      go_returns
      rw [HU.out]
      exact ⟨rfl, q + q1, rfl⟩
    | false =>
      have hv2 := atP_eq hv
      cases s with
      | zero =>
        have HU : Hid (upW (par c) (atP p) 0 = none) := upW_top hv
        have c3 := h.above0
        clear h hb hv
        go_enter Tryd.func124, Tryd.ntmps124
        go_wp2_with (first
          | (go_at_call 125; refine (fits_eq (N 0) b _ _ (w.drewN q) c1 c2 hv2).mono ?_; rintro e w1 ⟨rfl, q1, rfl⟩)
          | (go_at_call 124; refine (up_nil _ _).mono ?_; rintro e w1 ⟨rfl, rfl⟩))
        go_returns
        rw [HU.out]
        exact ⟨rfl, q + q1, rfl⟩
      | succ i =>
        have hi : i < n := by omega
        have HU : Hid (upW (par c) (atP p) (i + 1) = upW (par c) (atP p) (par c i + 1).toNat) := upW_step L hi hv
        have c3 := h.aboveS hi
        have hl := L i hi
        have ih2 := ih (par c i + 1).toNat (by omega) (by omega)
        have HI : Hid (∀ q, Calls Tryd.prog 124 #[.pointer (some ⟨N (par c i + 1).toNat, 0, none⟩), .func (Fn.func 125) #[] #[.pointer (some ⟨b, 0, none⟩)]] (w.drewN q) fun e w' => e = .returned (upV N (upW (par c) (atP p) (par c i + 1).toNat)) ∧ ∃ q', w' = w.drewN q') := ih2
        clear h hb hv ih ih2 hl L
        generalize upW (par c) (atP p) (par c i + 1).toNat = U at HU HI
        generalize (par c i + 1).toNat = t at c3 HI
        go_enter Tryd.func124, Tryd.ntmps124
        go_wp2_with (first
          | (go_at_call 125; refine (fits_eq (N (i + 1)) b _ _ (w.drewN q) c1 c2 hv2).mono ?_; rintro e w1 ⟨rfl, q1, rfl⟩)
          | (go_at_call 124; refine (HI.out (q + q1)).mono ?_; rintro e w1 ⟨rfl, q2, rfl⟩))
        go_returns
        rw [HU.out]
        exact ⟨rfl, q2, rfl⟩

theorem newTree_any (c : Nat → C3) (w : World) :
    Calls Tryd.prog 99 #[] w fun e w' => e = .returned (.pointer (some ⟨w.heap.size + 2, 0, none⟩)) ∧ TR Tryd.prog w' w.heap.size (w.heap.size + 2) (w.heap.size + 1) 0 c (fun _ => w.heap.size) (fun _ => nilS) nilS ∧ Below w.heap.size w w' := by
  have hmm := @run_makeMap Tryd.prog
  go_enter Tryd.func99, Tryd.ntmps99
  go_wp2
  go_returns
  have C1 := (CB.new (w := w) #[.string ⟨#[]⟩, .int .i64 0, .int .i64 0, .int .i64 (-1), .int .i64 (-1), .pointer none, .slice none 0 0] 182)
  have M1 := MT.made Tryd.prog 9 (.pointer none) (w.alloc (.cells #[.string ⟨#[]⟩, .int .i64 0, .int .i64 0, .int .i64 (-1), .int .i64 (-1), .pointer none, .slice none 0 0] 182))
  refine ⟨rfl, ⟨?_, fun s hs => ?_, fun s t h1 h2 _ => by omega, ⟨by omega, by omega, fun s hs => Nat.le_refl _⟩, World.ownsRow_nil _ _ _ _, fun s hs => World.ownsRow_nil _ _ _ _, fun s t h1 h2 hne => by omega, fun s hs => .inl rfl, ?_⟩, ?_⟩
  · exact CB.newAt (by simp) _ _
  · obtain rfl : s = 0 := by omega
    exact (C1.alloc _).alloc _
  · have := M1.kept (World.grownBy_alloc _ (.cells #[.pointer (some ⟨w.heap.size, 0, none⟩), .slice none 0 0, .map (some (w.heap.size + 1))] 185) none) (by simp)
    exact (show (w.alloc (.cells #[.string ⟨#[]⟩, .int .i64 0, .int .i64 0, .int .i64 (-1), .int .i64 (-1), .pointer none, .slice none 0 0] 182)).heap.size = w.heap.size + 1 by simp) ▸ this
  · exact (((Below.refl _ _).alloc (Nat.le_refl _) _).alloc (by simp) _).alloc (by simp; omega) _

end Go.Proofs.YtapailihjlfkgaaDoor
