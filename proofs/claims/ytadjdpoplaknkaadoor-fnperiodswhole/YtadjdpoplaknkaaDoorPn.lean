/- Periods of the program and of the model, parted by whether there are such. -/
import Derived.Test.YtadjdpoplaknkaaDoorPm
namespace Go.Proofs.YtadjdpoplaknkaaDoor
open Go.ChangeShapes Go.WideShapes Go.ChangeAt Go.RowKit
set_option linter.unusedVariables false
set_option linter.unusedSimpArgs false

/-- A row of the periods, an own one. -/
def Row (kind first : Int) (n : Nat) (b : Nat) (w : World) : Prop :=
  (∃ cs, CB w b cs 38 ∧ n * 2 ≤ cs.size) ∧ PR w (some ⟨b, 0, none⟩) n (fst kind first) (lst kind first)

theorem Row.lt {kind first : Int} {n b : Nat} {w : World} (h : Row kind first n b w) : b < w.heap.size := by
  obtain ⟨⟨cs, hC, _⟩, _⟩ := h; exact hC.lt

theorem Row.below {kind first : Int} {n b B : Nat} {w w' : World} (h : Row kind first n b w) (t : Below B w w') (hb : b < B) : Row kind first n b w' := by
  obtain ⟨⟨cs, hC, hs⟩, hP⟩ := h
  refine ⟨⟨cs, hC.below t hb, hs⟩, ?_⟩
  rcases hP with h0 | ⟨k, off, e, hk, hc⟩
  · exact .inl h0
  · simp only [Option.some.injEq, Addr.mk.injEq] at e
    obtain ⟨rfl, rfl, _⟩ := e
    refine .inr ⟨b, 0, rfl, Nat.lt_of_lt_of_le hk t.size, fun j hj => ?_⟩
    have e : ∀ o, w'.cell? ⟨b, o, none⟩ = w.cell? ⟨b, o, none⟩ := fun o => World.cell?_of_block (w := w) (t.block b hb)
    rw [e, e]; exact hc j hj

theorem pers_row {kind first : Int} {n : Nat} {v : Value} {w w' : World} (hp : perOk kind first (n : Int)) (h : Pers kind first (n : Int) v w w') :
    ∃ b cap, v = .slice (some ⟨b, 0, none⟩) n cap ∧ w.heap.size ≤ b ∧ Row kind first n b w' := by
  rcases h with ⟨_, b, m, cap, cs, hm, rfl, hb, hC, hs, hcs⟩ | ⟨hn, _⟩
  · obtain rfl : m = n := by omega
    exact ⟨b, cap, rfl, hb, ⟨cs, hC, hs⟩, PR.of_block hC m _ _ hcs⟩
  · exact absurd hp hn

theorem specPeriods_p (kind first : Int) (n : Nat) (w : World) (hp : perOk kind first (n : Int)) :
    Calls Tryd.prog 22 #[.int .i64 kind, .int .i64 first, .int .i64 (n : Int)] w fun e w' => ∃ b cap, e = .returned (.slice (some ⟨b, 0, none⟩) n cap) ∧ w.heap.size ≤ b ∧ Row kind first n b w' ∧ Below w.heap.size w w' := by
  refine (specPeriods_any kind first n w).mono ?_
  rintro e w' ⟨v, rfl, h, hb⟩
  obtain ⟨b, cap, rfl, h1, h2⟩ := pers_row hp h
  exact ⟨b, cap, rfl, h1, h2, hb⟩
theorem implPeriods_p (kind first : Int) (n : Nat) (w : World) (ht : ML w) (hq : QL w) (hp : perOk kind first (n : Int)) :
    Calls Tryd.prog 21 #[.int .i64 kind, .int .i64 first, .int .i64 (n : Int)] w fun e w' => ∃ b cap, e = .returned (.slice (some ⟨b, 0, none⟩) n cap) ∧ w.heap.size ≤ b ∧ Row kind first n b w' ∧ Below w.heap.size w w' := by
  refine (implPeriods_any kind first n w ht hq).mono ?_
  rintro e w' ⟨v, rfl, h, hb⟩
  obtain ⟨b, cap, rfl, h1, h2⟩ := pers_row hp h
  exact ⟨b, cap, rfl, h1, h2, hb⟩
theorem specPeriods_n (kind first count : Int) (w : World) (hp : ¬ perOk kind first count) :
    Calls Tryd.prog 22 #[.int .i64 kind, .int .i64 first, .int .i64 count] w fun e w' => ∃ ad cap, e = .returned (.slice ad 0 cap) ∧ Below w.heap.size w w' := by
  refine (specPeriods_any kind first count w).mono ?_
  rintro e w' ⟨v, rfl, h, hb⟩
  rcases h with ⟨h, _⟩ | ⟨_, ad, cap, rfl⟩
  · exact absurd h hp
  · exact ⟨ad, cap, rfl, hb⟩
theorem implPeriods_n (kind first count : Int) (w : World) (ht : ML w) (hq : QL w) (hp : ¬ perOk kind first count) :
    Calls Tryd.prog 21 #[.int .i64 kind, .int .i64 first, .int .i64 count] w fun e w' => ∃ ad cap, e = .returned (.slice ad 0 cap) ∧ Below w.heap.size w w' := by
  refine (implPeriods_any kind first count w ht hq).mono ?_
  rintro e w' ⟨v, rfl, h, hb⟩
  rcases h with ⟨h, _⟩ | ⟨_, ad, cap, rfl⟩
  · exact absurd h hp
  · exact ⟨ad, cap, rfl, hb⟩

theorem Marked.below {b n B : Nat} {w w' : World} (h : Marked w b n) (t : Below B w w') (hb : b < B) : Marked w' b n := by
  obtain ⟨cs, hC, h⟩ := h
  exact ⟨cs, hC.below t hb, h⟩

end Go.Proofs.YtadjdpoplaknkaaDoor
