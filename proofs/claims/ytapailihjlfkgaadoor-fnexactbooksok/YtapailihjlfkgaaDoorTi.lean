/- What is asked of the tree, in the program: whether it is right, where a code stands, an account by its place, whether it is a leaf. -/
import Derived.Test.YtapailihjlfkgaaDoorTo
namespace Go.Proofs.YtapailihjlfkgaaDoor
open Go.ChangeShapes Go.WideShapes Go.ChangeAt Go.RowKit
set_option linter.unusedVariables false
set_option linter.unusedSimpArgs false

section
variable {base T mp n : Nat} {c : Nat → C3} {N : Nat → Nat} {S : Nat → Value} {ns : Value}
theorem isRight_any (w : World) (h : TR Tryd.prog w base T mp n c N S ns) (hn : n ≤ 120) {v : Bool} (hv : decide (0 < (n : Int)) = v) :
    Calls Tryd.prog 101 #[.pointer (some ⟨T, 0, none⟩)] w fun e w' => e = .returned (.bool v) ∧ w' = w := by
  obtain ⟨adn, capn, rfl⟩ := row_form h.nodes
  have t1 := h.top1
  clear h
  go_enter Tryd.func101, Tryd.ntmps101
  go_wp2
  go_returns
  exact ⟨ret_bool (by rw [← hv]; simp), rfl⟩

def findI (c : Nat → C3) (n : Nat) (x : ByteArray) : Int := match codeAt c n x with | some i => (i : Int) | none => -1

theorem at_in (i : Nat) (w : World) (h : TR Tryd.prog w base T mp n c N S ns) (hn : n ≤ 120) (hi : i < n) :
    Calls Tryd.prog 128 #[.pointer (some ⟨T, 0, none⟩), .int .i64 (i : Int)] w fun e w' => e = .returned (.tuple #[.pointer (some ⟨N (i + 1), 0, none⟩), .bool true]) ∧ w' = w := by
  obtain ⟨g, cap, rfl, _, _, hc⟩ := row_get h.nodes hi
  have t1 := h.top1
  have e1 : w.cell? ⟨g, i, none⟩ = some (.pointer (some ⟨N (i + 1), 0, none⟩)) := by rw [hc i hi]; simp [ptrs, hi, pn]
  have h1 : (i : Int) < (n : Int) := by omega
  clear h hc
  go_enter Tryd.func128, Tryd.ntmps128
  go_wp2
  go_returns
  exact ⟨rfl, rfl⟩
theorem at_out (x : Int) (w : World) (h : TR Tryd.prog w base T mp n c N S ns) (hn : n ≤ 120) (hx : ¬ (0 ≤ x ∧ x < (n : Int))) :
    Calls Tryd.prog 128 #[.pointer (some ⟨T, 0, none⟩), .int .i64 x] w fun e w' => e = .returned (.tuple #[.pointer none, .bool false]) ∧ w' = w := by
  obtain ⟨adn, capn, rfl⟩ := row_form h.nodes
  have t1 := h.top1
  clear h
  by_cases h1 : x < 0
  · have d1 : decide (x < 0) = true := decide_eq_true h1
    go_enter Tryd.func128, Tryd.ntmps128
    go_wp2
    go_returns
    exact ⟨rfl, rfl⟩
  · have d1 : decide (x < 0) = false := decide_eq_false h1
    have d2 : (n : Int) ≤ x := by omega
    go_enter Tryd.func128, Tryd.ntmps128
    go_wp2
    go_returns
    exact ⟨rfl, rfl⟩

theorem isLeaf_in (i : Nat) (w : World) (h : TR Tryd.prog w base T mp n c N S ns) (hn : n ≤ 120) (hi : i < n) {v : Bool} (hv : (((chL (par c) n (i + 1)).length : Int) == 0) = v) :
    Calls Tryd.prog 108 #[.pointer (some ⟨T, 0, none⟩), .int .i64 (i : Int)] w fun e w' => e = .returned (.bool v) ∧ w' = w := by
  have HT : Hid (TR Tryd.prog w base T mp n c N S ns) := h
  have p6 := h.partsC (by omega : i + 1 ≤ n)
  obtain ⟨ad, cp, hS⟩ := row_form (h.parts (i + 1) (by omega))
  rw [hS] at p6
  have hlen := chL_len (par c) n (i + 1)
  generalize (chL (par c) n (i + 1)).length = m at hv p6 hlen
  have hm : (m : Int) ≤ 120 := by omega
  clear h hS hlen
  go_enter Tryd.func108, Tryd.ntmps108
  go_wp2_with (go_at_call 128; refine (at_in i w HT.out hn hi).mono ?_; rintro e w' ⟨rfl, rfl⟩)
  go_returns
  exact ⟨ret_bool (by rw [← hv]), rfl⟩
theorem isLeaf_out (x : Int) (w : World) (h : TR Tryd.prog w base T mp n c N S ns) (hn : n ≤ 120) (hx : ¬ (0 ≤ x ∧ x < (n : Int))) :
    Calls Tryd.prog 108 #[.pointer (some ⟨T, 0, none⟩), .int .i64 x] w fun e w' => e = .returned (.bool false) ∧ w' = w := by
  have HT : Hid (TR Tryd.prog w base T mp n c N S ns) := h
  clear h
  go_enter Tryd.func108, Tryd.ntmps108
  go_wp2_with (go_at_call 128; refine (at_out x w HT.out hn hx).mono ?_; rintro e w' ⟨rfl, rfl⟩)
  go_returns
  exact ⟨rfl, rfl⟩
end

theorem tn_pos {len : Nat} {c : Nat → C3} : decide (0 < ((tn len c : Nat) : Int)) = chartB len c := by
  unfold tn
  cases h : chartB len c
  · simp
  · have := (chartB_iff.1 h).1
    simp; omega

section
variable (ad : Option Addr) (len cap : Nat) (c : Nat → C3) (w : World) (hl : (len : Int) ≤ 1048576) (hc : ∀ j, (c j).code.size ≤ maxLen) (hr : CR w ad len c) (hE : EL w)
include hl hc hr hE
end

end Go.Proofs.YtapailihjlfkgaaDoor
