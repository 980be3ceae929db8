/- TaxOf on both sides in one form, and marks over what the program tells. -/
import Derived.Test.YtbhghghkgojpgaaTt
import Derived.Test.YtbhghghkgojpgaaTs
import Derived.Test.YtbhghghkgojpgaaTv
import Derived.Test.YtbhghghkgojpgaaTn
namespace Go.Proofs.Ytbhghghkgojpgaa
open Go Go.ChangeShapes Go.WideShapes Go.ChangeAt Go.RowKit
set_option linter.unusedVariables false
set_option linter.unusedSimpArgs false

/-- A bill: Net, Gross, how many parts, the parts, and whether there is one. -/
structure BL where
  nt : Int
  gr : Int
  l : Nat
  bo : Bool
  pt : Nat → P4
open Classical in
noncomputable def blV (n : Nat) (c : Nat → T5) (m : Nat) (cs : Nat → ByteArray) (f : Nat) (fs : Nat → ByteArray) (p d : Int) : BL :=
  if TaxP n c m cs f fs p d then ⟨netV (usR n c cs f fs d) m p, grV (usR n c cs f fs d) (netV (usR n c cs f fs d) m p) (wiV (usR n c cs f fs d) m p) m, m, true, ptV (usR n c cs f fs d) (netV (usR n c cs f fs d) m p) (wiV (usR n c cs f fs d) m p)⟩
  else ⟨0, 0, 0, false, fun _ => ⟨ByteArray.empty, 0, 0, 0⟩⟩
theorem blV_l (n : Nat) (c : Nat → T5) (m : Nat) (cs : Nat → ByteArray) (f : Nat) (fs : Nat → ByteArray) (p d : Int) : ((blV n c m cs f fs p d).l : Int) ≤ 6 := by
  unfold blV
  split
  · rename_i h; have := h.2.1; simp only; omega
  · simp

/-- The parts that the program tells lie in a block of their own. -/
def GA (w : World) (base : Nat) (ga : Option Addr) (l : Nat) (pt : Nat → P4) : Prop :=
  (l = 0 ∧ ga = none) ∨ ∃ pb ce, ga = some ⟨pb, 0, none⟩ ∧ base ≤ pb ∧ CB w pb ce 34 ∧ ce.size = l * 4 ∧ C4 ce l pt
theorem GA.row {w : World} {base l : Nat} {ga : Option Addr} {pt : Nat → P4} (h : GA w base ga l pt) : PRow w ga l pt := by
  rcases h with ⟨rfl, _⟩ | ⟨pb, ce, rfl, _, h1, _, h3⟩
  · exact .inl rfl
  · exact PRow.of_block h1 l pt h3
theorem GA.keep {w w' : World} {base l : Nat} {ga : Option Addr} {pt : Nat → P4} (h : GA w base ga l pt) (hk : ∀ y, y < w.heap.size → base ≤ y → w'.heap[y]? = w.heap[y]?) : GA w' base ga l pt := by
  rcases h with h | ⟨pb, ce, h0, hb, h1, h2, h3⟩
  · exact .inl h
  · refine .inr ⟨pb, ce, h0, hb, ?_, h2, h3⟩
    have := hk pb h1.lt hb
    unfold CB at h1 ⊢
    rw [this]; exact h1
theorem GA.below {w w' : World} {base l : Nat} {ga : Option Addr} {pt : Nat → P4} (h : GA w base ga l pt) (b : Below w.heap.size w w') : GA w' base ga l pt := h.keep (fun y hy _ => b.block y hy)

theorem specTax_uni (ad : Option Addr) (n cap : Nat) (c : Nat → T5) (ca : Option Addr) (m ccap : Nat) (cs : Nat → ByteArray) (fa : Option Addr) (f fcap : Nat) (fs : Nat → ByteArray) (p d : Int) (B : BL) (w : World) (hB : blV n c m cs f fs p d = B) (hn : (n : Int) ≤ 1048576) (hm : (m : Int) ≤ 1048576) (hf : (f : Int) ≤ 1048576) (hs : ∀ j, (c j).code.size ≤ maxLen) (hcc : m ≤ ccap) (hr : TR w ad n c) (hc : STR w ca m cs) (hfr : STR w fa f fs) :
    Calls Try.prog 11 #[.slice ad n cap, .slice ca m ccap, .slice fa f fcap, .int .i64 p, .int .i64 d] w fun e w' => ∃ pa pc, e = .returned (.tuple #[bV B.nt B.gr pa B.l pc, .bool B.bo]) ∧ PRow w' pa B.l B.pt ∧ Below w.heap.size w w' := by
  refine (specTax_any ad n cap c ca m ccap cs fa f fcap fs p d w hn hm hf hs hcc hr hc hfr).mono ?_
  rintro e w' ⟨b, ⟨hT, pa, pc, rfl, hp⟩ | ⟨hT, rfl⟩⟩
  · unfold blV at hB; rw [if_pos hT] at hB; subst hB
    exact ⟨pa, pc, rfl, hp, b⟩
  · unfold blV at hB; rw [if_neg hT] at hB; subst hB
    exact ⟨none, 0, rfl, .inl rfl, b⟩
theorem implTax_uni (ad : Option Addr) (n cap : Nat) (c : Nat → T5) (ca : Option Addr) (m ccap : Nat) (cs : Nat → ByteArray) (fa : Option Addr) (f fcap : Nat) (fs : Nat → ByteArray) (p d : Int) (B : BL) (w : World) (hB : blV n c m cs f fs p d = B) (hn : (n : Int) ≤ 1048576) (hm : (m : Int) ≤ 1048576) (hf : (f : Int) ≤ 1048576) (hs : ∀ j, (c j).code.size ≤ maxLen) (hnc : n ≤ cap) (hcc : m ≤ ccap) (hp64 : -9223372036854775808 ≤ p ∧ p ≤ 9223372036854775807) (hr : TR w ad n c) (hc : STR w ca m cs) (hfr : STR w fa f fs) :
    Calls Try.prog 10 #[.slice ad n cap, .slice ca m ccap, .slice fa f fcap, .int .i64 p, .int .i64 d] w fun e w' => ∃ ga, e = .returned (.tuple #[bV B.nt B.gr ga B.l B.l, .bool B.bo]) ∧ GA w' w.heap.size ga B.l B.pt ∧ Below w.heap.size w w' := by
  refine (implTax_any ad n cap c ca m ccap cs fa f fcap fs p d w hn hm hf hs hnc hcc hp64 hr hc hfr).mono ?_
  rintro e w' ⟨b, ⟨hT, pb, ce, rfl, h1, h2, h3, h4⟩ | ⟨hT, rfl⟩⟩
  · unfold blV at hB; rw [if_pos hT] at hB; subst hB
    exact ⟨some ⟨pb, 0, none⟩, rfl, .inr ⟨pb, ce, rfl, h1, h2, h3, h4⟩, b⟩
  · unfold blV at hB; rw [if_neg hT] at hB; subst hB
    exact ⟨none, rfl, .inl ⟨rfl, rfl⟩, b⟩
theorem markBill_ga (nt gr : Int) (ga : Option Addr) (l cap base : Nat) (pt : Nat → P4) (w : World) (h : (l : Int) ≤ 6) (hb : base ≤ w.heap.size) (hG : GA w base ga l pt) :
    Calls Try.prog 27 #[bV nt gr ga l cap, .int .i64 1] w fun e w' => e = .returned (.int .i64 (1 + 4 * (l : Int))) ∧ PRow w' ga l (mkP4M 1) ∧ (∀ y, y < w.heap.size → (∀ pb, ga = some ⟨pb, 0, none⟩ → y ≠ pb) → w'.heap[y]? = w.heap[y]?) ∧ Below base w w' := by
  rcases hG with ⟨rfl, rfl⟩ | ⟨pb, ce, rfl, hbb, h1, h2, h3⟩
  · refine (markBill_no nt gr none cap 1 w).mono ?_
    rintro e w' ⟨rfl, b⟩
    exact ⟨rfl, .inl rfl, fun y hy _ => b.block y hy, b.mono hb⟩
  · refine (markBill_is nt gr pb l cap 1 ce w (by omega) (by omega) (by omega) h1 h2).mono ?_
    rintro e w' ⟨rfl, hp, hk, b⟩
    exact ⟨rfl, hp, fun y hy hne => hk y hy (hne pb rfl), b.mono hbb⟩
theorem wf_bd {a : Int} (h : (Lit.int .i64 a).wf = true) : -9223372036854775808 ≤ a ∧ a ≤ 9223372036854775807 := by
  simp only [Lit.wf, Bool.and_eq_true, decide_eq_true_eq] at h
  exact h
end Go.Proofs.Ytbhghghkgojpgaa
