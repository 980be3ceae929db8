/- Plain: open hours of a day, the first one at or behind an hour, and the end of so many of them; the list of those up to the last hour. -/
import Derived.Test.YtogolmbgboihdaaMa
namespace Go.Proofs.Ytogolmbgboihdaa
open Go.ChangeShapes Go.WideShapes Go.ChangeAt Go.RowKit
set_option linter.unusedVariables false
set_option linter.unusedSimpArgs false

/-- Whether a machine is open at an hour. -/
def opB (o s h : Int) : Bool := decide (o ≤ h % 24 ∧ h % 24 < s)
theorem opB_t {o s h : Int} (q : opB o s h = true) : o ≤ h % 24 ∧ h % 24 < s := of_decide_eq_true q
theorem opB_f {o s h : Int} (q : opB o s h = false) : ¬ (o ≤ h % 24 ∧ h % 24 < s) := of_decide_eq_false q
/-- How far the next open hour is. -/
def dst (o s h : Int) : Int := if o ≤ h % 24 ∧ h % 24 < s then 0 else if h % 24 < o then o - h % 24 else 24 - h % 24 + o
theorem dst_0 {o s h : Int} (q : opB o s h = true) : dst o s h = 0 := if_pos (opB_t q)
theorem dst_s {o s h : Int} (ho : 0 ≤ o ∧ o < s ∧ s ≤ 24) (q : opB o s h = false) : dst o s h = dst o s (h + 1) + 1 := by
  have := opB_f q
  unfold dst
  repeat' split
  all_goals omega
theorem dst_bd {o s h : Int} (ho : 0 ≤ o ∧ o < s ∧ s ≤ 24) : 0 ≤ dst o s h ∧ dst o s h ≤ 23 := by
  unfold dst
  repeat' split
  all_goals omega
/-- The end of q open hours from t on. -/
def nxE (o s : Int) : Nat → Int → Int
  | 0, t => t
  | 1, t => t + dst o s t + 1
  | q + 2, t => nxE o s (q + 1) (t + dst o s t + 1)
theorem nx_o {o s t : Int} {q : Nat} (h : opB o s t = true) : nxE o s (q + 1) t = if q = 0 then t + 1 else nxE o s q (t + 1) := by
  have e := dst_0 h
  cases q with
  | zero => show t + dst o s t + 1 = _; rw [e]; simp
  | succ q => show nxE o s (q + 1) (t + dst o s t + 1) = _; rw [e, if_neg (by omega)]; simp
theorem nx_s {o s t : Int} {q : Nat} (ho : 0 ≤ o ∧ o < s ∧ s ≤ 24) (h : opB o s t = false) : nxE o s (q + 1) t = nxE o s (q + 1) (t + 1) := by
  have e := dst_s ho h
  cases q with
  | zero => show t + dst o s t + 1 = t + 1 + dst o s (t + 1) + 1; omega
  | succ q => show nxE o s (q + 1) (t + dst o s t + 1) = nxE o s (q + 1) (t + 1 + dst o s (t + 1) + 1); congr 1; omega
theorem nx_lo {o s : Int} (ho : 0 ≤ o ∧ o < s ∧ s ≤ 24) : ∀ (q : Nat) (t : Int), t + dst o s t + ((q : Int) + 1) ≤ nxE o s (q + 1) t
  | 0, t => by show t + dst o s t + ((0 : Nat) + 1) ≤ t + dst o s t + 1; omega
  | q + 1, t => by
    have h1 := nx_lo ho q (t + dst o s t + 1)
    have h2 := dst_bd (h := t + dst o s t + 1) ho
    show _ ≤ nxE o s (q + 1) (t + dst o s t + 1)
    omega
theorem nx_hi {o s : Int} (ho : 0 ≤ o ∧ o < s ∧ s ≤ 24) : ∀ (q : Nat) (t : Int), nxE o s (q + 1) t ≤ t + dst o s t + 24 * (q : Int) + 1
  | 0, t => by show t + dst o s t + 1 ≤ _; omega
  | q + 1, t => by
    have h1 := nx_hi ho q (t + dst o s t + 1)
    have h2 := dst_bd (h := t + dst o s t + 1) ho
    show nxE o s (q + 1) (t + dst o s t + 1) ≤ _
    omega
theorem nx_b {o s t B : Int} {q : Nat} (h : t + dst o s t = B) (h0 : dst o s B = 0) : nxE o s (q + 1) B = nxE o s (q + 1) t := by
  cases q with
  | zero => show B + dst o s B + 1 = t + dst o s t + 1; omega
  | succ q => show nxE o s (q + 1) (B + dst o s B + 1) = nxE o s (q + 1) (t + dst o s t + 1); congr 1; omega
/-- The open hours among the next f ones. -/
def ol (o s : Int) : Nat → Int → List Int
  | 0, _ => []
  | f + 1, h => if opB o s h = true then h :: ol o s f (h + 1) else ol o s f (h + 1)
def far (h : Int) : Nat := (5001 - h).toNat
theorem far_s {h : Int} (q : h ≤ 5000) : far h = far (h + 1) + 1 := by unfold far; omega
theorem ol_end {o s h : Int} (q : ¬ h ≤ 5000) : ol o s (far h) h = [] := by
  have e : far h = 0 := by unfold far; omega
  rw [e]; rfl
theorem ol_o {o s h : Int} (q : h ≤ 5000) (g : opB o s h = true) : ol o s (far h) h = h :: ol o s (far (h + 1)) (h + 1) := by rw [far_s q]; simp [ol, g]
theorem ol_s {o s h : Int} (q : h ≤ 5000) (g : opB o s h = false) : ol o s (far h) h = ol o s (far (h + 1)) (h + 1) := by rw [far_s q]; simp [ol, g]
/-- The n-th of a list; -1 where there is none. -/
def pick (xs : List Int) (n : Nat) : Int := (xs[n]?).getD (-1)
theorem pick_ol {o s : Int} (ho : 0 ≤ o ∧ o < s ∧ s ≤ 24) : ∀ (f : Nat) (h : Int) (q : Nat), far h = f → h ≤ 5001 → pick (ol o s f h) q = if nxE o s (q + 1) h ≤ 5001 then nxE o s (q + 1) h - 1 else -1
  | 0, h, q, e, hb => by
    have h1 := nx_lo ho q h
    have h2 := dst_bd (h := h) ho
    have h3 : h = 5001 := by unfold far at e; omega
    rw [if_neg (by omega)]; simp [ol, pick]
  | f + 1, h, q, e, hb => by
    have h5 : h ≤ 5000 := by unfold far at e; omega
    have e2 : far (h + 1) = f := by have := far_s h5; omega
    cases g : opB o s h
    · rw [nx_s ho g, ← pick_ol ho f (h + 1) q e2 (by omega)]; simp [ol, g]
    · have e3 := nx_o (q := q) g
      cases q with
      | zero => rw [e3]; simp [ol, g, pick]; omega
      | succ q => rw [if_neg (by omega)] at e3; rw [e3, ← pick_ol ho f (h + 1) q e2 (by omega)]; simp [ol, g, pick]
/-- What Occupy tells. -/
def ocE (o s f : Int) (q : Nat) : Int := if q = 0 then f + dst o s f else nxE o s q f
def OcP (r : MA3) (f q : Int) : Prop := (0 ≤ r.op ∧ r.op < r.sh ∧ r.sh ≤ 24 ∧ 0 ≤ r.st ∧ r.st ≤ 100) ∧ (0 ≤ f ∧ f ≤ 5000) ∧ (0 ≤ q ∧ q ≤ 1000)
instance (r : MA3) (f q : Int) : Decidable (OcP r f q) := by unfold OcP; infer_instance
def OcG (r : MA3) (f q : Int) : Prop := OcP r f q ∧ ocE r.op r.sh f q.toNat ≤ 5000
instance (r : MA3) (f q : Int) : Decidable (OcG r f q) := by unfold OcG; infer_instance
def ocB (r : MA3) (f q : Int) : Int := if OcG r f q then f + dst r.op r.sh f else -1
def ocF (r : MA3) (f q : Int) : Int := if OcG r f q then ocE r.op r.sh f q.toNat else -1
theorem oc_no {r : MA3} {f q : Int} (h : ¬ OcG r f q) : ocB r f q = -1 ∧ ocF r f q = -1 := ⟨if_neg h, if_neg h⟩
theorem oc_yes {r : MA3} {f q : Int} (h : OcG r f q) : ocB r f q = f + dst r.op r.sh f ∧ ocF r f q = ocE r.op r.sh f q.toNat := ⟨if_pos h, if_pos h⟩
end Go.Proofs.Ytogolmbgboihdaa
