/- The model's determinant: by the first row. -/
import Derived.Test.YtjlniinahfgakaaMl
namespace Go.Proofs.Ytjlniinahfgakaa
open Go Go.ChangeShapes Go.WideShapes Go.ChangeAt Go.RowKit
set_option linter.unusedVariables false
set_option linter.unusedSimpArgs false

/-- Without the first row and column k. -/
def mnr (g : Nat → Nat → Int) (k : Nat) : Nat → Nat → Int := fun i j => g (i + 1) (if j < k then j else j + 1)
def dt : Nat → (Nat → Nat → Int) → Int
  | 0, _ => 1
  | n + 1, g => (dlS (g 0) (fun k => dt n (mnr g k)) (fun _ => false) (n + 1)).1
def dS (n : Nat) (g : Nat → Nat → Int) (k : Nat) : Int × Int := dlS (g 0) (fun k => dt n (mnr g k)) (fun _ => false) k
theorem dt_succ (n : Nat) (g : Nat → Nat → Int) : dt (n + 1) g = (dS n g (n + 1)).1 := rfl
theorem dS_succ (n : Nat) (g : Nat → Nat → Int) (k : Nat) : dS n g (k + 1) = ((dS n g k).1 + (dS n g k).2 * g 0 k * dt n (mnr g k), -(dS n g k).2) := rfl
theorem mnr_b {g : Nat → Nat → Int} (hg : ∀ i j, -100 ≤ g i j ∧ g i j ≤ 100) (k : Nat) : ∀ i j, -100 ≤ mnr g k i j ∧ mnr g k i j ≤ 100 := fun i j => hg _ _
theorem dt_bound : ∀ (n : Nat) (g : Nat → Nat → Int), n ≤ 3 → (∀ i j, -100 ≤ g i j ∧ g i j ≤ 100) → -(dB n) ≤ dt n g ∧ dt n g ≤ dB n
  | 0, g, _, _ => by simp [dt, dB]
  | n + 1, g, hn, hg => by
    have h := dlS_bound (M := g 0) (D := fun k => dt n (mnr g k)) (o := fun _ => false) (B := dB n) (by have := dB_pos n; omega) (fun k => hg _ _) (fun k => dt_bound n _ (by omega) (mnr_b hg k)) (n + 1)
    have hp := dB_pos n
    have e : 100 * dB n * ((n + 1 : Nat) : Int) ≤ 300 * dB n := by
      have : n = 0 ∨ n = 1 ∨ n = 2 := by omega
      rcases this with rfl | rfl | rfl <;> omega
    simp only [dt, dB]
    omega
/-- A square of lists, each of which can be cut. -/
def SqR (w : World) (ad : Option Addr) (n : Nat) (g : Nat → Nat → Int) : Prop :=
  n = 0 ∨ ∃ b off, ad = some ⟨b, off, none⟩ ∧ b < w.heap.size ∧ ∀ i, i < n → ∃ ka oa cp, w.cell? ⟨b, off + i, none⟩ = some (.slice (some ⟨ka, oa, none⟩) n cp) ∧ n ≤ cp ∧ IR w (some ⟨ka, oa, none⟩) n (g i)
theorem SqR.below {w w' : World} {ad : Option Addr} {n : Nat} {g : Nat → Nat → Int} (H : SqR w ad n g) (t : Below w.heap.size w w') : SqR w' ad n g := by
  rcases H with h | ⟨k, off, e, hk, hc⟩
  · exact .inl h
  · refine .inr ⟨k, off, e, Nat.lt_of_lt_of_le hk t.size, fun i hi => ?_⟩
    obtain ⟨a, o, cp, h1, h2, h3⟩ := hc i hi
    exact ⟨a, o, cp, by rw [World.cell?_of_block (w := w) (t.block k hk)]; exact h1, h2, h3.below t⟩
theorem SqR.get {w : World} {b off n : Nat} {g : Nat → Nat → Int} (H : SqR w (some ⟨b, off, none⟩) n g) {i : Nat} (hi : i < n) : ∃ ka oa cp, w.cell? ⟨b, off + i, none⟩ = some (.slice (some ⟨ka, oa, none⟩) n cp) ∧ n ≤ cp ∧ IR w (some ⟨ka, oa, none⟩) n (g i) := by
  rcases H with h | ⟨k, o, e, hk, hc⟩
  · omega
  · simp only [Option.some.injEq, Addr.mk.injEq] at e
    obtain ⟨rfl, rfl, _⟩ := e
    exact hc i hi
theorem SqR.addr {w : World} {ad : Option Addr} {n : Nat} {g : Nat → Nat → Int} (H : SqR w ad n g) (h : 0 < n) : ∃ k off, ad = some ⟨k, off, none⟩ ∧ k < w.heap.size := by
  rcases H with h' | ⟨k, off, e, hk, hc⟩
  · omega
  · exact ⟨k, off, e, hk⟩
theorem row_some {w : World} {base : Nat} {e : TypeId} {size : Nat} {v : Value} {n : Nat} {xs : List Value} (h : w.ownsRow base e size v n xs) (hv : v ≠ .slice none 0 0) : ∃ g cap, v = .slice (some ⟨g, 0, none⟩) n cap ∧ base ≤ g ∧ g < w.heap.size ∧ n ≤ cap := by
  rcases h.2 with ⟨rfl, _⟩ | ⟨g, cap, cur, rfl, hb', hgg, h1, _⟩
  · exact absurd rfl hv
  · exact ⟨g, cap, rfl, hb', lt_of_block hgg, h1⟩
/-- A square in the making. -/
structure LW (lo i : Nat) (cad : Option Addr) (ccap : Nat) (vs : List Value) (m : Nat) (V : Nat → Nat → Int) (W : World) : Prop where
  row : W.ownsRow lo 24 1 (.slice cad i ccap) i vs
  el : ∀ q, q < i → ∃ b cp, vs[q]? = some (.slice (some ⟨b, 0, none⟩) m cp) ∧ m ≤ cp ∧ W.ownsRow lo 3 1 (.slice (some ⟨b, 0, none⟩) m cp) m (intL (V q) m)
section
variable {lo i : Nat} {cad : Option Addr} {ccap : Nat} {vs : List Value} {m : Nat} {V : Nat → Nat → Int} {W W' : World}
theorem LW.below (h : LW lo i cad ccap vs m V W) (b : Below W.heap.size W W') : LW lo i cad ccap vs m V W' :=
  ⟨row_below h.row b, fun q hq => by obtain ⟨a, cp, h1, h2, h3⟩ := h.el q hq; exact ⟨a, cp, h1, h2, row_below h3 b⟩⟩
theorem LW.made {w : World} (hb : lo ≤ w.heap.size) (o : Nat) (ho : w.heap.size = o) : LW lo 0 (some ⟨o, 0, none⟩) 0 [] m V (w.alloc (.cells #[] 24 (0, 0))) := by
  subst ho; exact ⟨World.ownsRow_made w #[] 0 hb (Nat.zero_le _) rfl, fun q hq => by omega⟩
theorem LW.app {b1 cp1 : Nat} {cad' : Option Addr} {ccap' : Nat} {o : Obj} (h : LW lo i cad ccap vs m V W) (hcp : m ≤ cp1) (h1 : W.ownsRow lo 3 1 (.slice (some ⟨b1, 0, none⟩) m cp1) m (intL (V i) m))
    (hown : W'.ownsRow lo 24 1 (.slice cad' (i + 1) ccap') (i + 1) (vs ++ [.slice (some ⟨b1, 0, none⟩) m cp1])) (hg : (W.alloc o).grownBy W' (Value.ownBlock (.slice cad i ccap))) : LW lo (i + 1) cad' ccap' (vs ++ [.slice (some ⟨b1, 0, none⟩) m cp1]) m V W' := by
  have keep : ∀ {v : Value} {m : Nat} {xs : List Value}, W.ownsRow lo 3 1 v m xs → W'.ownsRow lo 3 1 v m xs := fun {v m xs} hr => by
    have hr2 := row_below hr ((Below.refl W.heap.size W).alloc (Nat.le_refl _) o)
    refine row_block hr2 (fun g hgg => hg.block g (hr2.lt g hgg).2 (fun e => ?_))
    obtain ⟨cur, hcur⟩ := row_cells hr hgg
    exact CB.ne (w := W) hcur h.row (by decide) e
  have hlen : vs.length = i := by have := h.row.1; simpa using this
  refine ⟨hown, fun q hq => ?_⟩
  by_cases e : q = i
  · subst e
    exact ⟨b1, cp1, by rw [List.getElem?_append_right (by omega), hlen]; simp, hcp, keep h1⟩
  · obtain ⟨a, cp, g1, g2, g3⟩ := h.el q (by omega)
    exact ⟨a, cp, by rw [List.getElem?_append_left (by omega)]; exact g1, g2, keep g3⟩
theorem LW.dr {n : Nat} (h : LW lo n cad ccap vs n V W) : SqR W cad n V := by
  by_cases h0 : n = 0
  · exact .inl h0
  · obtain ⟨g, cap, e, hlt, _, hc⟩ := row_get h.row (j := 0) (by omega)
    simp only [Value.slice.injEq] at e
    refine .inr ⟨g, 0, e.1, hlt, fun q hq => ?_⟩
    obtain ⟨a, cp, h1, h2, h3⟩ := h.el q hq
    exact ⟨a, 0, cp, by rw [Nat.zero_add, hc q hq]; exact h1, h2, row_IR h3 (fun j hj => intL_get hj)⟩
end
theorem app_mnr (z : Nat → Int) (n k : Nat) (hk : k ≤ n) : intL z k ++ intL (fun j => z (j + (k + 1))) (n - k) = intL (fun j => z (if j < k then j else j + 1)) n := by
  apply List.ext_getElem?
  intro j
  by_cases h1 : j < k
  · rw [List.getElem?_append_left (by rw [intL_len]; exact h1), intL_get h1, intL_get (by omega), if_pos h1]
  · rw [List.getElem?_append_right (by rw [intL_len]; omega), intL_len]
    by_cases h2 : j < n
    · rw [intL_get (by omega), intL_get h2, if_neg h1]
      rw [show j - k + (k + 1) = j + 1 by omega]
    · rw [List.getElem?_eq_none (by rw [intL_len]; omega), List.getElem?_eq_none (by rw [intL_len]; omega)]
set_option maxRecDepth 20000 in
theorem cutTo (ka oa len cp k : Nat) (h : k ≤ cp) (W : World) : (Instr.slice 24 (.slice (some ⟨ka, oa, none⟩) len cp) none (some (.int .i64 (k : Int))) none).run Try.prog W = .ok (.slice (some ⟨ka, oa, none⟩) k cp) W := by
  rw [run_slice_h (P := Try.prog) W 24 (some ⟨ka, oa, none⟩) len cp Try.underlying24 .i64 (k : Int) (by omega) (by omega)]
  have hs : ∀ w, (sizeOf (Try.prog.elem 24)).run Try.prog w = .ok 1 w := fun w => by rfl
  rw [hs]
  simp [Result.andThen, sliced, Addr.add]
/-- Where the rest of a list begins. -/
def restAt (ka oa cp k : Nat) : Addr := if cp = k + 1 then ⟨ka, oa, none⟩ else ⟨ka, oa + (k + 1), none⟩
set_option maxRecDepth 20000 in
theorem cutFrom (ka oa len cp k n : Nat) (h : k + 1 ≤ len) (hn : len = n + 1) (W : World) : (Instr.slice 24 (.slice (some ⟨ka, oa, none⟩) len cp) (some (.int .i64 ((k : Int) + 1))) none none).run Try.prog W = .ok (.slice (some (restAt ka oa cp k)) (n - k) (cp - (k + 1))) W := by
  rw [run_slice_l (P := Try.prog) W 24 (some ⟨ka, oa, none⟩) len cp Try.underlying24 .i64 ((k : Int) + 1) (by omega) (by omega)]
  have hs : ∀ w, (sizeOf (Try.prog.elem 24)).run Try.prog w = .ok 1 w := fun w => by rfl
  rw [hs]
  have e : ((k : Int) + 1).toNat = k + 1 := by omega
  subst hn
  simp only [Result.andThen, sliced, e, restAt]
  split
  · simp
  · simp [Addr.add]
theorem rest_cells {w : World} {ka oa len cp k n : Nat} {z : Nat → Int} (H : IR w (some ⟨ka, oa, none⟩) len z) (hn : len = n + 1) (hcp : len ≤ cp) (hk : k ≤ n) (j : Nat) (u : Value) (hj : (intL (fun j => z (j + (k + 1))) (n - k))[j]? = some u) : w.cell? ((restAt ka oa cp k).add j) = some u := by
  have hjn : j < n - k := by
    rcases Nat.lt_or_ge j (n - k) with q | q
    · exact q
    · rw [List.getElem?_eq_none (by rw [intL_len]; exact q)] at hj; cases hj
  rw [intL_get hjn] at hj
  cases hj
  have h := H.cell (j := j + (k + 1)) (by omega)
  unfold restAt
  rw [if_neg (by omega)]
  have e : ((⟨ka, oa + (k + 1), none⟩ : Addr).add j) = ⟨ka, oa + (j + (k + 1)), none⟩ := by cases j <;> simp [Addr.add] <;> omega
  rw [e]; exact h
end Go.Proofs.Ytjlniinahfgakaa
