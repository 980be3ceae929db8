/- The tree of a chart in memory: its top, its accounts, their parts, and the map of the codes. Nothing of the program but the numbers of its types. -/
import Derived.Test.YtapailihjlfkgaaDoorMt
import Derived.Test.YtapailihjlfkgaaDoorCn
import Derived.Laws.OwnMore
namespace Go.Proofs.YtapailihjlfkgaaDoor
open Go.RowKit
set_option linter.unusedVariables false

def nilS : Value := .slice none 0 0
def pn (b : Nat) : Value := .pointer (some ⟨b, 0, none⟩)
def ptrs (N : Nat → Nat) (l : List Nat) : List Value := l.map (fun x => pn (N (x + 1)))
theorem ptrs_len (N : Nat → Nat) (l : List Nat) : (ptrs N l).length = l.length := by simp [ptrs]

theorem row_block {w w' : World} {base : Nat} {e : TypeId} {size : Nat} {v : Value} {n : Nat} {xs : List Value} (h : w.ownsRow base e size v n xs) (hb : ∀ g, v.ownBlock = some g → w'.heap[g]? = w.heap[g]?) : w'.ownsRow base e size v n xs := by
  refine ⟨h.1, ?_⟩
  rcases h.2 with hn | ⟨g, cap, cur, rfl, hb', hgg, rest⟩
  · exact .inl hn
  · refine .inr ⟨g, cap, cur, rfl, hb', ?_, rest⟩
    rw [hb g rfl]
    exact hgg
theorem row_cells {w : World} {base : Nat} {e : TypeId} {size : Nat} {v : Value} {n : Nat} {xs : List Value} (h : w.ownsRow base e size v n xs) {g : Nat} (hg : v.ownBlock = some g) : ∃ cur, w.heap[g]? = some (.cells cur e (0, 0)) := by
  rcases h.2 with ⟨rfl, _⟩ | ⟨g', cap, cur, rfl, hb', hgg, rest⟩
  · simp [Value.ownBlock] at hg
  · simp [Value.ownBlock] at hg
    subst hg
    exact ⟨cur, hgg⟩
theorem row_form {w : World} {base : Nat} {e : TypeId} {size : Nat} {v : Value} {n : Nat} {xs : List Value} (h : w.ownsRow base e size v n xs) : ∃ ad cap, v = .slice ad n cap := by
  rcases h.2 with ⟨rfl, rfl⟩ | ⟨g', cap, cur, rfl, hb', hgg, rest⟩
  · exact ⟨none, 0, rfl⟩
  · exact ⟨_, cap, rfl⟩
theorem row_get {w : World} {base : Nat} {e : TypeId} {v : Value} {n : Nat} {xs : List Value} (h : w.ownsRow base e 1 v n xs) {j : Nat} (hj : j < n) : ∃ g cap, v = .slice (some ⟨g, 0, none⟩) n cap ∧ g < w.heap.size ∧ base ≤ g ∧ ∀ j, j < n → w.cell? ⟨g, j, none⟩ = xs[j]? := by
  rcases h.2 with ⟨rfl, rfl⟩ | ⟨g, cap, cur, rfl, hb', hgg, h1, h2, h3, h4⟩
  · omega
  · refine ⟨g, cap, rfl, lt_of_block hgg, hb', fun j hj => ?_⟩
    simp only [World.cell?, hgg]
    rw [← h4, Nat.mul_one, List.getElem?_take, if_pos hj]
    simp

def codeAt (c : Nat → C3) : Nat → ByteArray → Option Nat
  | 0, _ => none
  | n + 1, x => if x = (c n).code then some n else codeAt c n x
theorem codeAt_some {c : Nat → C3} {x : ByteArray} : ∀ {n i : Nat}, codeAt c n x = some i → i < n ∧ (c i).code = x
  | 0, i, h => by simp [codeAt] at h
  | n + 1, i, h => by
    rw [codeAt] at h
    split at h
    · cases h; exact ⟨by omega, by rename_i e; exact e.symm⟩
    · have := codeAt_some h; exact ⟨by omega, this.2⟩
theorem codeAt_none {c : Nat → C3} {x : ByteArray} : ∀ {n : Nat}, codeAt c n x = none → ∀ i, i < n → (c i).code ≠ x
  | 0, h, i, hi => by omega
  | n + 1, h, i, hi => by
    rw [codeAt] at h
    split at h
    · cases h
    · by_cases e : i = n
      · subst e; intro q; rename_i q2; exact q2 q.symm
      · exact codeAt_none h i (by omega)

def nodeCs (c : Nat → C3) (N : Nat → Nat) (S : Nat → Value) : Nat → Array Value
  | 0 => #[.string ByteArray.empty, .int .i64 0, .int .i64 0, .int .i64 (-1), .int .i64 (-1), .pointer none, S 0]
  | i + 1 => #[.string (c i).code, .int .i64 (c i).places, .int .i64 (c i).step, .int .i64 (i : Int), .int .i64 ((dep (par c) (i + 1) : Int) - 1), pn (N (par c i + 1).toNat), S (i + 1)]

structure TR (P : Program) (w : World) (base T mp n : Nat) (c : Nat → C3) (N : Nat → Nat) (S : Nat → Value) (ns : Value) : Prop where
  top : CB w T #[pn (N n), ns, .map (some mp)] 185
  node : ∀ s, s ≤ n → CB w (N s) (nodeCs c N S s) 182
  inj : ∀ s t, s ≤ n → t ≤ n → N s = N t → s = t
  low : base ≤ T ∧ base ≤ mp ∧ ∀ s, s ≤ n → base ≤ N s
  nodes : w.ownsRow base 179 1 ns n (ptrs N (List.range n))
  parts : ∀ s, s ≤ n → w.ownsRow base 179 1 (S s) (chL (par c) n s).length (ptrs N (chL (par c) n s))
  apart : ∀ s t, s ≤ n → t ≤ n → s ≠ t → (S s).ownBlock = none ∨ (S s).ownBlock ≠ (S t).ownBlock
  far : ∀ s, s ≤ n → (S s).ownBlock = none ∨ (S s).ownBlock ≠ ns.ownBlock
  map : MT P 9 (.pointer none) w mp n (fun x => (codeAt c n x).map (fun i => pn (N (i + 1))))

section
variable {P : Program} {w w' : World} {base T mp n : Nat} {c : Nat → C3} {N : Nat → Nat} {S : Nat → Value} {ns : Value}
theorem TR.keep (h : TR P w base T mp n c N S ns) (hb : ∀ b, b < w.heap.size → w'.heap[b]? = w.heap[b]?) : TR P w' base T mp n c N S ns where
  top := by have := h.top; unfold CB at this ⊢; rw [hb T (CB.lt h.top)]; exact this
  node s hs := by have := h.node s hs; unfold CB at this ⊢; rw [hb _ (CB.lt (h.node s hs))]; exact this
  inj := h.inj
  low := h.low
  nodes := row_block h.nodes (fun g hg => hb g (h.nodes.lt g hg).2)
  parts s hs := row_block (h.parts s hs) (fun g hg => hb g ((h.parts s hs).lt g hg).2)
  apart := h.apart
  far := h.far
  map := h.map.block (hb mp h.map.lt)
theorem TR.below (h : TR P w base T mp n c N S ns) (k : Below w.heap.size w w') : TR P w' base T mp n c N S ns := h.keep (fun b hb => k.block b hb)
theorem TR.alloc (h : TR P w base T mp n c N S ns) (o : Obj) : TR P (w.alloc o) base T mp n c N S ns := h.keep (fun b hb => heap_alloc_old w o hb)
theorem TR.drew (h : TR P w base T mp n c N S ns) : TR P w.drew base T mp n c N S ns := h.keep (fun b hb => rfl)

theorem TR.hang {A : Nat} {v ns' : Value} {s0 : Nat} (h : TR P w base T mp n c N S ns) (hs0 : (par c n + 1).toNat = s0) (h0 : 0 ≤ par c n + 1) (hs : s0 ≤ n) (hAb : base ≤ A) (hAw : w.heap.size ≤ A)
    (hT : CB w' T #[pn A, ns', .map (some mp)] 185)
    (hNew : CB w' A #[.string (c n).code, .int .i64 (c n).places, .int .i64 (c n).step, .int .i64 (n : Int), .int .i64 (dep (par c) s0 : Int), pn (N s0), nilS] 182)
    (hUp : CB w' (N s0) ((nodeCs c N S s0).setIfInBounds 6 v) 182)
    (hOld : ∀ s, s ≤ n → s ≠ s0 → w'.heap[N s]? = w.heap[N s]?)
    (hrow : w'.ownsRow base 179 1 v ((chL (par c) n s0).length + 1) (ptrs N (chL (par c) n s0) ++ [pn A]))
    (hloc : v.ownBlock = (S s0).ownBlock ∨ ∃ g, v.ownBlock = some g ∧ w.heap.size ≤ g)
    (hoth : ∀ s, s ≤ n → s ≠ s0 → ∀ g, (S s).ownBlock = some g → w'.heap[g]? = w.heap[g]?)
    (hns : w'.ownsRow base 179 1 ns' (n + 1) (ptrs N (List.range n) ++ [pn A]))
    (hnl : ns'.ownBlock = ns.ownBlock ∨ ∃ g, ns'.ownBlock = some g ∧ w.heap.size ≤ g)
    (hvn : v.ownBlock = none ∨ v.ownBlock ≠ ns'.ownBlock)
    (hm : MT P 9 (.pointer none) w' mp (n + 1) (fun y => if y = (c n).code then some (pn A) else (codeAt c n y).map (fun i => pn (N (i + 1))))) (L : Low (par c) (n + 1)) :
    TR P w' base T mp (n + 1) c (fun s => if s = n + 1 then A else N s) (fun s => if s = s0 then v else if s = n + 1 then nilS else S s) ns' := by
  have eN : ∀ s, s ≤ n → (if s = n + 1 then A else N s) = N s := fun s hs => if_neg (by omega)
  have eP : ∀ l : List Nat, (∀ x ∈ l, x < n) → ptrs (fun s => if s = n + 1 then A else N s) l = ptrs N l := fun l hl => by
    unfold ptrs
    refine List.map_congr_left (fun x hx => ?_)
    show pn (if x + 1 = n + 1 then A else N (x + 1)) = _
    rw [if_neg (by have := hl x hx; omega)]
  have eC : ∀ s, ∀ x ∈ chL (par c) n s, x < n := fun s x hx => by simp [chL] at hx; exact hx.1
  have hlt : ∀ s g, s ≤ n → (S s).ownBlock = some g → g < w.heap.size := fun s g hs hg => ((h.parts s hs).lt g hg).2
  have eD : dep (par c) (n + 1) = dep (par c) s0 + 1 := by rw [dep, dif_pos (by omega), hs0]
  have ap0 : ∀ s, s ≤ n → s ≠ s0 → (S s).ownBlock = none ∨ (S s).ownBlock ≠ v.ownBlock := fun s hs hne => by
    rcases hloc with e | ⟨g, e, hg⟩
    · rw [e]; exact h.apart s s0 hs (by omega) hne
    · cases e2 : (S s).ownBlock with
      | none => exact .inl rfl
      | some g2 => exact .inr (fun e3 => by rw [e] at e3; have := hlt s g2 hs e2; cases e3; omega)
  have ap1 : ∀ s, s ≤ n → s ≠ s0 → v.ownBlock = none ∨ v.ownBlock ≠ (S s).ownBlock := fun s hs hne => by
    rcases ap0 s hs hne with e | e
    · cases e2 : v.ownBlock with
      | none => exact .inl rfl
      | some b => exact .inr (fun e3 => by rw [e] at e3; cases e3)
    · exact .inr (fun e3 => e e3.symm)
  refine ⟨?_, fun s hs2 => ?_, fun s t h1 h2 e => ?_, ⟨h.low.1, h.low.2.1, fun s hs2 => ?_⟩, ?_, fun s hs2 => ?_, fun s t h1 h2 hne => ?_, fun s hs2 => ?_, ?_⟩
  · simp only [if_true]; exact hT
  · by_cases e : s = n + 1
    · subst e
      simp only [nodeCs, if_true]
      rw [if_neg (by omega : ¬ n + 1 = s0), if_neg (by rw [hs0]; omega : ¬ (par c n + 1).toNat = n + 1), eD, hs0, show (((dep (par c) s0 + 1 : Nat) : Int) - 1) = (dep (par c) s0 : Int) by omega]
      exact hNew
    · have hsn : s ≤ n := by omega
      rw [eN s hsn]
      have same : ∀ V : Nat → Value, nodeCs c (fun s => if s = n + 1 then A else N s) V s = (nodeCs c N S s).setIfInBounds 6 (V s) := fun V => by
        cases s with
        | zero => simp [nodeCs]
        | succ i =>
          simp only [nodeCs]
          have hq : ¬ (par c i + 1).toNat = n + 1 := by have := L i (by omega); omega
          rw [if_neg hq]; simp
      rw [same]
      by_cases e0 : s = s0
      · rw [if_pos e0, e0]; exact hUp
      · rw [if_neg e0, if_neg e]
        have h1 := h.node s hsn
        unfold CB at h1 ⊢
        rw [hOld s hsn e0, h1]
        congr 2
        cases s <;> simp [nodeCs]
  · by_cases e1 : s = n + 1 <;> by_cases e2 : t = n + 1
    · omega
    · rw [if_pos e1, if_neg e2] at e
      have := (h.node t (by omega)).lt
      omega
    · rw [if_neg e1, if_pos e2] at e
      have := (h.node s (by omega)).lt
      omega
    · rw [if_neg e1, if_neg e2] at e
      exact h.inj s t (by omega) (by omega) e
  · by_cases e : s = n + 1
    · rw [if_pos e]; exact hAb
    · rw [if_neg e]; exact h.low.2.2 s (by omega)
  · rw [List.range_succ]
    have : ptrs (fun s => if s = n + 1 then A else N s) (List.range n ++ [n]) = ptrs N (List.range n) ++ [pn A] := by
      rw [← eP (List.range n) (by simp)]
      simp [ptrs]
    rw [this]; exact hns
  · by_cases e : s = n + 1
    · subst e
      have hz : chL (par c) (n + 1) (n + 1) = [] := by
        rw [chL_same (x := 0) (Nat.zero_le _) (fun y _ hy => by have := L y hy; omega)]; rfl
      rw [if_neg (by omega), if_pos rfl, hz]
      exact World.ownsRow_nil _ _ _ _
    · by_cases e0 : s = s0
      · rw [if_pos e0, e0, chL_hit (by omega)]
        have : ptrs (fun s => if s = n + 1 then A else N s) (chL (par c) n s0 ++ [n]) = ptrs N (chL (par c) n s0) ++ [pn A] := by
          rw [← eP (chL (par c) n s0) (eC s0)]
          simp [ptrs]
        rw [this, List.length_append]
        exact hrow
      · rw [if_neg e0, if_neg e, chL_miss (by omega), eP _ (eC s)]
        exact row_block (h.parts s (by omega)) (hoth s (by omega) e0)
  · have nilB : nilS.ownBlock = none := rfl
    by_cases a1 : s = s0
    · rw [if_pos a1, if_neg (show ¬ t = s0 by omega)]
      by_cases a2 : t = n + 1
      · rw [if_pos a2, nilB]
        cases v.ownBlock with
        | none => exact .inl rfl
        | some b => exact .inr (by simp)
      · rw [if_neg a2]; exact ap1 t (by omega) (by omega)
    · rw [if_neg a1]
      by_cases a2 : s = n + 1
      · rw [if_pos a2]; exact .inl rfl
      · rw [if_neg a2]
        by_cases b1 : t = s0
        · rw [if_pos b1]; exact ap0 s (by omega) a1
        · rw [if_neg b1]
          by_cases b2 : t = n + 1
          · rw [if_pos b2, nilB]
            cases (S s).ownBlock with
            | none => exact .inl rfl
            | some b => exact .inr (by simp)
          · rw [if_neg b2]; exact h.apart s t (by omega) (by omega) hne
  · by_cases a1 : s = s0
    · rw [if_pos a1]; exact hvn
    · rw [if_neg a1]
      by_cases a2 : s = n + 1
      · rw [if_pos a2]; exact .inl rfl
      · rw [if_neg a2]
        rcases hnl with e | ⟨g, e, hg⟩
        · rw [e]; exact h.far s (by omega)
        · cases e2 : (S s).ownBlock with
          | none => exact .inl rfl
          | some g2 => exact .inr (fun e3 => by rw [e] at e3; have := hlt s g2 (by omega) e2; cases e3; omega)
  · have ef : (fun y => if y = (c n).code then some (pn A) else (codeAt c n y).map (fun i => pn (N (i + 1)))) = (fun x => (codeAt c (n + 1) x).map (fun i => pn ((fun s => if s = n + 1 then A else N s) (i + 1)))) := by
      funext y
      rw [codeAt]
      by_cases e : y = (c n).code
      · rw [if_pos e, if_pos e]; simp
      · rw [if_neg e, if_neg e]
        cases e2 : codeAt c n y with
        | none => rfl
        | some i =>
          have := (codeAt_some e2).1
          simp only [Option.map_some]
          rw [if_neg (by omega)]
    rw [← ef]; exact hm
end
end Go.Proofs.YtapailihjlfkgaaDoor
