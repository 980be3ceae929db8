/- The tree of a chart, in the program: all of it where the chart is right, else a tree without accounts. -/
import Derived.Test.YtapailihjlfkgaaDoorTa
namespace Go.Proofs.YtapailihjlfkgaaDoor
open Go.ChangeShapes Go.WideShapes Go.ChangeAt Go.RowKit
set_option linter.unusedVariables false
set_option linter.unusedSimpArgs false

theorem row_lower {w : World} {base base' : Nat} {e : TypeId} {size : Nat} {v : Value} {n : Nat} {xs : List Value} (h : w.ownsRow base e size v n xs) (hb : base' ≤ base) : w.ownsRow base' e size v n xs := by
  refine ⟨h.1, ?_⟩
  rcases h.2 with hn | ⟨g, cap, cur, rfl, hb', rest⟩
  · exact .inl hn
  · exact .inr ⟨g, cap, cur, rfl, by omega, rest⟩
theorem TR.lower {P : Program} {w : World} {base base' T mp n : Nat} {c : Nat → C3} {N : Nat → Nat} {S : Nat → Value} {ns : Value} (h : TR P w base T mp n c N S ns) (hb : base' ≤ base) : TR P w base' T mp n c N S ns where
  top := h.top
  node := h.node
  inj := h.inj
  low := ⟨by have := h.low.1; omega, by have := h.low.2.1; omega, fun s hs => by have := h.low.2.2 s hs; omega⟩
  nodes := row_lower h.nodes hb
  parts s hs := row_lower (h.parts s hs) hb
  apart := h.apart
  far := h.far
  map := h.map

theorem EL.nine {w : World} (h : EL w) : 9 ≤ w.heap.size := by
  obtain ⟨ty, v, hv⟩ := h 8 (by omega) (by omega)
  have := World.block_lt_of_cell? w _ hv
  exact this

noncomputable def tn (len : Nat) (c : Nat → C3) : Nat := if chartB len c = true then len else 0
theorem tn_right {len : Nat} {c : Nat → C3} (h1 : len ≤ 120) (h2 : RightTo c len) : tn len c = len := by
  unfold tn
  by_cases h0 : len = 0
  · subst h0; split <;> rfl
  · rw [if_pos (chartB_iff.2 ⟨by omega, h1, h2⟩)]
theorem tn_wrong {len k : Nat} {c : Nat → C3} (hk : k < len) (h : ¬ (k < 120 ∧ OkAt c k)) : tn len c = 0 := by
  unfold tn
  rw [if_neg (fun q => by
    obtain ⟨q1, q2, q3⟩ := chartB_iff.1 q
    exact h ⟨by omega, q3 k hk⟩)]
theorem tn_le (len : Nat) (c : Nat → C3) : tn len c ≤ len ∧ tn len c ≤ 120 := by
  unfold tn
  split
  · rename_i q
    have := (chartB_iff.1 q).2.1
    omega
  · omega
theorem tn_to (len : Nat) (c : Nat → C3) : RightTo c (tn len c) := by
  unfold tn
  split
  · rename_i q
    exact (chartB_iff.1 q).2.2
  · exact fun i hi => by omega

def TreeP (len : Nat) (c : Nat → C3) (w : World) (e : Ending) (w' : World) : Prop :=
  ∃ T mp N S ns, e = .returned (.pointer (some ⟨T, 0, none⟩)) ∧ TR Tryd.prog w' w.heap.size T mp (tn len c) c N S ns ∧ Below w.heap.size w w'

set_option maxRecDepth 20000 in
set_option maxHeartbeats 4000000 in
theorem treeOf_any (ad : Option Addr) (len cap : Nat) (c : Nat → C3) (w : World) (hl : (len : Int) ≤ 1048576) (hc : ∀ j, (c j).code.size ≤ maxLen) (hr : CR w ad len c) (hE : EL w) :
    Calls Tryd.prog 69 #[.slice ad len cap] w (TreeP len c w) := by
  have HR : Hid (CR w ad len c) := hr
  have HE : Hid (EL w) := hE
  have HL : Hid (∀ j, (c j).code.size ≤ maxLen) := hc
  have h9 := hE.nine
  clear hr hE hc
  go_enter Tryd.func69, Tryd.ntmps69
  go_wp2_with (go_at_call 99; refine (newTree_any c w).mono ?_; rintro e w1 ⟨rfl, h1, h2⟩; have HT1 : Hid (TR Tryd.prog w1 w.heap.size (w.heap.size + 2) (w.heap.size + 1) 0 c (fun _ => w.heap.size) (fun _ => nilS) nilS) := h1; have HB1 : Hid (Below w.heap.size w w1) := h2; clear h1 h2)
  go_loopw [9] (fun i wr => ∃ (k : Nat) (N : Nat → Nat) (S : Nat → Value) (ns : Value), k ≤ len ∧ i = .int .i64 (k : Int) ∧ TR Tryd.prog wr w.heap.size (w.heap.size + 2) (w.heap.size + 1) k c N S ns ∧ RightTo c k ∧ k ≤ 120 ∧ Below w.heap.size w wr) (fun i _ => len - (intOf i).toNat)
  case atStart => exact ⟨0, _, _, _, Nat.zero_le _, rfl, HT1.out, fun i hi => by omega, by omega, HB1.out⟩
  case round =>
    obtain ⟨k, N, S, ns, hk, rfl, hT, hR, hk2, hB⟩ := hrel
    by_cases hlt : k < len
    · obtain ⟨kb, off, rfl, hkb⟩ := HR.out.addr (by omega)
      obtain ⟨c1, c2, c3⟩ := (HR.out.below hB).cell hlt
      have HT : Hid (TR Tryd.prog wr w.heap.size (w.heap.size + 2) (w.heap.size + 1) k c N S ns) := hT
      have HB : Hid (Below w.heap.size w wr) := hB
      have hsz := hB.size
      clear hT hB
      generalize hx : c k = x at c1 c2 c3
      have HX : Hid (c k = x) := hx
      clear hx
      by_cases hgood : k < 120 ∧ OkAt c k
      · obtain ⟨hg1, hg2⟩ := hgood
        have hA : Hid (Calls Tryd.prog 100 #[.pointer (some ⟨w.heap.size + 2, 0, none⟩), .agg #[.string x.code, .int .i64 x.places, .int .i64 x.step]] (wr.alloc (.cells #[.string x.code, .int .i64 x.places, .int .i64 x.step] 43 (0, 0))) fun e w' => e = .returned .nilIface ∧ (∃ N' S' ns', TR Tryd.prog w' w.heap.size (w.heap.size + 2) (w.heap.size + 1) (k + 1) c N' S' ns') ∧ Below w.heap.size (wr.alloc (.cells #[.string x.code, .int .i64 x.places, .int .i64 x.step] 43 (0, 0))) w') := by
          have := add_ok _ _ _ k c N S ns _ (HT.out.alloc (.cells #[.string x.code, .int .i64 x.places, .int .i64 x.step] 43 (0, 0))) (by simp; omega) hg1 hR hg2
          rw [HX.out] at this
          exact this
        have HRR : Hid (RightTo c (k + 1)) := hR.succ hg2
        clear hg2 hR
        go_wp2_with (go_at_call 100; refine hA.out.mono ?_; rintro e w2 ⟨rfl, hT2, hB2⟩; have HT2 : Hid (∃ N' S' ns', TR Tryd.prog w2 w.heap.size (w.heap.size + 2) (w.heap.size + 1) (k + 1) c N' S' ns') := hT2; have HB2 : Hid (Below w.heap.size w w2) := (HB.out.alloc hsz _).trans hB2; clear hT2 hB2)
        go_roundw
        case rel =>
          obtain ⟨N', S', ns', h'⟩ := HT2.out
          exact ⟨k + 1, N', S', ns', by omega, by go_num, h', HRR.out, by omega, HB2.out⟩
        case measure => simp [intOf]; omega
      · have hA : Hid (Calls Tryd.prog 100 #[.pointer (some ⟨w.heap.size + 2, 0, none⟩), .agg #[.string x.code, .int .i64 x.places, .int .i64 x.step]] (wr.alloc (.cells #[.string x.code, .int .i64 x.places, .int .i64 x.step] 43 (0, 0))) (ErrP (wr.alloc (.cells #[.string x.code, .int .i64 x.places, .int .i64 x.step] 43 (0, 0))))) := by
          have := add_bad _ _ _ k c N S ns _ (HT.out.alloc (.cells #[.string x.code, .int .i64 x.places, .int .i64 x.step] 43 (0, 0))) ((HE.out.below HB.out h9).heap (fun b hb => heap_alloc_old _ _ hb)) hk2 hR (HL.out k) hgood
          rw [HX.out] at this
          exact this
        have HN : Hid (tn len c = 0) := tn_wrong hlt hgood
        clear hgood hR
        go_wp2_with (first
          | (go_at_call 100; refine hA.out.mono ?_; rintro e w2 ⟨ty, v, rfl, hB2⟩; have HB2 : Hid (Below w.heap.size w w2) := (HB.out.alloc hsz _).trans (hB2.mono (by simp; omega)); clear hB2)
          | (go_at_call 99; refine (newTree_any c w2).mono ?_; rintro e w3 ⟨rfl, h1, h2⟩; have HT3 : Hid (TR Tryd.prog w3 w2.heap.size (w2.heap.size + 2) (w2.heap.size + 1) 0 c (fun _ => w2.heap.size) (fun _ => nilS) nilS) := h1; have HB3 : Hid (Below w.heap.size w w3) := HB2.out.trans (h2.mono (by have := HB2.out.size; omega)); clear h1 h2))
        go_returns
        exact ⟨_, _, _, _, _, rfl, by rw [HN.out]; exact HT3.out.lower HB2.out.size, HB3.out⟩
    · obtain rfl : k = len := by omega
      have HT : Hid (TR Tryd.prog wr w.heap.size (w.heap.size + 2) (w.heap.size + 1) k c N S ns) := hT
      have HB : Hid (Below w.heap.size w wr) := hB
      clear hT hB
      go_wp2
      go_returns
      exact ⟨_, _, N, S, ns, rfl, by rw [tn_right hk2 hR]; exact HT.out, HB.out⟩

end Go.Proofs.YtapailihjlfkgaaDoor
