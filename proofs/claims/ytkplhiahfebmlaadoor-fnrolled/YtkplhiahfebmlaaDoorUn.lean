/- What lies under an account, in the program. -/
import Derived.Test.YtkplhiahfebmlaaDoorWa
namespace Go.Proofs.YtkplhiahfebmlaaDoor
open Go.ChangeShapes Go.WideShapes Go.ChangeAt Go.RowKit
set_option linter.unusedVariables false
set_option linter.unusedSimpArgs false

theorem TR.but {P : Program} {w w' : World} {base T mp n : Nat} {c : Nat → C3} {N : Nat → Nat} {S : Nat → Value} {ns : Value} (h : TR P w base T mp n c N S ns)
    {b : Nat} {cs : Array Value} {t : TypeId} (Hb : CB w b cs t) (ht : 64 ≠ t ∧ 68 ≠ t ∧ t ≠ 60) {base2 : Nat} {e : TypeId} {size m : Nat} {v : Value} {xs : List Value} (Hr : w.ownsRow base2 e size v m xs) (he : 64 ≠ e ∧ 68 ≠ e ∧ e ≠ 60)
    (hk : ∀ x, x < w.heap.size → x ≠ b → some x ≠ v.ownBlock → w'.heap[x]? = w.heap[x]?) : TR P w' base T mp n c N S ns := by
  have cb : ∀ {x cs' t'}, CB w x cs' t' → (t' = 64 ∨ t' = 68) → CB w' x cs' t' := fun {x cs' t'} H q => by
    have h1 : x ≠ b := H.ne2 Hb (by rcases q with rfl | rfl; exact ht.1; exact ht.2.1)
    have h2 : some x ≠ v.ownBlock := H.ne Hr (by rcases q with rfl | rfl; exact he.1; exact he.2.1)
    have := H.lt
    unfold CB at H ⊢
    rw [hk x this h1 h2]; exact H
  have rw' : ∀ {u k ys bs}, w.ownsRow bs 60 1 u k ys → w'.ownsRow bs 60 1 u k ys := fun {u k ys bs} H => row_block H (fun g hg => by
    obtain ⟨cur, hc⟩ := row_cells H hg
    refine hk g (lt_of_block hc) (fun q => ?_) (fun q => ?_)
    · subst q; exact Hb.ne H ht.2.2 hg.symm
    · obtain ⟨cur2, hc2⟩ := row_cells Hr q.symm
      rw [hc2] at hc
      simp at hc
      exact he.2.2 hc.2)
  exact
  { top := cb h.top (.inl rfl)
    node := fun s hs => cb (h.node s hs) (.inr rfl)
    inj := h.inj
    low := h.low
    nodes := rw' h.nodes
    parts := fun s hs => rw' (h.parts s hs)
    apart := h.apart
    far := h.far
    map := h.map.block (hk mp h.map.lt (fun q => h.map.ne2 Hb q.symm) (h.map.ne Hr)) }

def ints (a m : Nat) : List Value := (List.range m).map (fun j => .int .i64 ((a + j : Nat) : Int))
theorem ints_succ (a m : Nat) : ints a (m + 1) = ints a m ++ [.int .i64 ((a + m : Nat) : Int)] := by simp [ints, List.range_succ]
theorem ints_get (a m j : Nat) (h : j < m) : (ints a m)[j]? = some (.int .i64 ((a + j : Nat) : Int)) := by simp [ints, h]

open Classical in
noncomputable def um (len : Nat) (c : Nat → C3) (x : Int) : Nat :=
  if h : 0 ≤ x ∧ x < (tn len c : Int) then Classical.choose (end_ex (tn_to len c).low (tn_to len c).gapless (by omega : x.toNat < tn len c)) - x.toNat else 0
theorem um_in {len : Nat} {c : Nat → C3} {a : Nat} (h : a < tn len c) : IsEnd (par c) (tn len c) a (a + um len c (a : Int)) := by
  have hx : 0 ≤ (a : Int) ∧ (a : Int) < (tn len c : Int) := by omega
  have key : IsEnd (par c) (tn len c) a (Classical.choose (end_ex (tn_to len c).low (tn_to len c).gapless (by omega : (a : Int).toNat < tn len c))) := Classical.choose_spec (end_ex (tn_to len c).low (tn_to len c).gapless (by omega : (a : Int).toNat < tn len c))
  unfold um
  rw [dif_pos hx]
  have aux : ∀ e : Nat, IsEnd (par c) (tn len c) a e → IsEnd (par c) (tn len c) a (a + (e - (a : Int).toNat)) := fun e he => by
    rw [show a + (e - (a : Int).toNat) = e by have := he.1; omega]
    exact he
  exact aux _ key
theorem um_out {len : Nat} {c : Nat → C3} {x : Int} (h : ¬ (0 ≤ x ∧ x < (tn len c : Int))) : um len c x = 0 := by unfold um; rw [dif_neg h]
theorem um_le (len : Nat) (c : Nat → C3) (x : Int) : um len c x ≤ 120 := by
  by_cases h : 0 ≤ x ∧ x < (tn len c : Int)
  · obtain ⟨a, rfl⟩ : ∃ a : Nat, x = (a : Int) := ⟨x.toNat, by omega⟩
    have := (um_in (by omega : a < tn len c)).2.1
    have := (tn_le len c).2
    omega
  · rw [um_out h]; omega

/-- A new row of whole numbers is handed back. -/
def NewI (m : Nat) (zs : List Value) (w : World) (e : Ending) (w' : World) : Prop :=
  ∃ ad cap, e = .returned (.slice ad m cap) ∧ w'.ownsRow w.heap.size 3 1 (.slice ad m cap) m zs ∧ Below w.heap.size w w'

set_option maxRecDepth 20000 in
set_option maxHeartbeats 2000000 in
theorem implUnder_any (ad : Option Addr) (len cap : Nat) (c : Nat → C3) (x : Int) (w : World) (hl : (len : Int) ≤ 1048576) (hc : ∀ j, (c j).code.size ≤ maxLen) (hr : CR w ad len c) (hE : EL w) :
    Calls Tryd.prog 15 #[.slice ad len cap, .int .i64 x] w (NewI (um len c x) (ints x.toNat (um len c x)) w) := by
  have HR : Hid (CR w ad len c) := hr
  have HE : Hid (EL w) := hE
  have HL : Hid (∀ j, (c j).code.size ≤ maxLen) := hc
  have hn := (tn_le len c).2
  have h9 := hE.nine
  have hmf : ∀ (fn : Fn) (first cap : Array Value) (w : World), (Instr.makeFunc fn first cap).run Tryd.prog w = .ok (.func fn first cap) w := fun _ _ _ _ => rfl
  clear hr hE hc
  have HR1 : Hid (CR ((w.alloc (.cells #[] 3 (0, 0))).alloc (.cells #[.slice (some ⟨w.heap.size, 0, none⟩) 0 0] 25 (0, 0))) ad len c) := (HR.out.alloc _).alloc _
  have HE1 : Hid (EL ((w.alloc (.cells #[] 3 (0, 0))).alloc (.cells #[.slice (some ⟨w.heap.size, 0, none⟩) 0 0] 25 (0, 0)))) := HE.out.heap (fun b hb => (heap_alloc_old _ _ (by simp; omega)).trans (heap_alloc_old _ _ hb))
  have HV1 : Hid (((w.alloc (.cells #[] 3 (0, 0))).alloc (.cells #[.slice (some ⟨w.heap.size, 0, none⟩) 0 0] 25 (0, 0))).ownsRow w.heap.size 3 1 (.slice (some ⟨w.heap.size, 0, none⟩) 0 0) 0 []) := (World.ownsRow_made w #[] 0 (Nat.le_refl _) (Nat.zero_le _) rfl).alloc _
  have HB1 : Hid (CB ((w.alloc (.cells #[] 3 (0, 0))).alloc (.cells #[.slice (some ⟨w.heap.size, 0, none⟩) 0 0] 25 (0, 0))) (w.heap.size + 1) #[.slice (some ⟨w.heap.size, 0, none⟩) 0 0] 25) := CB.newAt (by simp) _ _
  have HY1 : Hid (Below w.heap.size w ((w.alloc (.cells #[] 3 (0, 0))).alloc (.cells #[.slice (some ⟨w.heap.size, 0, none⟩) 0 0] 25 (0, 0)))) := ((Below.refl _ _).alloc (Nat.le_refl _) _).alloc (by simp) _
  by_cases hx : 0 ≤ x ∧ x < (tn len c : Int)
  · obtain ⟨a, rfl⟩ : ∃ a : Nat, x = (a : Int) := ⟨x.toNat, by omega⟩
    have han : a < tn len c := by omega
    have HEnd : Hid (IsEnd (par c) (tn len c) a (a + um len c (a : Int))) := um_in han
    have HRT : Hid (RightTo c (tn len c)) := tn_to len c
    obtain ⟨m, hm⟩ : ∃ m, um len c (a : Int) = m := ⟨_, rfl⟩
    rw [hm] at HEnd ⊢
    rw [show (a : Int).toNat = a by omega]
    clear hx hm
    go_enter Tryd.func15, Tryd.ntmps15
    go_wp2_with (first
      | (go_at_call 42; refine (treeOf_any ad len cap c _ hl HL.out HR1.out HE1.out).mono ?_; rintro e w2 ⟨T, mp, N, S, ns, rfl, hT2, hY2⟩
         have HT2 : Hid (TR Tryd.prog w2 w.heap.size T mp (tn len c) c N S ns) := hT2.lower (by simp; omega)
         have HV2 : Hid (w2.ownsRow w.heap.size 3 1 (.slice (some ⟨w.heap.size, 0, none⟩) 0 0) 0 []) := row_block HV1.out (fun g hg => hY2.block g (HV1.out.lt g hg).2)
         have HB2 : Hid (CB w2 (w.heap.size + 1) #[.slice (some ⟨w.heap.size, 0, none⟩) 0 0] 25) := HB1.out.below hY2 HB1.out.lt
         have HY2 : Hid (Below w.heap.size w w2) := HY1.out.trans (hY2.mono (by simp; omega))
         have HW : Hid (∀ E, IsEnd (par c) (tn len c) a E → Calls Tryd.prog 44 #[.pointer (some ⟨N (a + 1), 0, none⟩), .func (Fn.func 48) #[] #[.pointer (some ⟨w.heap.size + 1, 0, none⟩)]] w2 fun e w' => e = .returned (.tuple #[]) ∧ (TR Tryd.prog w' w.heap.size T mp (tn len c) c N S ns ∧ (∃ v, CB w' (w.heap.size + 1) #[v] 25 ∧ w'.ownsRow w.heap.size 3 1 v (E - a) (ints a (E - a))) ∧ Below w.heap.size w w' ∧ a ≤ E ∧ E ≤ tn len c)) := fun E hE => by
           refine walk48_any (fun k w' => TR Tryd.prog w' w.heap.size T mp (tn len c) c N S ns ∧ (∃ v, CB w' (w.heap.size + 1) #[v] 25 ∧ w'.ownsRow w.heap.size 3 1 v (k - a) (ints a (k - a))) ∧ Below w.heap.size w w' ∧ a ≤ k ∧ k ≤ tn len c) (w.heap.size + 1) hn HRT.out (fun k w' q => q.1) (fun k w' hk q => ?_) _ a E rfl han hE w2 ⟨HT2.out, ⟨_, HB2.out, by rw [Nat.sub_self]; exact HV2.out⟩, HY2.out, Nat.le_refl _, by omega⟩
           obtain ⟨z1, ⟨v, z2, z3⟩, z4, z5, z6⟩ := q
           have hpl := z1.place (by omega : k + 1 ≤ tn len c)
           rw [show (((k + 1 : Nat) : Int) - 1) = (k : Int) by omega] at hpl
           refine (put_any w.heap.size (w.heap.size + 1) (N (k + 1)) (k - a) (k : Int) v (ints a (k - a)) w' z2 (by omega) z3 (by omega) hpl ⟨(z1.node (k + 1) (by omega)).ne2 z2 (by decide), (z1.node (k + 1) (by omega)).ne z3 (by decide)⟩).mono ?_
           rintro e w3 ⟨rfl, ⟨v', y1, y2⟩, y3, y4⟩
           refine ⟨rfl, z1.but z2 (by decide) z3 (by decide) y3, ⟨v', y1, ?_⟩, z4.trans y4, by omega, by omega⟩
           rw [show k + 1 - a = (k - a) + 1 by omega, ints_succ, show a + (k - a) = k by omega]
           exact y2
         have tt := hT2.top1
         clear hT2 hY2 tt)
      | (go_at_call 47; refine (at_in a w2 HT2.out hn han).mono ?_; rintro e w3 ⟨rfl, ew⟩; replace ew := ew.symm; subst ew)
      | (go_at_call 44; refine (HW.out _ HEnd.out).mono ?_; rintro e w3 ⟨rfl, hT3, ⟨v, hb3, hv3⟩, hB3, _, _⟩; rw [Nat.add_sub_cancel_left] at hv3; obtain ⟨ad3, cap3, rfl⟩ := row_form hv3; have b3 : w3.cell? ⟨w.heap.size + 1, 0, none⟩ = some (.slice ad3 m cap3) := (hb3.cell 0).trans rfl; have HV3 : Hid (w3.ownsRow w.heap.size 3 1 (.slice ad3 m cap3) m (ints a m)) := hv3; have HB3 : Hid (Below w.heap.size w w3) := hB3; clear hT3 hb3 hv3 hB3))
    go_returns
    exact ⟨ad3, cap3, rfl, HV3.out, HB3.out⟩
  · have HX : Hid (¬ (0 ≤ x ∧ x < (tn len c : Int))) := hx
    rw [um_out hx]
    clear hx
    go_enter Tryd.func15, Tryd.ntmps15
    go_wp2_with (first
      | (go_at_call 42; refine (treeOf_any ad len cap c _ hl HL.out HR1.out HE1.out).mono ?_; rintro e w2 ⟨T, mp, N, S, ns, rfl, hT2, hY2⟩
         have HT2 : Hid (TR Tryd.prog w2 w.heap.size T mp (tn len c) c N S ns) := hT2.lower (by simp; omega)
         have HV2 : Hid (w2.ownsRow w.heap.size 3 1 (.slice (some ⟨w.heap.size, 0, none⟩) 0 0) 0 []) := row_block HV1.out (fun g hg => hY2.block g (HV1.out.lt g hg).2)
         have b2 : w2.cell? ⟨w.heap.size + 1, 0, none⟩ = some (.slice (some ⟨w.heap.size, 0, none⟩) 0 0) := ((HB1.out.below hY2 HB1.out.lt).cell 0).trans rfl
         have HY2 : Hid (Below w.heap.size w w2) := HY1.out.trans (hY2.mono (by simp; omega))
         clear hT2 hY2)
      | (go_at_call 47; refine (at_out x w2 HT2.out hn HX.out).mono ?_; rintro e w3 ⟨rfl, ew⟩; replace ew := ew.symm; subst ew))
    go_returns
    exact ⟨_, _, rfl, HV2.out, HY2.out⟩

end Go.Proofs.YtkplhiahfebmlaaDoor
