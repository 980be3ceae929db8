/- What one may do: the staff's closure, the library's search, and the answer. -/
import Derived.Test.YtdhpadcihlmhiaaQe
namespace Go.Proofs.Ytdhpadcihlmhiaa
open Go.ChangeShapes Go.WideShapes Go.ChangeAt Go.RowKit
set_option linter.unusedVariables false
set_option linter.unusedSimpArgs false

theorem pe_name {n : Nat} {c : Nat → PE} (h : PeP n c) {m u : Nat} (hm : m < n) (hu : u < n) (e : (c m).nm = (c u).nm) : m = u := by
  rcases Nat.lt_trichotomy m u with q | q | q
  · exact absurd e ((h.2.1 u hu).2.1 m q)
  · exact q
  · exact absurd e.symm ((h.2.1 m hm).2.1 u q)
/-- The staff, its stand-ins, and the four boxes of the closure. -/
structure MyI (w0 w : World) (bp len : Nat) (c : Nat → PE) (bl : Nat → Nat) (sf : Nat → Option Addr) (bs bw bt ba u : Nat) (s : ByteArray) (a : Int) : Prop where
  pe : PeP len c
  st : Sta w0 w bp len len c bl sf
  si : SfI len len c bl sf
  b0 : Below w0.heap.size w0 w
  hu : u < len
  x1 : CB w bs #[.slice (some ⟨bp, 0, none⟩) len len] 41
  x2 : CB w bw #[.int .i64 (u : Int)] 3
  x3 : CB w bt #[.string s] 9
  x4 : CB w ba #[.int .i64 a] 3
theorem MyI.below {w0 w w' : World} {bp len : Nat} {c : Nat → PE} {bl : Nat → Nat} {sf : Nat → Option Addr} {bs bw bt ba u : Nat} {s : ByteArray} {a : Int} (h : MyI w0 w bp len c bl sf bs bw bt ba u s a) (b : Below w.heap.size w w') : MyI w0 w' bp len c bl sf bs bw bt ba u s a :=
  ⟨h.pe, h.st.below b, h.si, bel_on h.b0 b, h.hu, h.x1.below b h.x1.lt, h.x2.below b h.x2.lt, h.x3.below b h.x3.lt, h.x4.below b h.x4.lt⟩

set_option maxRecDepth 20000 in
set_option maxHeartbeats 8000000 in
theorem mcl_any (bs bw bt ba bp len u j : Nat) (c : Nat → PE) (bl : Nat → Nat) (sf : Nat → Option Addr) (s : ByteArray) (a : Int) (v : Bool) (w0 w : World) (H : MyI w0 w bp len c bl sf bs bw bt ba u s a) (hj : j < len) (hv : gvB c u s a j = v) :
    Calls Try.prog 28 #[.pointer (some ⟨bl j, 0, none⟩), .pointer (some ⟨bs, 0, none⟩), .pointer (some ⟨bw, 0, none⟩), .pointer (some ⟨bt, 0, none⟩), .pointer (some ⟨ba, 0, none⟩)] w fun e w' => e = .returned (.bool v) ∧ Below w.heap.size w w' := by
  have hu := H.hu
  have hlen : (len : Int) ≤ 40 := by have := H.pe.1; omega
  have hu2 : (u : Int) < (len : Int) := by omega
  obtain ⟨cs, hcb, hcz, hcs⟩ := H.st.ppl
  have q0 : w.cell? ⟨bp, u, none⟩ = some (.pointer (some ⟨bl u, 0, none⟩)) := (hcb.cell u).trans (hcs u hu)
  obtain ⟨ra, rc, hcol, hstr⟩ := H.st.col j hj
  obtain ⟨_, _, hcu, _⟩ := H.st.col u hu
  have HHS : Hid (∀ (q : Nat) v, hasB (c j) s a = v → Calls Try.prog 29 #[.pointer (some ⟨bl j, 0, none⟩), .string s, .int .i64 a] (w.drewN q) fun e w' => e = .returned (.bool v) ∧ w' = w.drewN q) := fun q v hv => has_eq _ (c j) ra rc (sf j) s a v _ (by have := (H.pe.2.1 j hj).2.2.1; omega) (show CB (w.drewN q) _ _ _ from hcol) (hstr.below (bd_N H.b0 q)) hv
  have a4 : w.cell? ⟨bl j, 4, none⟩ = some (.bool (c j).aw) := by unfold colC at hcol; exact (hcol.cell 4).trans rfl
  have a5 : w.cell? ⟨bl j, 5, none⟩ = some (.pointer (sf j)) := by unfold colC at hcol; exact (hcol.cell 5).trans rfl
  have k1 := (H.x1.cell 0).trans rfl
  have k2 := (H.x2.cell 0).trans rfl
  have k3 := (H.x3.cell 0).trans rfl
  have k4 := (H.x4.cell 0).trans rfl
  have HC1 := hid hcol
  have HC2 := hid hcu
  have HH := hid H
  clear H hcol hcu hstr hcb hcs hcz
  by_cases hju : j = u
  · have HV : Hid (hasB (c j) s a = v) := hid (by rw [← gvB_t (.inl hju)]; exact hv)
    subst hju
    have heq := fun q : Nat => colEq (w.drewN q) ⟨bl j, 0, none⟩
    clear hv a4 a5
    go_enter Try.func28, Try.ntmps28
    go_wp2
    go_quiet (first | (go_at_call 29; exact Calls.quiet_of_same (HHS.out _ _ HV.out)))
    go_wp2
    go_returns
    exact ⟨rfl, bd_N (Below.refl _ _) _⟩
  have heq := fun q : Nat => colNe (w.drewN q) (fun e => hju (HH.out.st.inj hj hu e)) (show CB (w.drewN q) _ _ _ from HC1.out) (show CB (w.drewN q) _ _ _ from HC2.out)
  cases haw : (c j).aw
  · rw [haw] at a4
    have HV : Hid (false = v) := hid (by rw [← hv]; exact (gvB_f fun q => by rcases q with q | q; (exact hju q); (rw [haw] at q; cases q.1)).symm)
    clear hv haw hju a5
    go_enter Try.func28, Try.ntmps28
    go_wp2
    go_quiet (fail)
    go_wp2
    go_returns
    exact ⟨ret_bool HV.out, bd_N (Below.refl _ _) _⟩
  rw [haw] at a4
  by_cases hfr : (c j).fr = (c u).nm
  · have HV : Hid (hasB (c j) s a = v) := hid (by rw [← gvB_t (.inr ⟨haw, hfr⟩)]; exact hv)
    have hsf : sf j = some ⟨bl u, 0, none⟩ := by
      rcases HH.out.si.1 j hj with ⟨q, _⟩ | ⟨m, hm, q, e⟩
      · have := (HH.out.pe.2.1 u hu).1; rw [← hfr, q, noName] at this; cases this
      · rw [pe_name HH.out.pe hm hu (q.trans hfr)] at e; exact e
    rw [hsf] at a5
    have heq2 := fun q : Nat => colEq (w.drewN q) ⟨bl u, 0, none⟩
    clear hv haw hfr hsf hju
    go_enter Try.func28, Try.ntmps28
    go_wp2
    go_quiet (first | (go_at_call 29; exact Calls.quiet_of_same (HHS.out _ _ HV.out)))
    go_wp2
    go_returns
    exact ⟨rfl, bd_N (Below.refl _ _) _⟩
  have HV : Hid (false = v) := hid (by rw [← hv]; exact (gvB_f fun q => by rcases q with q | q; (exact hju q); (exact hfr q.2)).symm)
  obtain ⟨x, hx, heq2⟩ : ∃ x, sf j = x ∧ ∀ q : Nat, (binOp .eql 50 (.pointer x) (.pointer (some ⟨bl u, 0, none⟩))).run Try.prog (w.drewN q) = .ok (.bool false) (w.drewN q) := by
    rcases HH.out.si.1 j hj with ⟨_, e⟩ | ⟨m, hm, q, e⟩
    · exact ⟨_, e, fun q => colNil _ _⟩
    · obtain ⟨_, _, hcm, _⟩ := HH.out.st.col m hm
      exact ⟨_, e, fun n => colNe (w.drewN n) (fun e2 => by have := HH.out.st.inj hm hu e2; subst this; exact hfr q.symm) (show CB (w.drewN n) _ _ _ from hcm) (show CB (w.drewN n) _ _ _ from HC2.out)⟩
  rw [hx] at a5
  clear hv haw hfr hx hju
  go_enter Try.func28, Try.ntmps28
  go_wp2
  go_quiet (fail)
  go_wp2
  go_returns
  exact ⟨ret_bool HV.out, bd_N (Below.refl _ _) _⟩

set_option maxRecDepth 20000 in
set_option maxHeartbeats 4000000 in
theorem idxMay_any (bs bw bt ba bp len u : Nat) (c : Nat → PE) (bl : Nat → Nat) (sf : Nat → Option Addr) (s : ByteArray) (a : Int) (w0 w : World) (H : MyI w0 w bp len c bl sf bs bw bt ba u s a) :
    Calls Try.prog 33 #[.slice (some ⟨bp, 0, none⟩) len len, .func (Fn.func 28) #[] #[.pointer (some ⟨bs, 0, none⟩), .pointer (some ⟨bw, 0, none⟩), .pointer (some ⟨bt, 0, none⟩), .pointer (some ⟨ba, 0, none⟩)]] w fun e w' => e = .returned (.int .i64 (fstF (gvB c u s a) len 0)) ∧ Below w.heap.size w w' := by
  have hlen : (len : Int) ≤ 40 := by have := H.pe.1; omega
  have HH := hid H
  clear H
  go_enter Try.func33, Try.ntmps33
  go_wp2
  go_loopw [8] (fun i wr => ∃ k : Nat, k ≤ len ∧ i = .int .i64 (k : Int) ∧ Hid (fstF (gvB c u s a) (len - k) k = fstF (gvB c u s a) len 0) ∧ Hid (Below w.heap.size w wr)) (fun i _ => len - (intOf i).toNat)
  case atStart => exact ⟨0, Nat.zero_le _, rfl, rfl, Below.refl _ _⟩
  case round =>
    obtain ⟨k, hk, rfl, hP, HB⟩ := hrel
    by_cases hlt : k < len
    · have hlt2 : (k : Int) < (len : Int) := by omega
      have HI := hid (HH.out.below HB.out)
      obtain ⟨cs, hcb, hcz, hcs⟩ := HI.out.st.ppl
      have c0 : wr.cell? ⟨bp, k, none⟩ = some (.pointer (some ⟨bl k, 0, none⟩)) := (hcb.cell k).trans (hcs k hlt)
      clear hcb hcz hcs
      have HCL : ∀ v, gvB c u s a k = v → Hid (Calls Try.prog 28 #[.pointer (some ⟨bl k, 0, none⟩), .pointer (some ⟨bs, 0, none⟩), .pointer (some ⟨bw, 0, none⟩), .pointer (some ⟨bt, 0, none⟩), .pointer (some ⟨ba, 0, none⟩)] wr fun e w' => e = .returned (.bool v) ∧ Below wr.heap.size wr w') := fun v hv => mcl_any bs bw bt ba bp len u k c bl sf s a v w0 wr HI.out hlt hv
      cases g : gvB c u s a k
      · have HF : Hid (fstF (gvB c u s a) (len - (k + 1)) (k + 1) = fstF (gvB c u s a) len 0) := hid (by rw [← hP.out]; exact (fstF_miss hlt g).symm)
        have HG := HCL _ g
        clear g HCL
        go_wp2_with (go_at_call 28; refine HG.out.mono ?_; rintro e w1 ⟨rfl, b1⟩; have HB1 : Hid (Below w.heap.size w w1) := bel_on HB.out b1; clear b1)
        go_roundw
        case rel => exact ⟨k + 1, by omega, by go_num, HF, HB1⟩
        case measure => simp [intOf]; omega
      · have HF : Hid (fstF (gvB c u s a) len 0 = (k : Int)) := hid (by rw [← hP.out]; exact fstF_hit hlt g)
        have HG := HCL _ g
        clear g HCL
        go_wp2_with (go_at_call 28; refine HG.out.mono ?_; rintro e w1 ⟨rfl, b1⟩; have HB1 : Hid (Below w.heap.size w w1) := bel_on HB.out b1; clear b1)
        go_returns
        exact ⟨ret_i HF.out.symm, HB1.out⟩
    · obtain rfl : k = len := by omega
      have lkk : ¬ (k : Int) < (k : Int) := by omega
      have HF : Hid (fstF (gvB c u s a) k 0 = -1) := hid (by rw [← hP.out]; exact fstF_end)
      go_wp2
      go_returns
      exact ⟨ret_i HF.out.symm, HB.out⟩
theorem anyMay (bs bw bt ba bp len u : Nat) (c : Nat → PE) (bl : Nat → Nat) (sf : Nat → Option Addr) (s : ByteArray) (a : Int) (w0 w : World) (H : MyI w0 w bp len c bl sf bs bw bt ba u s a) :
    Calls Try.prog 27 #[.slice (some ⟨bp, 0, none⟩) len len, .func (Fn.func 28) #[] #[.pointer (some ⟨bs, 0, none⟩), .pointer (some ⟨bw, 0, none⟩), .pointer (some ⟨bt, 0, none⟩), .pointer (some ⟨ba, 0, none⟩)]] w fun e w' => e = .returned (.bool (decide (0 ≤ fstF (gvB c u s a) len 0))) ∧ Below w.heap.size w w' := by
  have HC := idxMay_any bs bw bt ba bp len u c bl sf s a w0 w H
  obtain ⟨x, hx⟩ : ∃ x, fstF (gvB c u s a) len 0 = x := ⟨_, rfl⟩
  rw [hx] at HC ⊢
  have HC2 := hid HC
  obtain ⟨fv, hf⟩ : ∃ f, Value.func (Fn.func 28) #[] #[.pointer (some ⟨bs, 0, none⟩), .pointer (some ⟨bw, 0, none⟩), .pointer (some ⟨bt, 0, none⟩), .pointer (some ⟨ba, 0, none⟩)] = f := ⟨_, rfl⟩
  rw [hf] at HC2 ⊢
  clear HC H hx hf
  go_enter Try.func27, Try.ntmps27
  go_wp2_with (go_at_call 33; go_loud (refine HC2.out.mono ?_; rintro e w1 ⟨rfl, b1⟩; have HB1 := hid b1; clear b1))
  all_goals go_returns
  all_goals exact ⟨rfl, HB1.out⟩
end Go.Proofs.Ytdhpadcihlmhiaa
