/- The best of four orders: the program's. -/
import Derived.Test.YtogolmbgboihdaaBa
namespace Go.Proofs.Ytogolmbgboihdaa
open Go Go.ChangeShapes Go.WideShapes Go.ChangeAt Go.RowKit
set_option linter.unusedVariables false
set_option linter.unusedSimpArgs false

def odR (a : Nat → Option Addr) (M cp : Nat → Nat) : Nat → List Value
  | 0 => []
  | k + 1 => odR a M cp k ++ [.slice (a k) (M k) (cp k)]
theorem odR_len {a : Nat → Option Addr} {M cp : Nat → Nat} : ∀ {k : Nat}, (odR a M cp k).length = k
  | 0 => rfl
  | k + 1 => by simp [odR, odR_len (k := k)]
theorem odR_get {a : Nat → Option Addr} {M cp : Nat → Nat} : ∀ {k j : Nat}, j < k → (odR a M cp k)[j]? = some (.slice (a j) (M j) (cp j))
  | 0, j, h => by omega
  | k + 1, j, h => by
    by_cases hj : j = k
    · subst hj
      simp only [odR]
      rw [List.getElem?_append_right (by rw [odR_len]; exact Nat.le_refl _), odR_len, Nat.sub_self]; rfl
    · simp only [odR]
      rw [List.getElem?_append_left (by rw [odR_len]; omega)]
      exact odR_get (by omega)
theorem odR_congr {a b : Nat → Option Addr} {M cp cq : Nat → Nat} : ∀ {k : Nat}, (∀ j, j < k → a j = b j ∧ cp j = cq j) → odR a M cp k = odR b M cq k
  | 0, h => rfl
  | k + 1, h => by
    simp only [odR]
    rw [odR_congr (k := k) (fun j hj => h j (by omega)), (h k (by omega)).1, (h k (by omega)).2]
set_option maxRecDepth 100000 in
theorem infoOd : ∃ i, Try.prog.info? 26 = some i ∧ i.zero = some (.slice none 0 0) ∧ i.size = 1 ∧ i.bytes = 24 := by
  obtain ⟨i0, hi⟩ : ∃ i, Try.prog.info? 26 = some i := ⟨_, rfl⟩
  have hz0 : i0.zero = some (.slice none 0 0) := by
    have : (Try.prog.info? 26).bind (·.zero) = some (.slice none 0 0) := by kernel_rfl
    rw [hi] at this; exact this
  have hz1 : i0.size = 1 := by
    have : (Try.prog.info? 26).map (·.size) = some 1 := by kernel_rfl
    rw [hi] at this; simpa using this
  have hz2 : i0.bytes = 24 := by
    have : (Try.prog.info? 26).map (·.bytes) = some 24 := by kernel_rfl
    rw [hi] at this; simpa using this
  exact ⟨i0, hi, hz0, hz1, hz2⟩
/-- Orders in a row that grows. -/
structure AO (w : World) (g k oc : Nat) (a : Nat → Option Addr) (M cp : Nat → Nat) (F : Nat → Nat → Int) (W : World) : Prop where
  own : W.ownsRow w.heap.size 26 1 (.slice (some ⟨g, 0, none⟩) k oc) k (odR a M cp k)
  bel : Below w.heap.size w W
  el : ∀ j, j < k → OwnI W w.heap.size (a j) (M j) (F j)
section
variable {w W W' : World} {g k oc : Nat} {a : Nat → Option Addr} {M cp : Nat → Nat} {F : Nat → Nat → Int}
theorem AO.below (h : AO w g k oc a M cp F W) (b : Below W.heap.size W W') : AO w g k oc a M cp F W' := ⟨earow h.own (fun q hq => b.block q (h.own.lt q hq).2), bel_on h.bel b, fun j hj => (h.el j hj).below b⟩
theorem AO.start (hb : Below w.heap.size w W) : AO w W.heap.size 0 0 a M cp F (W.alloc (.cells #[] 26)) := ⟨⟨rfl, .inr ⟨W.heap.size, 0, #[], rfl, hb.size, CB.new _ _, Nat.le_refl _, Nat.zero_le _, rfl, rfl⟩⟩, bel_on hb ((Below.refl _ _).alloc (Nat.le_refl _) _), fun j hj => by omega⟩
theorem AO.congr {b : Nat → Option Addr} {cq : Nat → Nat} (h : AO w g k oc a M cp F W) (e : ∀ j, j < k → a j = b j ∧ cp j = cq j) : AO w g k oc b M cq F W := ⟨by rw [← odR_congr e]; exact h.own, h.bel, fun j hj => by rw [← (e j hj).1]; exact h.el j hj⟩
theorem AO.grow {w9 : World} {g9 oc9 : Nat} (h : AO w g k oc a M cp F W) (hx : OwnI W w.heap.size (a k) (M k) (F k)) (hg : W.grownBy w9 (Value.slice (some ⟨g, 0, none⟩) k oc).ownBlock) (hown : w9.ownsRow w.heap.size 26 1 (.slice (some ⟨g9, 0, none⟩) (k + 1) oc9) (k + 1) (odR a M cp (k + 1))) : AO w g9 (k + 1) oc9 a M cp F w9 := by
  have hk : ∀ {x : Option Addr} {N : Nat} {f : Nat → Int}, OwnI W w.heap.size x N f → OwnI w9 w.heap.size x N f := by
    intro x N f ho
    rcases ho with ho | ⟨y, cs, e, h1, h2, h3⟩
    · exact .inl ho
    · exact .inr ⟨y, cs, e, h1, h2.keep (hg.block _ h2.lt (fun e => CB.ne h2 h.own (by decide) (by rw [e]))), h3⟩
  refine ⟨hown, egrown h.bel (Nat.le_refl _) hg (fun q hq => ?_), fun j hj => ?_⟩
  · have : q = g := by simpa [Value.ownBlock] using hq.symm
    have := (h.own.lt g rfl).1; omega
  · by_cases q : j = k
    · subst q; exact hk hx
    · exact hk (h.el j (by omega))
theorem AO.cell (h : AO w g k oc a M cp F W) {j : Nat} (hj : j < k) : W.cell? ⟨g, 0 + j, none⟩ = some (.slice (a j) (M j) (cp j)) := by
  rcases h.own.2 with ⟨e, _⟩ | ⟨g1, cap, cur, e, _, h1, h2, h3, h4, h5⟩
  · simp at e
  · simp only [Value.slice.injEq, Option.some.injEq, Addr.mk.injEq] at e
    obtain ⟨⟨rfl, _⟩, _, rfl⟩ := e
    have h6 := odR_get (a := a) (M := M) (cp := cp) hj
    rw [← h5, List.getElem?_take_of_lt (by omega)] at h6
    have hc : CB W g cur 26 := h1
    rw [Nat.zero_add]
    exact (hc.cell j).trans (by simpa using h6)
end
/-- Which is least: the place and the number. -/
def lbF (o : Option Nat) (V : Nat → Int) : Int × Int := match o with | none => (-1, 0) | some q => ((q : Int), V q)
theorem bs_up {B : Nat → Bool} {V : Nat → Int} {k : Nat} : bs B V (k + 1) = (match bs B V k with | none => if B k then some k else none | some q => if B k && decide (V k < V q) then some k else some q) := rfl
theorem eqi_t {a b : Int} (h : a = b) : (a == b) = true := by simp [h]
theorem eqi_f {a b : Int} (h : a ≠ b) : (a == b) = false := by simp [h]
set_option maxRecDepth 20000 in
set_option maxHeartbeats 4000000 in
theorem bestCl_any (mb jb : Nat) (ma : Option Addr) (n mk : Nat) (c : Nat → MA3) (ja : Option Addr) (m jk : Nat) (d : Nat → JB) (ad : Option Addr) (M1 cap : Nat) (F1 : Nat → Int) (V : Int) (B : Bool) (w : World) (hn : (n : Int) ≤ 1048576) (hm : (m : Int) ≤ 1048576) (hl : ∀ j, j < m → ((d j).rn : Int) ≤ 1048576) (hM1b : (M1 : Int) ≤ 1048576) (cm : w.cell? ⟨mb, 0, none⟩ = some (.slice ma n mk)) (cj : w.cell? ⟨jb, 0, none⟩ = some (.slice ja m jk)) (hM : MAr w ma n c) (hJ : JBr w ja m d) (hI : IR w ad M1 F1) (hB : ldB n c m d M1 F1 = B) (hV : ltV m d (ldM n c m d M1 F1) (sN c d F1 m) = V) :
    Calls Try.prog 60 #[.slice ad M1 cap, .pointer (some ⟨mb, 0, none⟩), .pointer (some ⟨jb, 0, none⟩)] w fun e w' => e = .returned (.tuple #[.int .i64 V, .bool B]) ∧ Below w.heap.size w w' := by
  have HM0 : Hid (MAr w ma n c) := hM
  have HJ0 : Hid (JBr w ja m d) := hJ
  have HI0 : Hid (IR w ad M1 F1) := hI
  have HN : Hid (∀ j, j < m → ((d j).rn : Int) ≤ 1048576) := hl
  have HCJ : Hid (w.cell? ⟨jb, 0, none⟩ = some (.slice ja m jk)) := cj
  obtain ⟨M2, hM2⟩ : ∃ x, ldM n c m d M1 F1 = x := ⟨_, rfl⟩
  obtain ⟨S, hS⟩ : ∃ x, sN c d F1 m = x := ⟨_, rfl⟩
  have hM2b : (M2 : Int) ≤ 1048576 := by rw [← hM2]; exact ldM_bd2
  obtain ⟨E, hE⟩ : ∃ x, ltE m d M2 S = x := ⟨_, rfl⟩
  rw [hM2, hS] at hV
  have HQ2 : Hid (∀ W ad cap, Below w.heap.size w W → IR W ad M1 F1 → Calls Try.prog 15 #[.slice ma n mk, .slice ja m jk, .slice ad M1 cap] W fun e w' => ∃ ad cap, e = .returned (.tuple #[.slice ad M2 cap, .bool B]) ∧ SLr w' ad M2 S ∧ Below W.heap.size W w') := hid fun W ad cap hW hI => by
    have := implLoad_any ma n mk c ja m jk d ad M1 cap F1 W hn hm HN.out hM1b (HM0.out.below hW) (HJ0.out.below hW) hI
    rw [hM2, hB, hS] at this
    refine this.mono ?_
    rintro e w1 ⟨ad2, cap2, h1, h2, h3⟩
    exact ⟨ad2, cap2, h1, h2.row, h3⟩
  have HQ3 : Hid (∀ W ad cap, Below w.heap.size w W → SLr W ad M2 S → Calls Try.prog 22 #[.slice ja m jk, .slice ad M2 cap] W fun e w' => e = .returned (.tuple #[.int .i64 V, .int .i64 E]) ∧ Below W.heap.size W w') := hid fun W ad cap hW hI => implLate_eq ja m jk d ad M2 cap S V E W hm hM2b HN.out (HJ0.out.below hW) hI hV hE
  clear hM hJ hI hl hB hV hM2 hS hE
  go_enter Try.func60, Try.ntmps60
  go_wp2_with (first | (go_at_call 15; refine (HQ2.out _ ad cap (Below.refl _ _) HI0.out).mono ?_; rintro e w2 ⟨ad2, cap2, rfl, o2, b2⟩; have HS2 := hid o2; have HB2 : Hid (Below w.heap.size w w2) := hid b2; have cj2 := keep_cell b2 HCJ.out; clear o2 b2) | (go_at_call 22; refine (HQ3.out _ ad2 cap2 HB2.out HS2.out).mono ?_; rintro e w3 ⟨rfl, b3⟩; have HB3 : Hid (Below w.heap.size w w3) := hid (bel_on HB2.out b3); clear b3))
  go_returns
  exact ⟨rfl, HB3.out⟩
set_option maxRecDepth 20000 in
set_option maxHeartbeats 8000000 in
theorem leastBy_any (mb jb g oc : Nat) (a : Nat → Option Addr) (M cp : Nat → Nat) (B : Nat → Bool) (V : Nat → Int) (w : World) (hc : ∀ j, j < 4 → w.cell? ⟨g, 0 + j, none⟩ = some (.slice (a j) (M j) (cp j)))
    (hcl : ∀ j, j < 4 → ∀ W, Below w.heap.size w W → Calls Try.prog 60 #[.slice (a j) (M j) (cp j), .pointer (some ⟨mb, 0, none⟩), .pointer (some ⟨jb, 0, none⟩)] W fun e w' => e = .returned (.tuple #[.int .i64 (V j), .bool (B j)]) ∧ Below W.heap.size W w') :
    Calls Try.prog 59 #[.slice (some ⟨g, 0, none⟩) 4 oc, (.func (Fn.func 60) #[] #[.pointer (some ⟨mb, 0, none⟩), .pointer (some ⟨jb, 0, none⟩)])] w fun e w' => e = .returned (.tuple #[.int .i64 (lbF (bs B V 4) V).1, .int .i64 (lbF (bs B V 4) V).2]) ∧ Below w.heap.size w w' := by
  have HC : Hid (∀ j, j < 4 → w.cell? ⟨g, 0 + j, none⟩ = some (.slice (a j) (M j) (cp j))) := hc
  have HCL : Hid (∀ j, j < 4 → ∀ W, Below w.heap.size w W → Calls Try.prog 60 #[.slice (a j) (M j) (cp j), .pointer (some ⟨mb, 0, none⟩), .pointer (some ⟨jb, 0, none⟩)] W fun e w' => e = .returned (.tuple #[.int .i64 (V j), .bool (B j)]) ∧ Below W.heap.size W w') := hcl
  clear hc hcl
  go_enter Try.func59, Try.ntmps59
  go_wp2
  go_loopw [6, 7, 14] (fun p l i wr => ∃ (k : Nat) (P L : Int), k ≤ 4 ∧ i = .int .i64 (k : Int) ∧ p = .int .i64 P ∧ l = .int .i64 L ∧ Hid (lbF (bs B V k) V = (P, L)) ∧ Hid (Below w.heap.size w wr)) (fun _ _ i _ => 4 - (intOf i).toNat)
  case atStart => exact ⟨0, -1, 0, by omega, rfl, rfl, rfl, rfl, Below.refl _ _⟩
  case round =>
    obtain ⟨k, P, L, hk, rfl, rfl, rfl, HP, HB⟩ := hrel
    obtain ⟨wo, rfl⟩ : ∃ x, x = wr := ⟨wr, rfl⟩
    by_cases hlt : k < 4
    · have hlt2 : (k : Int) < 4 := by omega
      have c0 := keep_cell HB.out (HC.out k hlt)
      rw [Nat.zero_add] at c0
      have HCO := HCL.out k hlt
      obtain ⟨ad, had⟩ : ∃ x, a k = x := ⟨_, rfl⟩
      obtain ⟨MM, hMM⟩ : ∃ x, M k = x := ⟨_, rfl⟩
      obtain ⟨cc, hcc⟩ : ∃ x, cp k = x := ⟨_, rfl⟩
      obtain ⟨b, hb⟩ : ∃ x, B k = x := ⟨_, rfl⟩
      obtain ⟨v, hv⟩ : ∃ x, V k = x := ⟨_, rfl⟩
      rw [had, hMM, hcc, hb, hv] at HCO
      rw [had, hMM, hcc] at c0
      have HCO : Hid _ := hid HCO
      have Hb : Hid (B k = b) := hb
      have Hv : Hid (V k = v) := hv
      clear had hMM hcc hb hv
      cases b
      · have HN : Hid (lbF (bs B V (k + 1)) V = (P, L)) := hid (by rw [← HP.out, bs_up]; cases bs B V k <;> simp [Hb.out])
        go_wp2_with (go_at_call 60; refine (HCO.out _ HB.out).mono ?_; rintro e w1 ⟨rfl, b1⟩; have HB1 : Hid (Below w.heap.size w w1) := hid (bel_on HB.out b1); clear b1)
        go_roundw
        case rel => exact ⟨k + 1, P, L, by omega, by go_num, rfl, rfl, HN, HB1⟩
        case measure => simp [intOf]; omega
      · cases hs : bs B V k with
        | none =>
          have hPL : P = -1 ∧ L = 0 := by have := HP.out; rw [hs] at this; simp only [lbF, Prod.mk.injEq] at this; omega
          have HN : Hid (lbF (bs B V (k + 1)) V = ((k : Int), v)) := hid (by rw [bs_up, hs]; simp [Hb.out, lbF, Hv.out])
          have e1 : (P == -1) = true := eqi_t hPL.1
          clear hs hPL
          go_wp2_with (go_at_call 60; refine (HCO.out _ HB.out).mono ?_; rintro e w1 ⟨rfl, b1⟩; have HB1 : Hid (Below w.heap.size w w1) := hid (bel_on HB.out b1); clear b1)
          go_roundw
          case rel => exact ⟨k + 1, (k : Int), v, by omega, by go_num, rfl, rfl, HN, HB1⟩
          case measure => simp [intOf]; omega
        | some q =>
          have hPL : P = (q : Int) ∧ L = V q := by have := HP.out; rw [hs] at this; simp only [lbF, Prod.mk.injEq] at this; exact ⟨this.1.symm, this.2.symm⟩
          have e1 : (P == -1) = false := eqi_f (by omega)
          by_cases h2 : v < L
          · have h3 : V k < V q := by rw [Hv.out, ← hPL.2]; exact h2
            have HN : Hid (lbF (bs B V (k + 1)) V = ((k : Int), v)) := hid (by rw [Hv.out] at h3; rw [bs_up, hs]; simp [Hb.out, h3, lbF, Hv.out])
            clear h3
            clear hs hPL
            go_wp2_with (go_at_call 60; refine (HCO.out _ HB.out).mono ?_; rintro e w1 ⟨rfl, b1⟩; have HB1 : Hid (Below w.heap.size w w1) := hid (bel_on HB.out b1); clear b1)
            go_roundw
            case rel => exact ⟨k + 1, (k : Int), v, by omega, by go_num, rfl, rfl, HN, HB1⟩
            case measure => simp [intOf]; omega
          · have h3 : ¬ V k < V q := by rw [Hv.out, ← hPL.2]; exact h2
            have HN : Hid (lbF (bs B V (k + 1)) V = (P, L)) := hid (by rw [← HP.out, bs_up, hs]; simp [h3])
            clear h3
            clear hs hPL
            go_wp2_with (go_at_call 60; refine (HCO.out _ HB.out).mono ?_; rintro e w1 ⟨rfl, b1⟩; have HB1 : Hid (Below w.heap.size w w1) := hid (bel_on HB.out b1); clear b1)
            go_roundw
            case rel => exact ⟨k + 1, P, L, by omega, by go_num, rfl, rfl, HN, HB1⟩
            case measure => simp [intOf]; omega
    · obtain rfl : k = 4 := by omega
      go_wp2
      go_returns
      exact ⟨by rw [HP.out]; rfl, HB.out⟩

theorem odR_up {a : Nat → Option Addr} {M cp : Nat → Nat} {k M1 cap : Nat} {ad : Option Addr} (hM : M k = M1) : odR (fun j => if j = k then ad else a j) M (fun j => if j = k then cap else cp j) (k + 1) = odR a M cp k ++ [.slice ad M1 cap] := by
  show odR _ M _ k ++ [.slice (if k = k then ad else a k) (M k) (if k = k then cap else cp k)] = _
  rw [if_pos rfl, if_pos rfl, hM, odR_congr (b := a) (cq := cp) (fun j hj => ⟨if_neg (by omega), if_neg (by omega)⟩)]
theorem AO.push {w W w9 : World} {g k oc g9 oc9 M1 cap : Nat} {a : Nat → Option Addr} {M cp : Nat → Nat} {F : Nat → Nat → Int} {ad : Option Addr} {F1 : Nat → Int} {o : Obj} (h : AO w g k oc a M cp F W) (ho : OwnI W w.heap.size ad M1 F1) (hM : M k = M1) (hF : F k = F1) (hg : (W.alloc o).grownBy w9 (Value.slice (some ⟨g, 0, none⟩) k oc).ownBlock) (hown : w9.ownsRow w.heap.size 26 1 (.slice (some ⟨g9, 0, none⟩) (k + 1) oc9) (k + 1) (odR a M cp k ++ [.slice ad M1 cap])) : AO w g9 (k + 1) oc9 (fun j => if j = k then ad else a j) M (fun j => if j = k then cap else cp j) F w9 := by
  have b : Below W.heap.size W (W.alloc o) := (Below.refl _ _).alloc (Nat.le_refl _) _
  refine AO.grow ((h.congr (b := fun j => if j = k then ad else a j) (cq := fun j => if j = k then cap else cp j) (fun j hj => ⟨(if_neg (by omega)).symm, (if_neg (by omega)).symm⟩)).below b) ?_ hg (by rw [odR_up hM]; exact hown)
  show OwnI _ _ (if k = k then ad else a k) _ _
  rw [if_pos rfl, hM, hF]
  exact ho.below b
theorem AO.kept {w W w9 : World} {g k oc b : Nat} {a : Nat → Option Addr} {M cp : Nat → Nat} {F : Nat → Nat → Int} {o : Obj} {cs : Array Value} {t : TypeId} (h : AO w g k oc a M cp F W) (hg : (W.alloc o).grownBy w9 (Value.slice (some ⟨g, 0, none⟩) k oc).ownBlock) (hc : CB W b cs t) (ht : t ≠ 26) : CB w9 b cs t := by
  have hb : Below W.heap.size W (W.alloc o) := (Below.refl _ _).alloc (Nat.le_refl _) _
  have hc2 := hc.below hb hc.lt
  exact hc2.keep (hg.block _ hc2.lt (fun e => CB.ne hc2 (h.below hb).own ht (by rw [e])))

set_option maxRecDepth 20000 in
set_option maxHeartbeats 8000000 in
theorem implBest_any (ma : Option Addr) (n mk : Nat) (c : Nat → MA3) (ja : Option Addr) (m jk : Nat) (d : Nat → JB) (w : World) (hn : (n : Int) ≤ 1048576) (hm : (m : Int) ≤ 1048576) (hl : ∀ j, j < m → ((d j).rn : Int) ≤ 1048576) (hM : MAr w ma n c) (hJ : JBr w ja m d) :
    Calls Try.prog 21 #[.slice ma n mk, .slice ja m jk] w fun e w' => ∃ ad cap, e = .returned (.tuple #[.slice ad (beM n c m d) cap, .int .i64 (beV n c m d)]) ∧ OwnI w' w.heap.size ad (beM n c m d) (beF n c m d) ∧ Below w.heap.size w w' := by
  have HM0 : Hid (MAr w ma n c) := hM
  have HJ0 : Hid (JBr w ja m d) := hJ
  have HN : Hid (∀ j, j < m → ((d j).rn : Int) ≤ 1048576) := hl
  clear hM hJ hl
  obtain ⟨i5, hi5, hz50, hz51, hz52⟩ := infoOd
  obtain ⟨BM, hBM⟩ : ∃ x, beM n c m d = x := ⟨_, rfl⟩
  obtain ⟨BV, hBV⟩ : ∃ x, beV n c m d = x := ⟨_, rfl⟩
  obtain ⟨BF, hBF⟩ : ∃ x, beF n c m d = x := ⟨_, rfl⟩
  have HBE : Hid (beM n c m d = BM ∧ beV n c m d = BV ∧ beF n c m d = BF) := ⟨hBM, hBV, hBF⟩
  rw [hBM, hBV, hBF]
  clear hBM hBV hBF
  have HST : Hid (AO w (w.heap.size + 2) 0 0 (fun _ => none) (bM d m) (fun _ => 0) (bO d m) (((w.alloc (.cells #[.slice ma n mk] 24 (0, 0))).alloc (.cells #[.slice ja m jk] 25 (0, 0))).alloc (.cells #[] 26))) := hid (by
    have := AO.start (w := w) (a := fun _ => none) (M := bM d m) (cp := fun _ => 0) (F := bO d m) (show Below w.heap.size w ((w.alloc (.cells #[.slice ma n mk] 24 (0, 0))).alloc (.cells #[.slice ja m jk] 25 (0, 0))) from ((Below.refl _ _).alloc (Nat.le_refl _) _).alloc (by simp) _)
    simpa using this)
  have HBX : Hid (CB (((w.alloc (.cells #[.slice ma n mk] 24 (0, 0))).alloc (.cells #[.slice ja m jk] 25 (0, 0))).alloc (.cells #[] 26)) w.heap.size #[.slice ma n mk] 24 ∧ CB (((w.alloc (.cells #[.slice ma n mk] 24 (0, 0))).alloc (.cells #[.slice ja m jk] 25 (0, 0))).alloc (.cells #[] 26)) (w.heap.size + 1) #[.slice ja m jk] 25) := hid ⟨((CB.new _ _).alloc _).alloc _, (CB.newAt (by simp) _ _).alloc _⟩
  go_enter Try.func21, Try.ntmps21
  go_wp2
  go_loopw [6, 7] (fun v i wr => ∃ (k R g oc : Nat) (a : Nat → Option Addr) (cp : Nat → Nat), R ≤ 5 ∧ i = .int .i64 (R : Int) ∧ v = .slice (some ⟨g, 0, none⟩) k oc ∧ Hid (R = k + 1) ∧ Hid (AO w g k oc a (bM d m) cp (bO d m) wr) ∧ Hid (CB wr w.heap.size #[.slice ma n mk] 24 ∧ CB wr (w.heap.size + 1) #[.slice ja m jk] 25)) (fun _ i _ => 5 - (intOf i).toNat)
  case atStart => exact ⟨0, 1, w.heap.size + 2, 0, fun _ => none, fun _ => 0, by omega, rfl, rfl, rfl, HST, HBX⟩
  case round =>
    clear HST HBX
    obtain ⟨k, R, g, oc, a, cp, hR5, rfl, rfl, HRK, HA, HB⟩ := hrel
    obtain ⟨wo, rfl⟩ : ∃ x, x = wr := ⟨wr, rfl⟩
    by_cases hlt : R < 5
    · have hlt2 : (R : Int) ≤ 4 := by omega
      have hk4 : k < 4 := by have := HRK.out; omega
      have hRR : Hid ((R : Int) = rl k) := hid (by unfold rl; rw [HRK.out])
      have cj := (HB.out.2.cell 0).trans rfl
      obtain ⟨M1, hM1⟩ : ∃ x, rkM d (R : Int) m = x := ⟨_, rfl⟩
      obtain ⟨F1, hF1⟩ : ∃ x, rkF d (R : Int) m = x := ⟨_, rfl⟩
      have HQ1 : Hid (∀ W, Below w.heap.size w W → Calls Try.prog 23 #[.slice ja m jk, .int .i64 (R : Int)] W fun e w' => ∃ ad cap, e = .returned (.slice ad M1 cap) ∧ OwnI w' W.heap.size ad M1 F1 ∧ Below W.heap.size W w') := hid fun W hW => by
        have := implRank_any ja m jk d (R : Int) W hm HN.out (HJ0.out.below hW)
        rw [hM1, hF1] at this; exact this
      have HE1 : Hid (bM d m k = M1 ∧ bO d m k = F1) := hid ⟨by unfold bM; rw [← hRR.out]; exact hM1, by unfold bO; rw [← hRR.out]; exact hF1⟩
      clear hM1 hF1
      go_wp2_with (first | (go_at_call 23; refine (HQ1.out _ HA.out.bel).mono ?_; rintro e w1 ⟨ad1, cap1, rfl, o1, b1⟩; have HON1 : Hid (OwnI w1 w.heap.size ad1 M1 F1) := hid (o1.mono HA.out.bel.size); have HA1 := hid (HA.out.below b1); have HB1 : Hid (CB w1 w.heap.size #[.slice ma n mk] 24 ∧ CB w1 (w.heap.size + 1) #[.slice ja m jk] 25) := hid ⟨HB.out.1.below b1 HB.out.1.lt, HB.out.2.below b1 HB.out.2.lt⟩; clear o1 b1) | (at_builtin; refine wpList_append_own_at _ rfl _ _ 91 rfl w.heap.size 26 i5 (.slice none 0 0) 1 24 Try.underlying91 hi5 hz50 hz51 hz52 rfl (by decide) (.slice (some ⟨g, 0, none⟩) k oc) k (odR a (bM d m) cp k) rfl (HA1.out.below ((Below.refl _ _).alloc (Nat.le_refl _) _)).own ⟨w1.heap.size, 0, none⟩ 1 1 [.slice ad1 M1 cap1] rfl rfl (ecells rfl) (fun u hu => by simp at hu; subst hu; rfl) (by unfold maxLen; omega) (by omega) (by have := HA1.out.bel.size; simp; omega) ?_; intro v9 w9 hown hgrow hnil hat; obtain ⟨g9, oc9, rfl, _⟩ := eown_some hown (by omega); have R9 := hid (HA1.out.push HON1.out HE1.out.1 HE1.out.2 hgrow hown); have RB : Hid (CB w9 w.heap.size #[.slice ma n mk] 24 ∧ CB w9 (w.heap.size + 1) #[.slice ja m jk] 25) := hid ⟨HA1.out.kept hgrow HB1.out.1 (by decide), HA1.out.kept hgrow HB1.out.2 (by decide)⟩; clear hown hgrow hnil hat))
      go_roundw
      case rel => exact ⟨k + 1, R + 1, g9, oc9, _, _, by omega, by go_num, rfl, hid (by have := HRK.out; omega), R9, RB⟩
      case measure => simp [intOf]; omega
    · obtain rfl : R = 5 := by omega
      have hk4 : k = 4 := by have := HRK.out; omega
      subst hk4
      have HCL : Hid (∀ j, j < 4 → ∀ W, Below wo.heap.size wo W → Calls Try.prog 60 #[.slice (a j) (bM d m j) (cp j), .pointer (some ⟨w.heap.size, 0, none⟩), .pointer (some ⟨w.heap.size + 1, 0, none⟩)] W fun e w' => e = .returned (.tuple #[.int .i64 (bV n c m d j), .bool (bB n c m d j)]) ∧ Below W.heap.size W w') := hid fun j hj W hW => bestCl_any _ _ ma n mk c ja m jk d (a j) (bM d m j) (cp j) (bO d m j) _ _ W hn hm HN.out (rk_bd hm) (keep_cell hW ((HB.out.1.cell 0).trans rfl)) (keep_cell hW ((HB.out.2.cell 0).trans rfl)) (HM0.out.below (bel_on HA.out.bel hW)) (HJ0.out.below (bel_on HA.out.bel hW)) ((HA.out.el j hj).row.below hW) rfl rfl
      have HLB : Hid (Calls Try.prog 59 #[.slice (some ⟨g, 0, none⟩) 4 oc, .func (Fn.func 60) #[] #[.pointer (some ⟨w.heap.size, 0, none⟩), .pointer (some ⟨w.heap.size + 1, 0, none⟩)]] wo _) := hid (leastBy_any w.heap.size (w.heap.size + 1) g oc a (bM d m) cp (bB n c m d) (bV n c m d) wo (fun j hj => HA.out.cell hj) HCL.out)
      clear HCL
      cases hbs : bs (bB n c m d) (bV n c m d) 4 with
      | none =>
        rw [hbs] at HLB
        simp only [lbF] at HLB
        have HV := hid (be_no hbs)
        clear hbs
        obtain rfl : BM = 0 := by rw [← HBE.out.1, HV.out.1]
        obtain rfl : BV = -1 := by rw [← HBE.out.2.1, HV.out.2]
        go_wp2_with (go_at_call 59; refine HLB.out.mono ?_; rintro e w2 ⟨rfl, b2⟩; have HB2 : Hid (Below w.heap.size w w2) := hid (bel_on HA.out.bel b2); clear b2)
        go_returns
        first | exact ⟨_, _, rfl, .inl rfl, HB2.out.alloc HB2.out.size _⟩ | exact ⟨_, ⟨_, rfl⟩, .inl rfl, HB2.out.alloc HB2.out.size _⟩
      | some q =>
        have hq4 := bs_lt hbs
        rw [hbs] at HLB
        simp only [lbF] at HLB
        have HV := hid (be_yes hbs)
        clear hbs
        obtain ⟨V, hV⟩ : ∃ x, bV n c m d q = x := ⟨_, rfl⟩
        obtain ⟨aq, haq⟩ : ∃ x, a q = x := ⟨_, rfl⟩
        obtain ⟨Mq, hMq⟩ : ∃ x, bM d m q = x := ⟨_, rfl⟩
        obtain ⟨cq, hcq⟩ : ∃ x, cp q = x := ⟨_, rfl⟩
        have e1 : ((q : Int) == -1) = false := eqi_f (by omega)
        have cq0 := HA.out.cell (j := q) hq4
        have HOQ : Hid (OwnI wo w.heap.size (a q) (bM d m q) (bO d m q)) := hid (HA.out.el q hq4)
        rw [haq, hMq, hcq] at cq0
        rw [haq, hMq] at HOQ
        rw [Nat.zero_add] at cq0
        have HCQ : Hid (wo.cell? ⟨g, q, none⟩ = some (.slice aq Mq cq)) := cq0
        rw [hV] at HLB
        obtain rfl : BM = Mq := by rw [← HBE.out.1, HV.out.1, hMq]
        obtain rfl : BV = V := by rw [← HBE.out.2.1, HV.out.2.2, hV]
        have HBF : Hid (bO d m q = BF) := hid (by rw [← HBE.out.2.2, HV.out.2.1])
        rw [HBF.out] at HOQ
        clear hV haq hMq hcq cq0
        go_wp2_with (go_at_call 59; refine HLB.out.mono ?_; rintro e w2 ⟨rfl, b2⟩; have HB2 : Hid (Below w.heap.size w w2) := hid (bel_on HA.out.bel b2); have cq2 := keep_cell b2 HCQ.out; have HO2 := hid (HOQ.out.below b2); clear b2)
        go_returns
        first | exact ⟨_, _, rfl, HO2.out, HB2.out⟩ | exact ⟨_, ⟨_, rfl⟩, HO2.out, HB2.out⟩
end Go.Proofs.Ytogolmbgboihdaa
