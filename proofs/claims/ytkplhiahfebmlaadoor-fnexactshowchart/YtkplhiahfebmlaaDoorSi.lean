/- A chart's text, in the program and in the model: both write the bytes of 'showL'. -/
import Derived.Test.YtkplhiahfebmlaaDoorSh
namespace Go.Proofs.YtkplhiahfebmlaaDoor
open Go.ChangeShapes Go.WideShapes Go.ChangeAt Go.RowKit
set_option linter.unusedVariables false
set_option linter.unusedSimpArgs false

def showL (c : Nat → C3) : Nat → List UInt8
  | 0 => []
  | n + 1 => showL c n ++ lineL (dep (par c) (n + 1) - 1) (c n).code (c n).step
theorem code_len {s : ByteArray} (h : nameB s = true) : s.size ≤ 20 := by unfold nameB at h; simp at h; exact h.2.2
theorem showL_len {c : Nat → C3} {n : Nat} (R : RightTo c n) : (showL c n).length ≤ 39 * n := by
  induction n with
  | zero => simp [showL]
  | succ k ih =>
    rw [showL, List.length_append, lineL_len]
    have h1 := ih (R.mono (by omega))
    have h2 := code_len (R k (by omega)).name
    have h3 := R.dep_le (k + 1) (Nat.le_refl _)
    omega

theorem rowF_block {w w' : World} {base : Nat} {e : TypeId} {size : Nat} {v : Value} {n : Nat} {xs : List Value} (h : w.ownsRowF base e size v n xs) (hb : ∀ g, v.ownBlock = some g → g < w.heap.size → w'.heap[g]? = w.heap[g]?) : w'.ownsRowF base e size v n xs := by
  refine ⟨h.1, ?_⟩
  rcases h.2 with hn | ⟨g, cap, cur, fz, rfl, hb', hgg, rest⟩
  · exact .inl hn
  · refine .inr ⟨g, cap, cur, fz, rfl, hb', ?_, rest⟩
    rw [hb g rfl (lt_of_block hgg)]
    exact hgg
theorem builder_below {B b : Nat} {bs : List Value} {w w' : World} (h : Lib.IsBuilderF 84 5 B b bs w) (k : Below w.heap.size w w') : Lib.IsBuilderF 84 5 B b bs w' := by
  have one : ∀ p, Lib.BuilderAtF 84 5 B b p bs w → Lib.BuilderAtF 84 5 B b p bs w' := fun p q => by
    obtain ⟨hB, v, hb, hown, hne⟩ := q
    exact ⟨hB, v, (k.block b (lt_of_block hb)).trans hb, rowF_block hown (fun g _ hg => k.block g hg), hne⟩
  rcases h with h | h
  · exact .inl (one _ h)
  · exact .inr (one _ h)
theorem builder_cells {B b : Nat} {bs : List Value} {w : World} (h : Lib.IsBuilderF 84 5 B b bs w) : ∃ cs, CB w b cs 84 := by
  rcases h with ⟨_, v, hb, _⟩ | ⟨_, v, hb, _⟩
  · exact ⟨_, hb⟩
  · exact ⟨_, hb⟩

theorem TR.others {P : Program} {w w' : World} {base T mp n : Nat} {c : Nat → C3} {N : Nat → Nat} {S : Nat → Value} {ns : Value} (h : TR P w base T mp n c N S ns)
    {b : Nat} {cs : Array Value} (Hb : CB w b cs 84) (hk : Lib.OthersKept 5 (some b) w w') : TR P w' base T mp n c N S ns := by
  have cb : ∀ {x cs' t'}, CB w x cs' t' → (t' = 64 ∨ t' = 68) → CB w' x cs' t' := fun {x cs' t'} H q => by
    have h1 : x ≠ b := H.ne2 Hb (by rcases q with rfl | rfl <;> decide)
    unfold CB at H ⊢
    exact hk x _ H (by simpa using h1) (fun c fz e => by simp at e; rcases q with rfl | rfl <;> simp at e)
  have rw' : ∀ {u k ys bs}, w.ownsRow bs 60 1 u k ys → w'.ownsRow bs 60 1 u k ys := fun {u k ys bs} H => row_block H (fun g hg => by
    obtain ⟨cur, hc⟩ := row_cells H hg
    rw [hc]
    exact hk g _ hc (fun q => Hb.ne H (by decide) (by simp at q; rw [hg, q])) (fun c fz e => by simp at e))
  exact
  { top := cb h.top (.inl rfl)
    node := fun s hs => cb (h.node s hs) (.inr rfl)
    inj := h.inj
    low := h.low
    nodes := rw' h.nodes
    parts := fun s hs => rw' (h.parts s hs)
    apart := h.apart
    far := h.far
    map := h.map.block (by
      obtain ⟨es, cl, hm⟩ := h.map.isMap
      rw [hm]
      exact hk mp _ hm (fun q => h.map.ne2 Hb (by simpa using q.symm)) (fun c fz e => by cases e)) }

theorem cells_snoc (l m : List UInt8) : Lib.byteCells (l ++ m) = Lib.byteCells l ++ Lib.strCells (str m) := by
  simp [Lib.byteCells, Lib.strCells, str]

set_option maxRecDepth 20000 in
set_option maxHeartbeats 4000000 in
theorem implShow_any (ad : Option Addr) (len cap : Nat) (c : Nat → C3) (w : World) (hl : (len : Int) ≤ 1048576) (hc : ∀ j, (c j).code.size ≤ maxLen) (hr : CR w ad len c) (hE : EL w) :
    Calls Tryd.prog 33 #[.slice ad len cap] w fun e w' => e = .returned (.string (str (showL c (tn len c)))) ∧ Below w.heap.size w w' := by
  have HTO : Hid (Calls Tryd.prog 42 #[.slice ad len cap] (w.alloc (.cells #[.pointer none, .slice none 0 0] 84 (0, 0))) (TreeP len c (w.alloc (.cells #[.pointer none, .slice none 0 0] 84 (0, 0))))) := treeOf_any ad len cap c _ hl hc (hr.alloc _) (hE.heap (fun b hb => heap_alloc_old _ _ hb))
  have HB1 : Hid (Lib.IsBuilderF 84 5 w.heap.size w.heap.size (Lib.byteCells (showL c 0)) (w.alloc (.cells #[.pointer none, .slice none 0 0] 84 (0, 0)))) := Lib.IsBuilderF.of (.inl ⟨Nat.le_refl _, .slice none 0 0, CB.new _ _, World.ownsRow_nil _ _ _ _, by simp [Value.ownBlock]⟩)
  have HY1 : Hid (Below w.heap.size w (w.alloc (.cells #[.pointer none, .slice none 0 0] 84 (0, 0)))) := (Below.refl _ _).alloc (Nat.le_refl _) _
  have hn := (tn_le len c).2
  have HRT : Hid (RightTo c (tn len c)) := tn_to len c
  obtain ⟨n, hnn⟩ : ∃ n, tn len c = n := ⟨_, rfl⟩
  rw [hnn] at hn HRT ⊢
  have HN : Hid (tn len c = n) := hnn
  clear hr hE hc hnn
  go_enter Tryd.func33, Tryd.ntmps33
  go_wp2_with (first
    | (go_at_call 42; refine HTO.out.mono ?_; rintro e w2 ⟨T, mp, N, S, ns, rfl, hT2, hY2⟩
       rw [HN.out] at hT2
       obtain ⟨adn, capn, rfl⟩ := row_form hT2.nodes
       have t1 := hT2.top1
       have HT2 : Hid (TR Tryd.prog w2 w.heap.size T mp n c N S (.slice adn n capn)) := hT2.lower (by simp)
       have HB2 : Hid (Lib.IsBuilderF 84 5 w.heap.size w.heap.size (Lib.byteCells (showL c 0)) w2) := builder_below HB1.out hY2
       have HY2 : Hid (Below w.heap.size w w2) := HY1.out.trans (hY2.mono (by simp))
       clear hT2 hY2))
  go_loopw [12] (fun i wr => ∃ (k : Nat), k ≤ n ∧ i = .int .i64 (k : Int) ∧ TR Tryd.prog wr w.heap.size T mp n c N S (.slice adn n capn) ∧ Lib.IsBuilderF 84 5 w.heap.size w.heap.size (Lib.byteCells (showL c k)) wr ∧ Below w.heap.size w wr) (fun i _ => n - (intOf i).toNat)
  case atStart => exact ⟨0, Nat.zero_le _, rfl, HT2.out, HB2.out, HY2.out⟩
  case round =>
    obtain ⟨k, hk, rfl, hT, hBd, hB⟩ := hrel
    by_cases hlt : k < n
    · have hlt2 : (k : Int) < (n : Int) := by omega
      obtain ⟨g, cp, eg, _, _, hcell⟩ := row_get hT.nodes hlt
      obtain ⟨rfl, rfl⟩ : adn = some ⟨g, 0, none⟩ ∧ capn = cp := by simp only [Value.slice.injEq] at eg; exact ⟨eg.1, eg.2.2⟩
      have e1 : wr.cell? ⟨g, k, none⟩ = some (.pointer (some ⟨N (k + 1), 0, none⟩)) := by rw [hcell k hlt]; simp [ptrs, hlt, pn]
      have hok := HRT.out k hlt
      have hd9 := HRT.out.dep_le (k + 1) hlt
      have hd1 := dep_pos HRT.out.low hlt
      have n4 := hT.depth (by omega : k + 1 ≤ n)
      rw [show ((dep (par c) (k + 1) : Int) - 1) = ((dep (par c) (k + 1) - 1 : Nat) : Int) by omega] at n4
      have HLN : Hid (Calls Tryd.prog 60 #[.pointer (some ⟨N (k + 1), 0, none⟩)] wr fun e w' => e = .returned (.string (str (lineL (dep (par c) (k + 1) - 1) (c k).code (c k).step))) ∧ Below wr.heap.size wr w') := line_any _ _ _ _ wr (hT.code hlt) (hT.kind hlt) n4 hok.kind (by omega) (code_len hok.name)
      have hsl := showL_len (HRT.out.mono (by omega : k + 1 ≤ n))
      have HSL : Hid ((Lib.byteCells (showL c k)).length + (str (lineL (dep (par c) (k + 1) - 1) (c k).code (c k).step)).size ≤ 140737488355328) := by
        rw [showL, List.length_append] at hsl
        show _ ≤ _
        rw [str_size]
        simp only [Lib.byteCells, List.length_map]
        omega
      have HSS : Hid (Lib.byteCells (showL c k) ++ Lib.strCells (str (lineL (dep (par c) (k + 1) - 1) (c k).code (c k).step)) = Lib.byteCells (showL c (k + 1))) := by
        show _ = _
        rw [showL, cells_snoc]
      have hsz := hB.size
      have HT : Hid (TR Tryd.prog wr w.heap.size T mp n c N S (.slice (some ⟨g, 0, none⟩) n capn)) := hT
      have HBD : Hid (Lib.IsBuilderF 84 5 w.heap.size w.heap.size (Lib.byteCells (showL c k)) wr) := hBd
      have HB : Hid (Below w.heap.size w wr) := hB
      generalize str (lineL (dep (par c) (k + 1) - 1) (c k).code (c k).step) = X at HLN HSL HSS
      clear hT hBd hB hcell eg hok hd9 hd1 n4 hsl
      go_wp2_with (first
        | (go_at_call 60; refine HLN.out.mono ?_; rintro e w3 ⟨rfl, b3⟩
           have HT3 : Hid (TR Tryd.prog w3 w.heap.size T mp n c N S (.slice (some ⟨g, 0, none⟩) n capn)) := HT.out.below b3
           have HBD3 : Hid (Lib.IsBuilderF 84 5 w.heap.size w.heap.size (Lib.byteCells (showL c k)) w3) := builder_below HBD.out b3
           have HB3 : Hid (Below w.heap.size w w3) := bel_on HB.out b3
           have hs3 := HB3.out.size
           clear b3)
        | (go_at_call 59; refine (Tryd.Builder_WriteString_k w.heap.size w.heap.size _ X w3 HBD3.out HSL.out hs3).mono ?_; rintro e w4 ⟨rfl, h4, b4, o4⟩
           have HT4 : Hid (TR Tryd.prog w4 w.heap.size T mp n c N S (.slice (some ⟨g, 0, none⟩) n capn)) := (by obtain ⟨cs, hcs⟩ := builder_cells HBD3.out; exact HT3.out.others hcs o4)
           have HBD4 : Hid (Lib.IsBuilderF 84 5 w.heap.size w.heap.size (Lib.byteCells (showL c (k + 1))) w4) := (by rw [HSS.out] at h4; exact .inr h4)
           have HB4 : Hid (Below w.heap.size w w4) := HB3.out.trans b4
           clear h4 b4 o4))
      go_roundw
      case rel => exact ⟨k + 1, by omega, by go_num, HT4.out, HBD4.out, HB4.out⟩
      case measure => simp [intOf]; omega
    · obtain rfl : k = n := by omega
      have HBD : Hid (Lib.IsBuilderF 84 5 w.heap.size w.heap.size (Lib.byteCells (showL c k)) wr) := hBd
      have HB : Hid (Below w.heap.size w wr) := hB
      have hsz := hB.size
      clear hT hBd hB
      go_wp2_with (go_at_call 61; refine (Tryd.Builder_String_any_k w.heap.size w.heap.size _ wr HBD.out hsz).mono ?_; rintro e w4 ⟨rfl, _, b4, _⟩; have HB4 : Hid (Below w.heap.size w w4) := HB.out.trans b4; clear b4)
      go_returns
      exact ⟨rfl, HB4.out⟩

set_option maxRecDepth 20000 in
set_option maxHeartbeats 4000000 in
theorem specShow_any (ad : Option Addr) (len cap : Nat) (c : Nat → C3) (w : World) (hl : (len : Int) ≤ 1048576) (hc : ∀ j, (c j).code.size ≤ maxLen) (hr : CR w ad len c) :
    Calls Tryd.prog 32 #[.slice ad len cap] w fun e w' => e = .returned (.string (str (showL c (tn len c)))) ∧ Below w.heap.size w w' := by
  have HR : Hid (CR w ad len c) := hr
  have HL : Hid (∀ j, (c j).code.size ≤ maxLen) := hc
  have HB0 : Hid (Below w.heap.size w w) := Below.refl _ _
  clear hr hc
  cases hv : chartB len c with
  | false =>
    have htn : tn len c = 0 := by unfold tn; rw [hv]; rfl
    rw [htn]
    clear htn
    by_cases h0 : len = 0
    · subst h0
      go_enter Tryd.func32, Tryd.ntmps32
      go_wp2
      refine wp_loop_rounds 1 ?_
      rw [rounds_succ]
      go_wp2
      go_returns
      exact ⟨rfl, HB0.out⟩
    · have h1 : (0 : Int) < (len : Int) := by omega
      go_enter Tryd.func32, Tryd.ntmps32
      go_wp2
      refine wp_loop_rounds 1 ?_
      rw [rounds_succ]
      go_wp2_with (go_at_call 18; refine (specChartOk_eq _ _ _ c _ hl HL.out HR.out hv).mono ?_; rintro e w' ⟨rfl, hb⟩; have HB : Hid (Below w.heap.size w w') := hb; clear hb)
      go_returns
      exact ⟨rfl, HB.out⟩
  | true =>
    have hq := chartB_iff.1 hv
    have htn : tn len c = len := by unfold tn; rw [if_pos hv]
    have HRT : Hid (RightTo c len) := hq.2.2
    have h120 : len ≤ 120 := hq.2.1
    rw [htn]
    clear hq htn
    go_enter Tryd.func32, Tryd.ntmps32
    go_wp2
    go_loopw [3, 4] (fun u i wr => ∃ (k : Nat), k ≤ len ∧ i = .int .i64 (k : Int) ∧ u = .string (str (showL c k)) ∧ Below w.heap.size w wr) (fun u i _ => len - (intOf i).toNat)
    case atStart => exact ⟨0, Nat.zero_le _, rfl, rfl, HB0.out⟩
    case round =>
      obtain ⟨k, hk, rfl, rfl, hB⟩ := hrel
      by_cases hlt : k < len
      · have hlt2 : (k : Int) < (len : Int) := by omega
        have HRk : Hid (CR wr ad len c) := HR.out.below hB
        have HB : Hid (Below w.heap.size w wr) := hB
        obtain ⟨kb, off, rfl, hkb⟩ := HRk.out.addr (by omega)
        have hok := HRT.out k hlt
        have hd9 := HRT.out.dep_le (k + 1) hlt
        have hd1 := dep_pos HRT.out.low hlt
        have HLW : Hid (Low (par c) (k + 1)) := (HRT.out.mono (by omega : k + 1 ≤ len)).low
        obtain ⟨a, ha⟩ : ∃ a, c k = a := ⟨_, rfl⟩
        obtain ⟨d, hd⟩ : ∃ d : Nat, dep (par c) (k + 1) - 1 = d := ⟨_, rfl⟩
        have hd20 : d ≤ 20 := by omega
        have HDD : Hid ((dep (par c) (k + 1) : Int) - 1 = (d : Int)) := by show _ = _; omega
        have hsl := showL_len (HRT.out.mono (by omega : k + 1 ≤ len))
        have HSS : Hid (showL c (k + 1) = showL c k ++ lineL d a.code a.step) := by show _ = _; rw [showL, hd, ha]
        rw [HSS.out, List.length_append] at hsl
        have HLN : Hid (∀ w : World, Calls Tryd.prog 58 #[.agg #[.string a.code, .int .i64 a.places, .int .i64 a.step], .int .i64 (d : Int)] w fun e w' => e = .returned (.string (str (lineL d a.code a.step))) ∧ Below w.heap.size w w') := fun w => l4Line_any _ _ _ _ w (by rw [← ha]; exact hok.kind) hd20 (by rw [← ha]; exact code_len hok.name)
        obtain ⟨Y, hY⟩ : ∃ Y, str (lineL d a.code a.step) = Y := ⟨_, rfl⟩
        obtain ⟨X, hX⟩ : ∃ X, str (showL c k) = X := ⟨_, rfl⟩
        have f1 : (9223372036854775807 < X.size + Y.size) = False := eq_false (by rw [← hX, ← hY, str_size, str_size]; omega)
        have HXY : Hid (X ++ Y = str (showL c (k + 1))) := by show _ = _; rw [HSS.out, ← str_append, hX, hY]
        rw [hY] at HLN
        rw [hX]
        have HA : Hid (c k = a) := ha
        clear hB hok hd9 hd1 hd hsl hX hY ha
        go_wp2_with (go_at_call 18; refine (specChartOk_eq _ _ _ c _ hl HL.out HRk.out hv).mono ?_; rintro e w2 ⟨rfl, hb⟩; have HB2 : Hid (Below w.heap.size w w2) := bel_on HB.out hb; have HR2 : Hid (CR w2 (some ⟨kb, off, none⟩) len c) := HRk.out.below hb; clear hb)
        obtain ⟨c1, c2, c3⟩ := HR2.out.cell hlt
        rw [HA.out] at c1 c2 c3
        have HD : Hid (Calls Tryd.prog 51 #[.slice (some ⟨kb, off, none⟩) len cap, .int .i64 (k : Int)] w2.drew fun e w' => e = .returned (.int .i64 (d : Int)) ∧ w' = w2.drew) := l4Deep_eq _ len cap c w2.drew k hl HR2.out hlt HLW.out HDD.out
        refine wp_region_noPanic ?_
        refine wp_region_held_drew (S := fun w' => w'.cell? ⟨kb, off + k * 3, none⟩ = some (.string a.code) ∧ w'.cell? ⟨kb, off + k * 3 + 1, none⟩ = some (.int .i64 a.places) ∧ w'.cell? ⟨kb, off + k * 3 + 2, none⟩ = some (.int .i64 a.step)) (by kernel_rfl) ?_ (fun hHeld => ?_)
        · exact ⟨c1, c2, c3⟩
        refine wpAnyH_take (i := 0) (oi := { dst := some 15, op := Go.Op.move (Go.Operand.tmp 3), type := 9, pos := "l04_accounts.go:123", after := #[], guard := none }) (v := ?_) rfl (by kernel_rfl) (by kernel_rfl) (by kernel_rfl) (fun _ _ _ h => h) (Or.inl ⟨by rfl, ?_⟩) (by assumption) ?_
        rotate_left
        · (intro w hSw; (try dsimp only at hSw); go_simp <;> try with_reducible rfl)
        try simp only [Act.put, List.setIfInBounds_toArray, List.set_cons_zero, List.set_cons_succ]
        refine wpAnyH_take (i := 1) (oi := { dst := some 16, op := Go.Op.move (Go.Operand.tmp 0), type := 24, pos := "l04_accounts.go:123", after := #[], guard := none }) (v := ?_) rfl (by kernel_rfl) (by kernel_rfl) (by kernel_rfl) (fun _ _ _ h => h) (Or.inl ⟨by rfl, ?_⟩) (by assumption) ?_
        rotate_left
        · (intro w hSw; (try dsimp only at hSw); go_simp <;> try with_reducible rfl)
        try simp only [Act.put, List.setIfInBounds_toArray, List.set_cons_zero, List.set_cons_succ]
        refine wpAnyH_take (i := 2) (oi := { dst := some 17, op := Go.Op.move (Go.Operand.tmp 4), type := 3, pos := "l04_accounts.go:123", after := #[], guard := none }) (v := ?_) rfl (by kernel_rfl) (by kernel_rfl) (by kernel_rfl) (fun _ _ _ h => h) (Or.inl ⟨by rfl, ?_⟩) (by assumption) ?_
        rotate_left
        · (intro w hSw; (try dsimp only at hSw); go_simp <;> try with_reducible rfl)
        try simp only [Act.put, List.setIfInBounds_toArray, List.set_cons_zero, List.set_cons_succ]
        refine wpAnyH_take (i := 3) (oi := { dst := some 18, op := Go.Op.indexAddr 24 (Go.Operand.tmp 16) (Go.Operand.tmp 17), type := 0, pos := "l04_accounts.go:123", after := #[{ on := 1, ground := Go.Ground.data }, { on := 2, ground := Go.Ground.data }], guard := none }) (v := ?_) rfl (by kernel_rfl) (by kernel_rfl) (by kernel_rfl) (fun _ _ _ h => h) (Or.inl ⟨by rfl, ?_⟩) (by assumption) ?_
        rotate_left
        · (intro w hSw; (try dsimp only at hSw); go_simp <;> try with_reducible rfl)
        try simp only [Act.put, List.setIfInBounds_toArray, List.set_cons_zero, List.set_cons_succ]
        refine wpAnyH_take (i := 4) (oi := { dst := some 19, op := Go.Op.load 30 (Go.Operand.tmp 18), type := 30, pos := "l04_accounts.go:123", after := #[{ on := 3, ground := Go.Ground.data }], guard := none }) (v := ?_) rfl (by kernel_rfl) (by kernel_rfl) (by kernel_rfl) (fun _ _ _ h => h) (Or.inl ⟨by rfl, ?_⟩) (by assumption) ?_
        rotate_left
        · (intro w hSw; (try dsimp only at hSw); go_simp <;> try with_reducible rfl)
        try simp only [Act.put, List.setIfInBounds_toArray, List.set_cons_zero, List.set_cons_succ]
        refine wpAnyH_take (i := 5) (oi := { dst := some 20, op := Go.Op.move (Go.Operand.tmp 0), type := 24, pos := "l04_accounts.go:123", after := #[], guard := none }) (v := ?_) rfl (by kernel_rfl) (by kernel_rfl) (by kernel_rfl) (fun _ _ _ h => h) (Or.inl ⟨by rfl, ?_⟩) (by assumption) ?_
        rotate_left
        · (intro w hSw; (try dsimp only at hSw); go_simp <;> try with_reducible rfl)
        try simp only [Act.put, List.setIfInBounds_toArray, List.set_cons_zero, List.set_cons_succ]
        refine wpAnyH_take (i := 6) (oi := { dst := some 21, op := Go.Op.move (Go.Operand.tmp 4), type := 3, pos := "l04_accounts.go:123", after := #[], guard := none }) (v := ?_) rfl (by kernel_rfl) (by kernel_rfl) (by kernel_rfl) (fun _ _ _ h => h) (Or.inl ⟨by rfl, ?_⟩) (by assumption) ?_
        rotate_left
        · (intro w hSw; (try dsimp only at hSw); go_simp <;> try with_reducible rfl)
        try simp only [Act.put, List.setIfInBounds_toArray, List.set_cons_zero, List.set_cons_succ]
        refine wpAnyH_ready (rs := [7]) (by kernel_rfl) (by simp) ?_
        refine AllReadyH.cons (o := { dst := some 22, op := Go.Op.call { callee := Go.Callee.value (Go.Operand.func 51), args := #[Go.Operand.tmp 20, Go.Operand.tmp 21], argTypes := #[24, 3] }, type := 3, pos := "l04_accounts.go:123", after := #[{ on := 5, ground := Go.Ground.data }, { on := 6, ground := Go.Ground.data }], guard := none }) rfl (fun K hK => ?_) AllReadyH.nil
        go_simp
        (go_at_call 51; refine HD.out.mono ?_; rintro e w3 ⟨rfl, ew⟩; replace ew := ew.symm; subst ew)
        first | refine hK.out _ _ (by exact hHeld) (fun hHeld => ?_) | (go_wp2_with fail; refine hK.out _ _ (by exact hHeld) (fun hHeld => ?_))
        clear hK K
        try simp only [Act.put, List.setIfInBounds_toArray, List.set_cons_zero, List.set_cons_succ]
        refine wpAnyH_ready (rs := [8]) (by kernel_rfl) (by simp) ?_
        refine AllReadyH.cons (o := { dst := some 23, op := Go.Op.call { callee := Go.Callee.value (Go.Operand.func 58), args := #[Go.Operand.tmp 19, Go.Operand.tmp 22], argTypes := #[30, 3] }, type := 9, pos := "l04_accounts.go:123", after := #[{ on := 4, ground := Go.Ground.data }, { on := 7, ground := Go.Ground.data }, { on := 7, ground := Go.Ground.chain }], guard := none }) rfl (fun K hK => ?_) AllReadyH.nil
        go_simp
        (go_at_call 58; refine (HLN.out _).mono ?_; rintro e w3 ⟨rfl, b3⟩; have q1 : w3.cell? ⟨kb, off + k * 3, none⟩ = some (.string a.code) := keep_cell b3 c1; have q2 : w3.cell? ⟨kb, off + k * 3 + 1, none⟩ = some (.int .i64 a.places) := keep_cell b3 c2; have q3 : w3.cell? ⟨kb, off + k * 3 + 2, none⟩ = some (.int .i64 a.step) := keep_cell b3 c3)
        first | refine hK.out _ _ ⟨q1, q2, q3⟩ (fun hHeld => ?_) | (go_wp2_with fail; refine hK.out _ _ ⟨q1, q2, q3⟩ (fun hHeld => ?_))
        clear hK K
        try simp only [Act.put, List.setIfInBounds_toArray, List.set_cons_zero, List.set_cons_succ]
        refine wpAnyH_take (i := 9) (oi := { dst := some 24, op := Go.Op.binOp Go.BinOp.add 9 (Go.Operand.tmp 15) (Go.Operand.tmp 23) 9, type := 9, pos := "l04_accounts.go:123", after := #[{ on := 0, ground := Go.Ground.data }, { on := 8, ground := Go.Ground.data }], guard := none }) (v := ?_) rfl (by kernel_rfl) (by kernel_rfl) (by kernel_rfl) (fun _ _ _ h => h) (Or.inl ⟨by rfl, ?_⟩) (by assumption) ?_
        rotate_left
        · (intro w hSw; (try dsimp only at hSw); go_simp <;> try with_reducible rfl)
        try simp only [Act.put, List.setIfInBounds_toArray, List.set_cons_zero, List.set_cons_succ]
        refine wpAnyH_take (i := 10) (oi := { dst := some 3, op := Go.Op.assign (Go.Operand.tmp 24), type := 9, pos := "l04_accounts.go:123", after := #[{ on := 9, ground := Go.Ground.data }, { on := 8, ground := Go.Ground.chain }, { on := 0, ground := Go.Ground.phase }, { on := 1, ground := Go.Ground.phase }, { on := 2, ground := Go.Ground.phase }, { on := 3, ground := Go.Ground.phase }, { on := 4, ground := Go.Ground.phase }, { on := 5, ground := Go.Ground.phase }, { on := 6, ground := Go.Ground.phase }, { on := 7, ground := Go.Ground.phase }, { on := 8, ground := Go.Ground.phase }, { on := 9, ground := Go.Ground.phase }], guard := none }) (v := ?_) rfl (by kernel_rfl) (by kernel_rfl) (by kernel_rfl) (fun _ _ _ h => h) (Or.inl ⟨by rfl, ?_⟩) (by assumption) ?_
        rotate_left
        · (intro w hSw; (try dsimp only at hSw); go_simp <;> try with_reducible rfl)
        try simp only [Act.put, List.setIfInBounds_toArray, List.set_cons_zero, List.set_cons_succ]
        refine wpAnyH_done (by kernel_rfl) ?_ _
        refine NoPanic.normal ?_
        have HB3 : Hid (Below w.heap.size w w3) := bel_on HB2.out ⟨b3.os, b3.tape, b3.output, b3.size, b3.block⟩
        clear b3 c1 c2 c3 q1 q2 q3 hHeld
        go_wp2
        go_roundw
        case rel => exact ⟨k + 1, by omega, by go_num, by rw [HXY.out], HB3.out⟩
        case measure => simp [intOf]; omega
      · obtain rfl : k = len := by omega
        have HB : Hid (Below w.heap.size w wr) := hB
        clear hB
        go_wp2
        go_returns
        exact ⟨rfl, HB.out⟩

end Go.Proofs.YtkplhiahfebmlaaDoor
