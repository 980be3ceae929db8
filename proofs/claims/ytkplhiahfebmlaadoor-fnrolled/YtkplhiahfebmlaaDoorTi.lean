/- What is asked of the tree, in the program: whether it is right, where a code stands, an account by its place, whether it is a leaf. -/
import Derived.Test.YtkplhiahfebmlaaDoorTo
namespace Go.Proofs.YtkplhiahfebmlaaDoor
open Go.ChangeShapes Go.WideShapes Go.ChangeAt Go.RowKit
set_option linter.unusedVariables false
set_option linter.unusedSimpArgs false

section
variable {base T mp n : Nat} {c : Nat → C3} {N : Nat → Nat} {S : Nat → Value} {ns : Value}
theorem isRight_any (w : World) (h : TR Tryd.prog w base T mp n c N S ns) (hn : n ≤ 120) {v : Bool} (hv : decide (0 < (n : Int)) = v) :
    Calls Tryd.prog 53 #[.pointer (some ⟨T, 0, none⟩)] w fun e w' => e = .returned (.bool v) ∧ w' = w := by
  obtain ⟨adn, capn, rfl⟩ := row_form h.nodes
  have t1 := h.top1
  clear h
  go_enter Tryd.func53, Tryd.ntmps53
  go_wp2
  go_returns
  exact ⟨ret_bool (by rw [← hv]; simp), rfl⟩

def findI (c : Nat → C3) (n : Nat) (x : ByteArray) : Int := match codeAt c n x with | some i => (i : Int) | none => -1

theorem find_any (x : ByteArray) (w : World) (hx : x.size ≤ maxLen) (h : TR Tryd.prog w base T mp n c N S ns) :
    Calls Tryd.prog 55 #[.pointer (some ⟨T, 0, none⟩), .string x] w fun e w' => e = .returned (.int .i64 (findI c n x)) ∧ w' = w := by
  have t2 := h.top2
  cases hc : codeAt c n x with
  | none =>
    have HM : Hid (MT Tryd.prog 9 (.pointer none) w mp n (fun x => (codeAt c n x).map (fun i => pn (N (i + 1))))) := h.map
    have HF : Hid (findI c n x = -1) := by show findI c n x = -1; unfold findI; rw [hc]
    have hF : Hid (((codeAt c n x).map (fun i => pn (N (i + 1)))).getD (.pointer none) = .pointer none) := by show _ = _; rw [hc]; rfl
    have hO : Hid (((codeAt c n x).map (fun i => pn (N (i + 1)))).isSome = false) := by show _ = _; rw [hc]; rfl
    clear h hc
    go_enter Tryd.func55, Tryd.ntmps55
    go_wp2_with (at_lookup; refine wpList_look_mt _ rfl _ _ 62 rfl 9 60 key9 Tryd.underlying9 Tryd.underlying62 (.pointer none) (zero60 _) mp n (fun x => (codeAt c n x).map (fun i => pn (N (i + 1)))) rfl HM.out x rfl hx (.pointer none) false hF.out hO.out ?_)
    go_returns
    rw [HF.out]
    exact ⟨rfl, rfl⟩
  | some i =>
    have hi := (codeAt_some hc).1
    have HM : Hid (MT Tryd.prog 9 (.pointer none) w mp n (fun x => (codeAt c n x).map (fun i => pn (N (i + 1))))) := h.map
    have HF : Hid (findI c n x = (i : Int)) := by show findI c n x = (i : Int); unfold findI; rw [hc]
    have hF : Hid (((codeAt c n x).map (fun i => pn (N (i + 1)))).getD (.pointer none) = .pointer (some ⟨N (i + 1), 0, none⟩)) := by show _ = _; rw [hc]; rfl
    have hO : Hid (((codeAt c n x).map (fun i => pn (N (i + 1)))).isSome = true) := by show _ = _; rw [hc]; rfl
    have p1 := h.place (by omega : i + 1 ≤ n)
    rw [show (((i + 1 : Nat) : Int) - 1) = (i : Int) by omega] at p1
    clear h hc
    go_enter Tryd.func55, Tryd.ntmps55
    go_wp2_with (at_lookup; refine wpList_look_mt _ rfl _ _ 62 rfl 9 60 key9 Tryd.underlying9 Tryd.underlying62 (.pointer none) (zero60 _) mp n (fun x => (codeAt c n x).map (fun i => pn (N (i + 1)))) rfl HM.out x rfl hx (.pointer (some ⟨N (i + 1), 0, none⟩)) true hF.out hO.out ?_)
    go_returns
    rw [HF.out]
    exact ⟨rfl, rfl⟩

theorem at_in (i : Nat) (w : World) (h : TR Tryd.prog w base T mp n c N S ns) (hn : n ≤ 120) (hi : i < n) :
    Calls Tryd.prog 47 #[.pointer (some ⟨T, 0, none⟩), .int .i64 (i : Int)] w fun e w' => e = .returned (.tuple #[.pointer (some ⟨N (i + 1), 0, none⟩), .bool true]) ∧ w' = w := by
  obtain ⟨g, cap, rfl, _, _, hc⟩ := row_get h.nodes hi
  have t1 := h.top1
  have e1 : w.cell? ⟨g, i, none⟩ = some (.pointer (some ⟨N (i + 1), 0, none⟩)) := by rw [hc i hi]; simp [ptrs, hi, pn]
  have h1 : (i : Int) < (n : Int) := by omega
  clear h hc
  go_enter Tryd.func47, Tryd.ntmps47
  go_wp2
  go_returns
  exact ⟨rfl, rfl⟩
theorem at_out (x : Int) (w : World) (h : TR Tryd.prog w base T mp n c N S ns) (hn : n ≤ 120) (hx : ¬ (0 ≤ x ∧ x < (n : Int))) :
    Calls Tryd.prog 47 #[.pointer (some ⟨T, 0, none⟩), .int .i64 x] w fun e w' => e = .returned (.tuple #[.pointer none, .bool false]) ∧ w' = w := by
  obtain ⟨adn, capn, rfl⟩ := row_form h.nodes
  have t1 := h.top1
  clear h
  by_cases h1 : x < 0
  · have d1 : decide (x < 0) = true := decide_eq_true h1
    go_enter Tryd.func47, Tryd.ntmps47
    go_wp2
    go_returns
    exact ⟨rfl, rfl⟩
  · have d1 : decide (x < 0) = false := decide_eq_false h1
    have d2 : (n : Int) ≤ x := by omega
    go_enter Tryd.func47, Tryd.ntmps47
    go_wp2
    go_returns
    exact ⟨rfl, rfl⟩

theorem isLeaf_in (i : Nat) (w : World) (h : TR Tryd.prog w base T mp n c N S ns) (hn : n ≤ 120) (hi : i < n) {v : Bool} (hv : (((chL (par c) n (i + 1)).length : Int) == 0) = v) :
    Calls Tryd.prog 56 #[.pointer (some ⟨T, 0, none⟩), .int .i64 (i : Int)] w fun e w' => e = .returned (.bool v) ∧ w' = w := by
  have HT : Hid (TR Tryd.prog w base T mp n c N S ns) := h
  have p6 := h.partsC (by omega : i + 1 ≤ n)
  obtain ⟨ad, cp, hS⟩ := row_form (h.parts (i + 1) (by omega))
  rw [hS] at p6
  have hlen := chL_len (par c) n (i + 1)
  generalize (chL (par c) n (i + 1)).length = m at hv p6 hlen
  have hm : (m : Int) ≤ 120 := by omega
  clear h hS hlen
  go_enter Tryd.func56, Tryd.ntmps56
  go_wp2_with (go_at_call 47; refine (at_in i w HT.out hn hi).mono ?_; rintro e w' ⟨rfl, rfl⟩)
  go_returns
  exact ⟨ret_bool (by rw [← hv]), rfl⟩
theorem isLeaf_out (x : Int) (w : World) (h : TR Tryd.prog w base T mp n c N S ns) (hn : n ≤ 120) (hx : ¬ (0 ≤ x ∧ x < (n : Int))) :
    Calls Tryd.prog 56 #[.pointer (some ⟨T, 0, none⟩), .int .i64 x] w fun e w' => e = .returned (.bool false) ∧ w' = w := by
  have HT : Hid (TR Tryd.prog w base T mp n c N S ns) := h
  clear h
  go_enter Tryd.func56, Tryd.ntmps56
  go_wp2_with (go_at_call 47; refine (at_out x w HT.out hn hx).mono ?_; rintro e w' ⟨rfl, rfl⟩)
  go_returns
  exact ⟨rfl, rfl⟩
end

theorem tn_pos {len : Nat} {c : Nat → C3} : decide (0 < ((tn len c : Nat) : Int)) = chartB len c := by
  unfold tn
  cases h : chartB len c
  · simp
  · have := (chartB_iff.1 h).1
    simp; omega

section
variable (ad : Option Addr) (len cap : Nat) (c : Nat → C3) (w : World) (hl : (len : Int) ≤ 1048576) (hc : ∀ j, (c j).code.size ≤ maxLen) (hr : CR w ad len c) (hE : EL w)
include hl hc hr hE
theorem implChartOk_any : Calls Tryd.prog 20 #[.slice ad len cap] w fun e w' => e = .returned (.bool (chartB len c)) ∧ Below w.heap.size w w' := by
  have HC : Hid (Calls Tryd.prog 42 #[.slice ad len cap] w (TreeP len c w)) := treeOf_any ad len cap c w hl hc hr hE
  have hn := (tn_le len c).2
  have hb : decide (0 < ((tn len c : Nat) : Int)) = chartB len c := tn_pos
  have HBB : Hid (decide (0 < ((tn len c : Nat) : Int)) = chartB len c) := hb
  clear hr hE hc hb
  go_enter Tryd.func20, Tryd.ntmps20
  go_wp2_with (first
    | (go_at_call 42; refine HC.out.mono ?_; rintro e w1 ⟨T, mp, N, S, ns, rfl, h1, h2⟩; have HT : Hid (TR Tryd.prog w1 w.heap.size T mp (tn len c) c N S ns) := h1; have HB : Hid (Below w.heap.size w w1) := h2; clear h1 h2)
    | (go_at_call 53; refine (isRight_any w1 HT.out hn HBB.out).mono ?_; rintro e w2 ⟨rfl, rfl⟩))
  go_returns
  exact ⟨rfl, HB.out⟩
theorem implFind_any (x : ByteArray) (hx : x.size ≤ maxLen) : Calls Tryd.prog 23 #[.slice ad len cap, .string x] w fun e w' => e = .returned (.int .i64 (findI c (tn len c) x)) ∧ Below w.heap.size w w' := by
  have HC : Hid (Calls Tryd.prog 42 #[.slice ad len cap] w (TreeP len c w)) := treeOf_any ad len cap c w hl hc hr hE
  clear hr hE hc
  go_enter Tryd.func23, Tryd.ntmps23
  go_wp2_with (first
    | (go_at_call 42; refine HC.out.mono ?_; rintro e w1 ⟨T, mp, N, S, ns, rfl, h1, h2⟩; have HT : Hid (TR Tryd.prog w1 w.heap.size T mp (tn len c) c N S ns) := h1; have HB : Hid (Below w.heap.size w w1) := h2; clear h1 h2)
    | (go_at_call 55; refine (find_any x w1 hx HT.out).mono ?_; rintro e w2 ⟨rfl, rfl⟩))
  go_returns
  exact ⟨rfl, HB.out⟩
theorem implLeaf_in (i : Nat) (hi : i < tn len c) {v : Bool} (hv : (((chL (par c) (tn len c) (i + 1)).length : Int) == 0) = v) : Calls Tryd.prog 25 #[.slice ad len cap, .int .i64 (i : Int)] w fun e w' => e = .returned (.bool v) ∧ Below w.heap.size w w' := by
  have HC : Hid (Calls Tryd.prog 42 #[.slice ad len cap] w (TreeP len c w)) := treeOf_any ad len cap c w hl hc hr hE
  have hn := (tn_le len c).2
  have HV : Hid ((((chL (par c) (tn len c) (i + 1)).length : Int) == 0) = v) := hv
  clear hr hE hc hv
  go_enter Tryd.func25, Tryd.ntmps25
  go_wp2_with (first
    | (go_at_call 42; refine HC.out.mono ?_; rintro e w1 ⟨T, mp, N, S, ns, rfl, h1, h2⟩; have HT : Hid (TR Tryd.prog w1 w.heap.size T mp (tn len c) c N S ns) := h1; have HB : Hid (Below w.heap.size w w1) := h2; clear h1 h2)
    | (go_at_call 56; refine (isLeaf_in i w1 HT.out hn hi HV.out).mono ?_; rintro e w2 ⟨rfl, rfl⟩))
  go_returns
  exact ⟨rfl, HB.out⟩
theorem implLeaf_out (x : Int) (hx : ¬ (0 ≤ x ∧ x < ((tn len c : Nat) : Int))) : Calls Tryd.prog 25 #[.slice ad len cap, .int .i64 x] w fun e w' => e = .returned (.bool false) ∧ Below w.heap.size w w' := by
  have HC : Hid (Calls Tryd.prog 42 #[.slice ad len cap] w (TreeP len c w)) := treeOf_any ad len cap c w hl hc hr hE
  have hn := (tn_le len c).2
  have HX : Hid (¬ (0 ≤ x ∧ x < ((tn len c : Nat) : Int))) := hx
  clear hr hE hc hx
  go_enter Tryd.func25, Tryd.ntmps25
  go_wp2_with (first
    | (go_at_call 42; refine HC.out.mono ?_; rintro e w1 ⟨T, mp, N, S, ns, rfl, h1, h2⟩; have HT : Hid (TR Tryd.prog w1 w.heap.size T mp (tn len c) c N S ns) := h1; have HB : Hid (Below w.heap.size w w1) := h2; clear h1 h2)
    | (go_at_call 56; refine (isLeaf_out x w1 HT.out hn HX.out).mono ?_; rintro e w2 ⟨rfl, rfl⟩))
  go_returns
  exact ⟨rfl, HB.out⟩
end

end Go.Proofs.YtkplhiahfebmlaaDoor
