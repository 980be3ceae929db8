/- What FnNumbered draws; a number with one sign turned. -/
import Derived.Test.YtnglofgcckdbmaaDoorGf
import Derived.Test.YtnglofgcckdbmaaDoorXA
import Derived.Test.YtnglofgcckdbmaaDoorXb
import Derived.Test.YtnglofgcckdbmaaDoorXg
import Derived.Deep.RegionWith
import Derived.Laws.IdiomStrings
import Derived.Deep.RegionHeld3
namespace Go.Proofs.YtnglofgcckdbmaaDoor
open Go Go.ChangeShapes Go.WideShapes Go.ChangeAt Go.RowKit
set_option linter.unusedVariables false
set_option linter.unusedSimpArgs false

theorem CB.turns {b c : Nat} {w w' : World} {cs : Array Value} {t : TypeId} (h : CB w c cs t) (T : Turns b w w') (hne : c ≠ b) : CB w' c cs t := by
  have hlt := h.lt
  unfold CB at *; rw [T.block c hlt hne]; exact h
set_option maxRecDepth 20000 in
theorem pickS_any (b k L : Nat) (cs : Array Value) (w : World) (hc : Cursor w b) (hr : CB w k cs 9) (hk : k ≠ b) (hL : 1 ≤ L ∧ L ≤ 1000) (hs : ∀ j, j < L → ∃ t : ByteArray, cs[j]? = some (.string t) ∧ t.size ≤ 40) :
    Calls Tryd.prog 26 #[.pointer (some ⟨b, 0, none⟩), .slice (some ⟨k, 0, none⟩) L L] w fun e w' => (∃ t : ByteArray, e = .returned (.string t) ∧ t.size ≤ 40) ∧ Moved b w w' := by
  have HC : Hid (Cursor w b) := hc
  have HR : Hid (CB w k cs 9) := hr
  have HS : Hid (∀ j, j < L → ∃ t : ByteArray, cs[j]? = some (.string t) ∧ t.size ≤ 40) := hs
  have hL1 : (1 : Int) ≤ (L : Int) := by omega
  have hL2 : (L : Int) ≤ 1000 := by omega
  clear hc hr hs
  go_enter Tryd.func26, Tryd.ntmps26
  go_wp2_with (go_at_call 56; refine (below_any b _ _ HC.out).mono ?_; rintro e w1 ⟨x, rfl, x0, x1, x2, m1⟩; have x3 := x1 hL1; obtain ⟨j, rfl⟩ : ∃ j : Nat, x = (j : Int) := ⟨x.toNat, by omega⟩; have C1 := HR.out.turns m1.2 hk; obtain ⟨t, ht, hts⟩ := HS.out j (by omega); have c1 : w1.cell? ⟨k, j, none⟩ = some (.string t) := (C1.cell j).trans ht; have M1 : Hid (Moved b w w1) := m1; clear m1 C1 x1 x2 ht)
  go_returns
  exact ⟨⟨t, rfl, hts⟩, M1.out⟩

theorem turns_new {b : Nat} {w : World} {o : Obj} {w' : World} (h : Moved b (w.alloc o) w') : Moved b w w' := ⟨h.1, (Turns.refl b w |>.alloc o).trans h.2⟩

set_option maxRecDepth 20000 in
theorem big_f (ad : Option Addr) (len cap : Nat) (w : World) (h : (len : Int) ≤ 1048576) :
    Calls Tryd.prog 7 #[.slice ad len cap] w fun e w' => e = .returned (.bool false) ∧ w' = w := by
  have hd : decide ((1048576 : Int) < (len : Int)) = false := decide_eq_false (by omega)
  go_enter Tryd.func7, Tryd.ntmps7
  go_wp2
  go_returns
  exact ⟨rfl, rfl⟩
theorem ByteRow.bel {w w' : World} {ad : Option Addr} {len : Nat} (H : ByteRow w w.heap.size ad len) (t : Below w.heap.size w w') : ByteRow w' w.heap.size ad len := H.turns (Turns.of_below t)
set_option maxRecDepth 20000 in
theorem at_any (b : Nat) (ad : Option Addr) (len cap i : Nat) (w : World) (hl : (len : Int) ≤ 1048576) (hi : (i : Int) ≤ 1048576) (hr : ByteRow w b ad len) :
    Calls Tryd.prog 11 #[.slice ad len cap, .int .i64 (i : Int)] w fun e w' => ∃ x : Int, e = .returned (.int .i64 x) ∧ 0 ≤ x ∧ x ≤ 255 ∧ w' = w := by
  by_cases hlt : i < len
  · rcases hr with h | ⟨k, off, rfl, hb, hk, hcc⟩
    · omega
    · obtain ⟨c, c0, c1, hcell⟩ := hcc i hlt
      have hlt2 : (i : Int) < (len : Int) := by omega
      have HCC := hid hcc
      clear hcc
      go_enter Tryd.func11, Tryd.ntmps11
      go_wp2
      go_returns
      exact ⟨_, rfl, by first | exact c0 | omega, by first | exact c1 | omega, rfl⟩
  · have hlt2 : ¬ (i : Int) < (len : Int) := by omega
    go_enter Tryd.func11, Tryd.ntmps11
    go_wp2
    go_returns
    exact ⟨0, rfl, by omega, by omega, rfl⟩

theorem ByteRow.up {w W : World} {ad : Option Addr} {len : Nat} (H : ByteRow w w.heap.size ad len) (b : Below w.heap.size w W) : ByteRow W W.heap.size ad len := by
  rcases H with h | ⟨k, off, e, h1, h2, h3⟩
  · exact .inl h
  · exact .inr ⟨k, off, e, by have := b.size; omega, by have := b.size; omega, fun j hj => by obtain ⟨c, c0, c1, hc⟩ := h3 j hj; exact ⟨c, c0, c1, by rw [World.cell?_of_block (w := w) (b.block k h2)]; exact hc⟩⟩
theorem moved_bel {b : Nat} {w W W' : World} (hb : b = w.heap.size) (h : Below w.heap.size w W) (m : Moved b W W') : Below w.heap.size w W' := by
  subst hb
  exact h.trans ⟨m.2.os, m.2.tape, m.2.output, m.2.size, fun k hk => m.2.block k (by have := h.size; omega) (by omega)⟩
set_option maxRecDepth 20000 in
set_option maxHeartbeats 4000000 in
theorem drawRest_any (b : Nat) (w : World) (hc : Cursor w b) :
    Calls Tryd.prog 24 #[.pointer (some ⟨b, 0, none⟩)] w fun e w' => (∃ t : ByteArray, e = .returned (.string t) ∧ t.size ≤ 760) ∧ Moved b w w' := by
  have HC : Hid (Cursor w b) := hc
  clear hc
  go_enter Tryd.func24, Tryd.ntmps24
  go_wp2_with (go_at_call 56; refine (below_any b _ _ HC.out).mono ?_; rintro e w1 ⟨x, rfl, x0, x1, x2, m1⟩; have x3 := x1 (by decide); have M1 : Hid (Moved b w w1) := m1; clear m1 x1 x2)
  obtain ⟨N, hN⟩ : ∃ N : Nat, 4 + x = (N : Int) := ⟨(4 + x).toNat, by omega⟩
  have hN2 : N ≤ 19 := by omega
  rw [hN]
  clear hN x0 x3
  go_loopw [3, 4] (fun v n wr => ∃ (q : Nat) (t : ByteArray), v = .string t ∧ n = .int .i64 (q : Int) ∧ q ≤ 19 ∧ t.size + 40 * q ≤ 760 ∧ Hid (Moved b w wr)) (fun _ n _ => (intOf n).toNat)
  case atStart => exact ⟨N, ⟨#[]⟩, rfl, rfl, hN2, by have : (⟨#[]⟩ : ByteArray).size = 0 := rfl; omega, M1⟩
  case round =>
    obtain ⟨q, t, rfl, rfl, hq, ht, HM⟩ := hrel
    obtain ⟨wo, rfl⟩ : ∃ x, x = wr := ⟨wr, rfl⟩
    by_cases h0 : 0 < q
    · have h02 : (0 : Int) < (q : Int) := by omega
      have hb := HM.out.1.lt
      go_wp2_with (go_at_call 26; refine (pickS_any b wo.heap.size 8 _ _ (HM.out.1.alloc _) (CB.new _ _) (by omega) (by omega) (fun j hj => by rcases (by omega : j = 0 ∨ j = 1 ∨ j = 2 ∨ j = 3 ∨ j = 4 ∨ j = 5 ∨ j = 6 ∨ j = 7) with rfl | rfl | rfl | rfl | rfl | rfl | rfl | rfl <;> exact ⟨_, rfl, by decide⟩)).mono ?_; rintro e w2 ⟨⟨u, rfl, hu⟩, m2⟩; have M2 : Hid (Moved b w w2) := HM.out.trans (turns_new m2); have hsz : t.size + u.size ≤ 9223372036854775807 := (by omega); clear m2)
      go_roundw
      case rel => exact ⟨q - 1, t ++ u, rfl, by rw [show ((q - 1 : Nat) : Int) = (q : Int) - 1 by omega], by omega, by rw [ByteArray.size_append]; omega, M2⟩
      case measure => simp [intOf]; omega
    · have h02 : ¬ (0 : Int) < (q : Int) := by omega
      go_wp2
      go_returns
      exact ⟨⟨t, rfl, by omega⟩, HM.out⟩
/-- What DrawMakeNumber leaves. -/
def DmP (w : World) (e : Ending) (w' : World) : Prop := ∃ L R : ByteArray, e = .returned (.tuple #[.string L, .string R]) ∧ L.size ≤ 760 ∧ R.size ≤ 760 ∧ Below w.heap.size w w'
set_option maxRecDepth 20000 in
set_option maxHeartbeats 8000000 in
theorem drawMake_any (ad : Option Addr) (len cap : Nat) (w : World) (hl : (len : Int) ≤ 1048576) (hr : ByteRow w w.heap.size ad len) :
    Calls Tryd.prog 9 #[.slice ad len cap] w (DmP w) := by
  have HN : Hid (Calls Tryd.prog 23 #[.slice ad len cap] w fun e w' => e = .returned (.pointer (some ⟨w.heap.size, 0, none⟩)) ∧ Cursor w' w.heap.size ∧ Below w.heap.size w w') := new_any ad len cap w (by omega) hr
  clear hr
  have tok1 : True := trivial
  go_enter Tryd.func9, Tryd.ntmps9
  go_wp2_with (first
    | (go_at_call 23; refine HN.out.mono ?_; rintro e w1 ⟨rfl, c1, b1⟩; have HC1 : Hid (Cursor w1 w.heap.size) := c1; have HB1 : Hid (Below w.heap.size w w1) := b1; clear c1 b1)
    | (go_at_call 24; refine (drawRest_any w.heap.size _ HC1.out).mono ?_; rintro e w2 ⟨⟨t, rfl, ht⟩, m2⟩; have HC2 : Hid (Cursor w2 w.heap.size) := m2.1; have HB2 : Hid (Below w.heap.size w w2) := hid (moved_bel rfl HB1.out m2); clear m2)
    | (go_at_call 25; refine (once_any w.heap.size _ _ HC2.out).mono ?_; rintro e w3 ⟨x, rfl, m3⟩; have HC3 : Hid (Cursor w3 w.heap.size) := m3.1; have HB3 : Hid (Below w.heap.size w w3) := hid (moved_bel rfl HB2.out m3); have hb3 := HC3.out.lt; clear m3; cases x))
  · go_wp2_with (go_at_call 26; refine (pickS_any w.heap.size w3.heap.size 10 _ _ (HC3.out.alloc _) (CB.new _ _) (by omega) (by omega) (fun j hj => by rcases (by omega : j = 0 ∨ j = 1 ∨ j = 2 ∨ j = 3 ∨ j = 4 ∨ j = 5 ∨ j = 6 ∨ j = 7 ∨ j = 8 ∨ j = 9) with rfl | rfl | rfl | rfl | rfl | rfl | rfl | rfl | rfl | rfl <;> exact ⟨_, rfl, by decide⟩)).mono ?_; rintro e w5 ⟨⟨v, rfl, hv⟩, m5⟩; have HB5 : Hid (Below w.heap.size w w5) := hid (moved_bel rfl HB3.out (turns_new m5)); clear m5)
    go_returns
    exact ⟨v, t, rfl, by omega, by omega, HB5.out⟩
  · go_wp2_with (first
      | (go_at_call 26; clear tok1; refine (pickS_any w.heap.size w3.heap.size 7 _ _ (HC3.out.alloc _) (CB.new _ _) (by omega) (by omega) (fun j hj => by rcases (by omega : j = 0 ∨ j = 1 ∨ j = 2 ∨ j = 3 ∨ j = 4 ∨ j = 5 ∨ j = 6) with rfl | rfl | rfl | rfl | rfl | rfl | rfl <;> exact ⟨_, rfl, by decide⟩)).mono ?_; rintro e w4 ⟨⟨u, rfl, hu⟩, m4⟩; have HC4 : Hid (Cursor w4 w.heap.size) := m4.1; have HB4 : Hid (Below w.heap.size w w4) := hid (moved_bel rfl HB3.out (turns_new m4)); have hb4 := HC4.out.lt; clear m4)
      | (go_at_call 26; refine (pickS_any w.heap.size w4.heap.size 10 _ _ (HC4.out.alloc _) (CB.new _ _) (by omega) (by omega) (fun j hj => by rcases (by omega : j = 0 ∨ j = 1 ∨ j = 2 ∨ j = 3 ∨ j = 4 ∨ j = 5 ∨ j = 6 ∨ j = 7 ∨ j = 8 ∨ j = 9) with rfl | rfl | rfl | rfl | rfl | rfl | rfl | rfl | rfl | rfl <;> exact ⟨_, rfl, by decide⟩)).mono ?_; rintro e w5 ⟨⟨v, rfl, hv⟩, m5⟩; have HB5 : Hid (Below w.heap.size w w5) := hid (moved_bel rfl HB4.out (turns_new m5)); clear m5))
    go_returns
    exact ⟨v, u, rfl, by omega, by omega, HB5.out⟩

theorem mdS_inj {b : UInt8} {n m : Int} (hn : 0 ≤ n ∧ n ≤ 96) (hm : 0 ≤ m ∧ m ≤ 96) (h : mdS n b = mdS m b) : n = m := by
  unfold mdS at h
  split at h <;> omega
theorem fold_inj : ∀ (l : List UInt8) {n m : Int}, 0 ≤ n ∧ n ≤ 96 → 0 ≤ m ∧ m ≤ 96 → l.foldl mdS n = l.foldl mdS m → n = m
  | [], n, m, _, _, h => h
  | b :: l, n, m, hn, hm, h => mdS_inj hn hm (fold_inj l (mdS_bd n b) (mdS_bd m b) h)
/-- Another sign of the same kind. -/
def Like (x y : UInt8) : Prop := x ≠ y ∧ ((digU x = true ∧ digU y = true) ∨ (capU x = true ∧ capU y = true))
theorem cap_dig {b : UInt8} (h : capU b = true) : digU b = false := by
  have := inB_t (show inB (b.toNat : Int) 65 90 = true from h)
  exact decide_eq_false (by omega)
theorem like_md {x y : UInt8} (h : Like x y) (n : Int) (hn : 0 ≤ n ∧ n ≤ 96) : mdS n x ≠ mdS n y := by
  obtain ⟨hne, hk⟩ := h
  have hne2 : x.toNat ≠ y.toNat := fun e => hne (UInt8.toNat_inj.1 e)
  rcases hk with ⟨h1, h2⟩ | ⟨h1, h2⟩
  · have a1 := inB_t (show inB (x.toNat : Int) 48 57 = true from h1)
    have a2 := inB_t (show inB (y.toNat : Int) 48 57 = true from h2)
    unfold mdS; rw [h1, h2]; simp only [if_true]; omega
  · have a1 := inB_t (show inB (x.toNat : Int) 65 90 = true from h1)
    have a2 := inB_t (show inB (y.toNat : Int) 65 90 = true from h2)
    unfold mdS; rw [cap_dig h1, cap_dig h2]; simp only [Bool.false_eq_true, if_false]; omega
theorem md_ne {x y : UInt8} (h : Like x y) (p q : List UInt8) : mdL (p ++ x :: q) ≠ mdL (p ++ y :: q) := by
  unfold mdL
  rw [List.foldl_append, List.foldl_append, List.foldl_cons, List.foldl_cons]
  intro e
  have hb := foldl_bd p 0 (by omega)
  exact like_md h _ hb (fold_inj q (mdS_bd _ _) (mdS_bd _ _) e)
theorem like_nb {x y : UInt8} (h : Like x y) : capU y = capU x ∧ digU y = digU x ∧ nbU y = nbU x := by
  rcases h.2 with ⟨h1, h2⟩ | ⟨h1, h2⟩
  · have d1 : capU x = false := by cases hc : capU x; rfl; rw [cap_dig hc] at h1; cases h1
    have d2 : capU y = false := by cases hc : capU y; rfl; rw [cap_dig hc] at h2; cases h2
    rw [h1, h2, d1, d2, dig_nb h1, dig_nb h2]; simp
  · rw [h1, h2, cap_dig h1, cap_dig h2, cap_nb h1, cap_nb h2]; simp
/-- With one sign made another one of its kind it is none. -/
theorem an_turned {p q : List UInt8} {x y : UInt8} (h : Like x y) (ha : anP (p ++ x :: q) = true) : anP (p ++ y :: q) = false := by
  obtain ⟨c1, c2, c3⟩ := like_nb h
  cases hb : anP (p ++ y :: q)
  · rfl
  exfalso
  match p, ha, hb with
  | [], ha, hb =>
    match q, ha, hb with
    | b :: c :: d :: r, ha, hb =>
      simp only [List.nil_append, anP, Bool.and_eq_true, beq_iff_eq] at ha hb
      exact md_ne h r [b, c, d] (ha.2.trans hb.2.symm)
  | [a], ha, hb =>
    match q, ha, hb with
    | c :: d :: r, ha, hb =>
      simp only [List.cons_append, List.nil_append, anP, Bool.and_eq_true, beq_iff_eq] at ha hb
      have := md_ne h (r ++ [a]) [c, d]
      simp only [List.append_assoc, List.cons_append, List.nil_append] at this
      exact this (ha.2.trans hb.2.symm)
  | [a, b], ha, hb =>
    match q, ha, hb with
    | d :: r, ha, hb =>
      simp only [List.cons_append, List.nil_append, anP, Bool.and_eq_true, beq_iff_eq] at ha hb
      have := md_ne h (r ++ [a, b]) [d]
      simp only [List.append_assoc, List.cons_append, List.nil_append] at this
      exact this (ha.2.trans hb.2.symm)
  | [a, b, c], ha, hb =>
    simp only [List.cons_append, List.nil_append, anP, Bool.and_eq_true, beq_iff_eq] at ha hb
    have := md_ne h (q ++ [a, b, c]) []
    simp only [List.append_assoc, List.cons_append, List.nil_append] at this
    exact this (ha.2.trans hb.2.symm)
  | a :: b :: c :: d :: r, ha, hb =>
    simp only [List.cons_append, anP, Bool.and_eq_true, beq_iff_eq] at ha hb
    have := md_ne h r (q ++ [a, b, c, d])
    simp only [List.append_assoc, List.cons_append] at ha hb
    exact this (ha.2.trans hb.2.symm)
theorem mkV_an {L R : ByteArray} (h : okB L R = true) : anP (mkV L R).data.toList = true ∧ (mkV L R).size = 4 + R.size ∧ R.size ≤ 26 := by
  have h2 : L.size = 2 := by
    unfold okB at h
    simp only [Bool.and_eq_true, decide_eq_true_eq] at h
    exact h.1.1
  have hb : R.size ≤ 26 := by
    unfold okB at h
    simp only [Bool.and_eq_true, decide_eq_true_eq] at h
    have := inB_t h.2.1
    omega
  have hk := ckN_bd L R
  unfold mkV
  rw [if_pos h]
  refine ⟨?_, ?_, hb⟩
  · rw [an_cat h2 (by omega), h, ck_one hk.1 hk.2]; simp
  · rw [ByteArray.size_append, ByteArray.size_append, h2]
    have : (ddB (ckN L R)).size = 2 := rfl
    omega
theorem anP_nb {l : List UInt8} (h : anP l = true) : aL nbU l = true := by
  unfold anP at h
  split at h
  · simp only [Bool.and_eq_true] at h
    obtain ⟨⟨⟨⟨a1, a2⟩, a3, a4⟩, a5, a6⟩, _⟩ := h
    unfold aL at a6 ⊢
    simp [cap_nb a1, cap_nb a2, dig_nb a3, dig_nb a4, a6]
  · cases h
theorem one_make : mkV ⟨#[88, 88]⟩ ⟨#[48, 48, 48, 48]⟩ = ⟨#[88, 88, 57, 48, 48, 48, 48, 48]⟩ := by
  have e : ckN ⟨#[88, 88]⟩ ⟨#[48, 48, 48, 48]⟩ = 90 := by decide
  have o : okB ⟨#[88, 88]⟩ ⟨#[48, 48, 48, 48]⟩ = true := by decide
  unfold mkV
  rw [if_pos o, e]
  rfl
theorem tmod_nat {x : Int} {n : Nat} (h0 : 0 ≤ x) (hn : 0 < n) : ∃ i : Nat, i < n ∧ Int.tmod x (n : Int) = (i : Int) := by
  rw [Int.tmod_eq_emod_of_nonneg h0]
  have h1 := Int.emod_nonneg x (show (n : Int) ≠ 0 by omega)
  have h2 := Int.emod_lt_of_pos x (show (0 : Int) < (n : Int) by omega)
  exact ⟨(x % (n : Int)).toNat, by omega, by omega⟩
theorem split_b (s : ByteArray) (i : Nat) (h : i < s.size) : s.data.toList = s.data.toList.take i ++ s[i] :: s.data.toList.drop (i + 1) := by
  conv => lhs; rw [← List.take_append_drop i s.data.toList, drop_b s i h]
theorem emp_f {V : ByteArray} (h : 0 < V.size) : V.toList.isEmpty = false := by
  rw [ByteArray.toList_eq]
  have hl : V.data.toList.length = V.size := by simp
  cases e : V.data.toList with
  | nil => rw [e] at hl; simp at hl; omega
  | cons a l => rfl
theorem nb_kind {b : UInt8} (h : nbU b = true) : (48 ≤ (b.toNat : Int) ∧ (b.toNat : Int) ≤ 57) ∨ (65 ≤ (b.toNat : Int) ∧ (b.toNat : Int) ≤ 90) := by
  cases hd : digU b
  · exact .inr (nb_cap h hd)
  · exact .inl (inB_t (show inB (b.toNat : Int) 48 57 = true from hd))
theorem like_d {b : UInt8} {c z : Int} (hc : (b.toNat : Int) = c) (hk : 48 ≤ c ∧ c ≤ 57) (hz : 0 ≤ z ∧ z ≤ 9) (hne : 48 + z ≠ c) : Like b (UInt8.ofNat (48 + z).toNat) := by
  have e : (UInt8.ofNat (48 + z).toNat).toNat = (48 + z).toNat := u8_of (by omega)
  refine ⟨fun h => ?_, .inl ⟨?_, ?_⟩⟩
  · have := congrArg UInt8.toNat h; rw [e] at this; omega
  · exact inB_y (by omega) (by omega)
  · exact inB_y (by rw [e]; omega) (by rw [e]; omega)
theorem like_c {b : UInt8} {c z : Int} (hc : (b.toNat : Int) = c) (hk : 65 ≤ c ∧ c ≤ 90) (hz : 0 ≤ z ∧ z ≤ 25) (hne : 65 + z ≠ c) : Like b (UInt8.ofNat (65 + z).toNat) := by
  have e : (UInt8.ofNat (65 + z).toNat).toNat = (65 + z).toNat := u8_of (by omega)
  refine ⟨fun h => ?_, .inr ⟨?_, ?_⟩⟩
  · have := congrArg UInt8.toNat h; rw [e] at this; omega
  · exact inB_y (by omega) (by omega)
  · exact inB_y (by rw [e]; omega) (by rw [e]; omega)
theorem conv_one (y : Int) (hy : 0 ≤ y ∧ y ≤ 255) (w : World) : (convert 22 9 (.slice (some ⟨w.heap.size, 0, none⟩) 1 1)).run Tryd.prog (w.alloc (.cells #[.int .u8 y] 5)) = .ok (.string ⟨#[UInt8.ofNat y.toNat]⟩) (w.alloc (.cells #[.int .u8 y] 5)) := by
  have e : ((UInt8.ofNat y.toNat).toNat : Int) = y := by rw [u8_of (by omega)]; omega
  have h := run_convert_bytes_back (P := Tryd.prog) (w.alloc (.cells #[.int .u8 y] 5)) 22 9 5 ⟨w.heap.size, 0, none⟩ 1 [UInt8.ofNat y.toNat] Tryd.underlying22 Tryd.underlying5 Tryd.underlying9 (fun j hj => by
    obtain rfl : j = 0 := by simpa using hj
    show _ = some (Value.int .u8 ((UInt8.ofNat y.toNat).toNat : Int))
    rw [e]
    exact ((CB.new (w := w) #[.int .u8 y] 5).cell 0).trans rfl)
  exact h
/-- What is put together has one sign turned. -/
theorem turned_l (V : ByteArray) (i : Nat) (h : i < V.size) (x : UInt8) : (((V.extract 0 i) ++ (⟨#[x]⟩ : ByteArray)) ++ V.extract (i + 1) V.size).data.toList = V.data.toList.take i ++ x :: V.data.toList.drop (i + 1) := by
  rw [ByteArray.data_append, ByteArray.data_append, Array.toList_append, Array.toList_append, ext_l, ext_l, List.take_of_length_le (l := List.drop (i + 1) V.data.toList) (by simp)]
  simp
theorem turned_an (V : ByteArray) (i : Nat) (h : i < V.size) (x : UInt8) (hl : Like V[i] x) (ha : anP V.data.toList = true) : anP (((V.extract 0 i) ++ (⟨#[x]⟩ : ByteArray)) ++ V.extract (i + 1) V.size).data.toList = false := by
  rw [turned_l V i h x]
  exact an_turned hl (by rw [← split_b V i h]; exact ha)
theorem turned_sz (V : ByteArray) (i : Nat) (h : i < V.size) (x : UInt8) (hv : (V.size : Int) ≤ 30) : ((((V.extract 0 i) ++ (⟨#[x]⟩ : ByteArray)) ++ V.extract (i + 1) V.size).size : Int) ≤ 9223372036854775807 := by
  rw [ByteArray.size_append, ByteArray.size_append, ByteArray.size_extract, ByteArray.size_extract]
  have : (⟨#[x]⟩ : ByteArray).size = 1 := rfl
  omega
end Go.Proofs.YtnglofgcckdbmaaDoor
