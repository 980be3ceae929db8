/- Account numbers: the digits of a text and their rest by 97, in the program. -/
import Derived.Test.YtnglofgcckdbmaaDoorGa
import Derived.Test.YtnglofgcckdbmaaDoorBuD
import Derived.Lib.OthersKept
import Derived.BigCall
namespace Go.Proofs.YtnglofgcckdbmaaDoor
open Go Go.ChangeShapes Go.WideShapes Go.ChangeAt Go.RowKit
set_option linter.unusedVariables false
set_option linter.unusedSimpArgs false

/-- The digits of one sign: a letter's number has two. -/
def dgB (b : UInt8) : List UInt8 := if digU b = true then [b] else Lib.decDigits (b.toNat - 55)
def dgL : List UInt8 → List UInt8
  | [] => []
  | b :: l => dgB b ++ dgL l
theorem dgL_app : ∀ (l m : List UInt8), dgL (l ++ m) = dgL l ++ dgL m
  | [], m => rfl
  | b :: l, m => by simp [dgL, dgL_app l m]
theorem dgL_one (b : UInt8) : dgL [b] = dgB b := by simp [dgL]
theorem dgB_dig {b : UInt8} (h : digU b = true) : dgB b = [b] := if_pos h
theorem dgB_cap {b : UInt8} (h : digU b = false) : dgB b = Lib.decDigits (b.toNat - 55) := if_neg (by rw [h]; decide)
theorem dgB_two {b : UInt8} (hn : nbU b = true) (h : digU b = false) : dgB b = [UInt8.ofNat (48 + (b.toNat - 55) / 10), UInt8.ofNat (48 + (b.toNat - 55) % 10)] := by
  have := nb_cap hn h
  rw [dgB_cap h, Lib.decDigits_two (by omega) (by omega)]
theorem dgB_len {b : UInt8} (hn : nbU b = true) : (dgB b).length ≤ 2 := by
  cases h : digU b
  · rw [dgB_two hn h]; simp
  · rw [dgB_dig h]; simp
/-- All of them are digits. -/
theorem dgB_digs {b : UInt8} (hn : nbU b = true) : aL digU (dgB b) = true := by
  cases h : digU b
  · rw [dgB_two hn h]
    have := nb_cap hn h
    unfold aL digU inB
    simp only [List.all_cons, List.all_nil, Bool.and_true, Bool.and_eq_true, decide_eq_true_eq]
    have e1 : (UInt8.ofNat (48 + (b.toNat - 55) / 10)).toNat = 48 + (b.toNat - 55) / 10 := by simp; omega
    have e2 : (UInt8.ofNat (48 + (b.toNat - 55) % 10)).toNat = 48 + (b.toNat - 55) % 10 := by simp; omega
    rw [e1, e2]; omega
  · rw [dgB_dig h]; unfold aL; simp [h]
theorem dgL_digs : ∀ l, aL nbU l = true → aL digU (dgL l) = true
  | [], _ => rfl
  | b :: l, h => by
    unfold aL at h ⊢
    simp only [List.all_cons, Bool.and_eq_true] at h
    rw [dgL, List.all_append, Bool.and_eq_true]
    exact ⟨dgB_digs h.1, dgL_digs l h.2⟩
theorem dgL_len : ∀ l, aL nbU l = true → (dgL l).length ≤ 2 * l.length
  | [], _ => by simp [dgL]
  | b :: l, h => by
    unfold aL at h
    simp only [List.all_cons, Bool.and_eq_true] at h
    have := dgB_len h.1
    have := dgL_len l h.2
    rw [dgL, List.length_append, List.length_cons]; omega
/-- One digit more, modulo 97. -/
def rmS (n : Int) (b : UInt8) : Int := (10 * n + ((b.toNat : Int) - 48)) % 97
def rmL (l : List UInt8) : Int := l.foldl rmS 0
theorem rm_md {b : UInt8} (hn : nbU b = true) (n : Int) : (dgB b).foldl rmS n = mdS n b := by
  cases h : digU b
  · rw [dgB_two hn h]
    have hc := nb_cap hn h
    have e1 : (UInt8.ofNat (48 + (b.toNat - 55) / 10)).toNat = 48 + (b.toNat - 55) / 10 := by simp; omega
    have e2 : (UInt8.ofNat (48 + (b.toNat - 55) % 10)).toNat = 48 + (b.toNat - 55) % 10 := by simp; omega
    simp only [List.foldl_cons, List.foldl_nil]
    unfold rmS mdS
    rw [h, e1, e2]
    simp only [Bool.false_eq_true, if_false]
    omega
  · rw [dgB_dig h]
    simp only [List.foldl_cons, List.foldl_nil]
    unfold rmS mdS
    rw [h]
    simp only [if_true]
    omega
theorem foldl_md : ∀ (l : List UInt8) (n : Int), aL nbU l = true → (dgL l).foldl rmS n = l.foldl mdS n
  | [], n, _ => rfl
  | b :: l, n, h => by
    unfold aL at h
    simp only [List.all_cons, Bool.and_eq_true] at h
    rw [dgL, List.foldl_append, rm_md h.1, foldl_md l _ h.2]; rfl
theorem rmL_md {l : List UInt8} (h : aL nbU l = true) : rmL (dgL l) = mdL l := foldl_md l 0 h

set_option maxHeartbeats 4000000 in
set_option maxRecDepth 1000000 in
theorem digitsOf_any (s : ByteArray) (w : World) (hs : s.size ≤ 1000) (ha : aL nbU s.data.toList = true) :
    Calls Tryd.prog 55 #[.string s] w fun e w' => e = .returned (.string ⟨(dgL s.data.toList).toArray⟩) ∧ Below w.heap.size w w' := by
  have HNB : Hid (aL nbU s.data.toList = true) := ha
  clear ha
  go_enter Tryd.func55, Tryd.ntmps55
  go_wp2
  go_loopw [5] (fun _ wr => ∃ (pos : Nat) (acc : List UInt8), pos ≤ s.size ∧ Hid (Lib.IsBuilderF 86 5 w.heap.size w.heap.size (Lib.byteCells acc) wr ∧ wr.heap[w.heap.size + 1]? = some (.stringIter s pos) ∧ Below w.heap.size w wr ∧ acc = dgL (s.data.toList.take pos) ∧ acc.length ≤ 2 * pos)) (fun _ wr => s.size - wr.iterPos (w.heap.size + 1))
  case atStart =>
    refine ⟨0, [], Nat.zero_le _, (Lib.IsBuilderF.of (Lib.fresh_isBuilder 86 5 w)).alloc _, ?_, ((Below.refl _ w).alloc (Nat.le_refl _) _).alloc (by simp) _, rfl, by simp⟩
    have := World.iter_heap (w.alloc (.cells #[.pointer none, .slice none 0 0] 86)) s 0
    simpa using this
  case round =>
    obtain ⟨pos, acc, hpl, HH⟩ := hrel
    obtain ⟨hI, hit, hbw, hacc, hal⟩ := HH.out
    have hsz : w.heap.size + 1 < wr.heap.size := (Array.getElem?_eq_some_iff.1 hit).1
    by_cases hp : pos < s.size
    · have hnb := aL_get s pos hp HNB.out
      have h128 : (s[pos]'hp).toNat < 128 := by
        cases hd : digU s[pos]
        · have := nb_cap hnb hd; omega
        · have := inB_t (show inB (s[pos].toNat : Int) 48 57 = true from hd); omega
      have hnx : ∀ ty, (Instr.next (.pointer (some ⟨w.heap.size + 1, 0, none⟩)) true ty).run Tryd.prog wr = _ := fun ty => Lib.run_next_ascii_at wr (w.heap.size + 1) s pos ty hit hp h128
      have HI2 := hid (hI.iterAt hit (pos + 1))
      have Hit2 := hid (Lib.iterAt_heap wr (w.heap.size + 1) s pos (pos + 1) hit)
      have Hbw2 := hid (Lib.below_iterAt hbw (k := w.heap.size + 1) (by omega) s (pos + 1))
      have hsz2 : w.heap.size ≤ (wr.iterAt (w.heap.size + 1) s (pos + 1)).heap.size := by rw [Lib.iterAt_size]; omega
      have hsz3 : w.heap.size + 1 ≠ w.heap.size := by omega
      have Hit := hid hit
      have HAC : Hid (dgL (s.data.toList.take (pos + 1)) = acc ++ dgB s[pos]) := hid (by rw [take_s s pos hp, dgL_app, dgL_one, hacc])
      cases hd : digU s[pos]
      · have hcp := nb_cap hnb hd
        have HDG : Hid (dgB s[pos] = Lib.decDigits (s[pos].toNat - 55)) := hid (dgB_cap hd)
        have HLN := hid (dgB_len hnb)
        obtain ⟨j, hj⟩ : ∃ j : Nat, s[pos].toNat = j + 55 := ⟨s[pos].toNat - 55, by omega⟩
        have ej : s[pos].toNat - 55 = j := by omega
        rw [ej] at HDG
        have hjI : (s[pos].toNat : Int) = (j : Int) + 55 := by omega
        have hji : (10 : Int) + ((j : Int) + 55 - 65) = (j : Int) := by omega
        have hj10 : (10 : Int) ≤ (j : Int) ∧ (j : Int) ≤ 35 := by omega
        have Hj : Hid (j < 100) := hid (by omega)
        have hge : (65 : Int) ≤ (j : Int) + 55 := by omega
        rw [hjI] at hnx
        clear HH hI hit hbw hacc hnb hd hcp hj ej hjI
        go_wp2_with (first
          | (go_at_call 21; refine (Tryd.strconv_Itoa_small j Hj.out _).mono ?_; rintro e wq ⟨rfl, ew⟩; replace ew := ew.symm; subst ew)
          | (go_at_call 68; refine (Tryd.wString w.heap.size w.heap.size _ _ _ HI2.out (by rw [Lib.byteCells_length]; have : (⟨(Lib.decDigits j).toArray⟩ : ByteArray).size = (dgB s[pos]).length := (by rw [HDG.out]; rfl); have := HLN.out; omega) hsz2).mono ?_; rintro e W1 ⟨rfl, h1, b1, k1⟩; have HH1 : Hid (Lib.IsBuilderF 86 5 w.heap.size w.heap.size (Lib.byteCells (acc ++ dgB s[pos])) W1 ∧ W1.heap[w.heap.size + 1]? = some (.stringIter s (pos + 1)) ∧ Below w.heap.size w W1) := hid ⟨(by rw [Lib.byteCells_append, HDG.out]; exact Or.inr h1), k1.iter Hit2.out hsz3, Hbw2.out.trans b1⟩; clear h1 b1 k1))
        go_roundw
        case rel => exact ⟨pos + 1, acc ++ dgB s[pos], by omega, HH1.out.1, HH1.out.2.1, HH1.out.2.2, HAC.out.symm, by have := HLN.out; rw [List.length_append]; omega⟩
        case measure =>
          simp only [World.iterPos, HH1.out.2.1, Hit.out]
          omega
      · have hcp := inB_t (show inB (s[pos].toNat : Int) 48 57 = true from hd)
        have HDG : Hid (dgB s[pos] = [s[pos]]) := hid (dgB_dig hd)
        have HRC : Hid (Lib.runeCells (s[pos].toNat : Int) = Lib.byteCells [s[pos]]) := hid (by unfold Lib.runeCells; rw [Lib.encodeRuneZ_one (by omega) (by omega)]; rfl)
        obtain ⟨x, hx⟩ : ∃ x : Int, (s[pos].toNat : Int) = x := ⟨_, rfl⟩
        rw [hx] at hnx hcp HRC
        clear HH hI hit hbw hacc hnb hd hx
        go_wp2_with (go_at_call 69; refine (Tryd.wRune w.heap.size w.heap.size _ x (by omega) (by omega) _ HI2.out (by rw [Lib.byteCells_length]; omega) hsz2).mono ?_; rintro e W1 ⟨rfl, h1, b1, k1⟩; have HH1 : Hid (Lib.IsBuilderF 86 5 w.heap.size w.heap.size (Lib.byteCells (acc ++ dgB s[pos])) W1 ∧ W1.heap[w.heap.size + 1]? = some (.stringIter s (pos + 1)) ∧ Below w.heap.size w W1) := hid ⟨(by rw [Lib.byteCells_append, HDG.out, ← HRC.out]; exact Or.inr h1), k1.iter Hit2.out hsz3, Hbw2.out.trans b1⟩; clear h1 b1 k1)
        go_roundw
        case rel => exact ⟨pos + 1, acc ++ dgB s[pos], by omega, HH1.out.1, HH1.out.2.1, HH1.out.2.2, HAC.out.symm, by rw [List.length_append, HDG.out]; simp; omega⟩
        case measure =>
          simp only [World.iterPos, HH1.out.2.1, Hit.out]
          omega
    · have hnx : ∀ ty, (Instr.next (.pointer (some ⟨w.heap.size + 1, 0, none⟩)) true ty).run Tryd.prog wr = _ := fun ty => Lib.run_next_end_at wr (w.heap.size + 1) s pos ty hit hp
      have HF : Hid (acc = dgL s.data.toList) := hid (by rw [hacc, List.take_of_length_le (by simp; omega)])
      have HI := hid hI
      have HBW := hid hbw
      have hsz2 : w.heap.size ≤ wr.heap.size := by omega
      clear HH hI hit hbw hacc
      go_wp2_with (go_at_call 70; refine (Tryd.bString w.heap.size w.heap.size acc _ HI.out hsz2).mono ?_; rintro e W1 ⟨rfl, _, b1, _⟩; have HB1 := hid (HBW.out.trans b1); clear b1)
      go_returns
      exact ⟨by rw [HF.out]; rfl, HB1.out⟩
end Go.Proofs.YtnglofgcckdbmaaDoor
