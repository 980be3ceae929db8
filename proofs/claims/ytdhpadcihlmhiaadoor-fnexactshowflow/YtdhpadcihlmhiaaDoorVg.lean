/- The contract of the program's ShowMoney: an amount with places is the text 'showI'; else the empty text; nothing that was there is written. -/
import Derived.Test.YtdhpadcihlmhiaaDoorVf
import Derived.Test.YtdhpadcihlmhiaaDoorVe
import Derived.Test.YtdhpadcihlmhiaaDoorItL
import Derived.WalkSmall
namespace Go.Proofs.YtdhpadcihlmhiaaDoor.Mny
open Go.ChangeShapes Go.WideShapes Go.ChangeAt Go.RowKit
set_option linter.unusedVariables false
set_option linter.unusedSimpArgs false
open Go.Lib

theorem grow_below (w : World) (k : Nat) (os : Array Obj) : Below w.heap.size w (Go.Sort.grow (w.drewN k) os) := by
  refine ⟨rfl, rfl, rfl, ?_, fun j hj => ?_⟩
  · show w.heap.size ≤ (w.heap ++ os).size
    simp
  · show (w.heap ++ os)[j]? = w.heap[j]?
    rw [Array.getElem?_append_left hj]

theorem itoa_ex (x : Int) (w : World) (h0 : 0 ≤ x) (h1 : x ≤ 100000000000) (htab : Lib.TabIs Tryd.prog w "internal/strconv.uint64pow10" .u64 Lib.pow10Tab) :
    Calls Tryd.prog 126 #[.int .i64 x] w fun e w' => ∃ A : ByteArray, e = .returned (.string A) ∧ Hid (A.data.toList = decDigits x.toNat) ∧ 1 ≤ (A.size : Int) ∧ (A.size : Int) ≤ 18 ∧ Below w.heap.size w w' := by
  refine (Tryd.strconv_Itoa x (by omega) (by omega) w htab).mono ?_
  rintro e w' ⟨rfl, k, os, rfl⟩
  have e1 : Lib.itoa x = decDigits x.toNat := by unfold Lib.itoa; rw [if_neg (by omega)]
  rw [e1]
  have l1 := dec_len_le x.toNat (by omega)
  have l2 : 1 ≤ (decDigits x.toNat).length := by
    cases e : decDigits x.toNat with
    | nil => exact absurd e (dec_ne _)
    | cons => simp
  refine ⟨_, rfl, rfl, ?_, ?_, grow_below w k os⟩
  · show (1 : Int) ≤ (((decDigits x.toNat).length : Nat) : Int); omega
  · show (((decDigits x.toNat).length : Nat) : Int) ≤ 18; omega

theorem rep_zeros : ∀ n : Nat, Lib.repeatL [48] n = zeros n
  | 0 => rfl
  | n + 1 => by rw [Lib.repeatL, rep_zeros n]; simp [zeros, List.replicate_succ]

theorem repeat_ex (n : Int) (w : World) (h0 : 0 ≤ n) (h1 : n ≤ 7) :
    Calls Tryd.prog 127 #[.string ⟨#[48]⟩, .int .i64 n] w fun e w' => ∃ Z : ByteArray, e = .returned (.string Z) ∧ Hid (Z.data.toList = zeros n.toNat) ∧ (Z.size : Int) = n ∧ Below w.heap.size w w' := by
  have := Tryd.strings_Repeat ⟨#[48]⟩ n.toNat w (by omega) (by show 1 * n.toNat ≤ _; omega)
  rw [show ((n.toNat : Nat) : Int) = n by omega] at this
  refine this.mono ?_
  rintro e w' ⟨rfl, hb⟩
  have e1 : Lib.repeatL (⟨#[48]⟩ : ByteArray).data.toList n.toNat = zeros n.toNat := rep_zeros _
  rw [e1]
  refine ⟨_, rfl, rfl, ?_, hb⟩
  show (((zeros n.toNat).length : Nat) : Int) = _
  rw [zeros_len]; omega

/-- The text out of its pieces. -/
theorem pieces (sg D : ByteArray) (a p n : Nat) (hD : D.data.toList = padL a p) (hn : n + p = D.size) (hp : p ≠ 0) :
    sg ++ D.extract 0 n ++ (⟨#[46]⟩ : ByteArray) ++ D.extract n D.size = sg ++ str (showL a p) := by
  have hsz : D.size = (padL a p).length := by rw [Lib.size_eq, hD]
  have e1 : (D.extract 0 n).data.toList = (padL a p).take ((padL a p).length - p) := by
    rw [extract_data, hD, List.drop_zero]; congr 1; omega
  have e2 : (D.extract n D.size).data.toList = (padL a p).drop ((padL a p).length - p) := by
    rw [extract_data, hD, List.take_of_length_le (by rw [List.length_drop]; omega)]; congr 1; omega
  have h := padL_show a p
  rw [if_neg hp] at h
  apply ByteArray.ext
  apply Array.toList_inj.mp
  simp only [ByteArray.data_append, Array.toList_append, e1, e2, str]
  rw [← h]
  simp

theorem empty_add (A : ByteArray) : (⟨#[]⟩ : ByteArray) ++ A = A := by
  apply ByteArray.ext; simp

theorem pad_of {A Z : ByteArray} {a p : Nat} {n : Int} (hA : A.data.toList = decDigits a) (hZ : Z.data.toList = zeros n.toNat) (hn : n = (p : Int) + 1 - (A.size : Int)) : (Z ++ A).data.toList = padL a p := by
  have : n.toNat = p + 1 - (decDigits a).length := by rw [← hA, ← Lib.size_eq]; omega
  unfold padL
  simp only [ByteArray.data_append, Array.toList_append]
  rw [hA, hZ, this]

theorem pad_none {A : ByteArray} {a p : Nat} (hA : A.data.toList = decDigits a) (hn : (p : Int) + 1 ≤ (A.size : Int)) : A.data.toList = padL a p := by
  unfold padL
  have : p + 1 - (decDigits a).length = 0 := by rw [← hA, ← Lib.size_eq]; omega
  rw [this, hA]; rfl

end Go.Proofs.YtdhpadcihlmhiaaDoor.Mny
