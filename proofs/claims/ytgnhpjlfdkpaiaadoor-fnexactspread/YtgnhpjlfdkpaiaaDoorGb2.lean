/- The laws' marks over lines, entries and ledgers: what they write, and that it is found again. The laws' marks over entries, an entry and a ledger. The laws' marks over entries, an entry and a ledger. The laws' marks over entries, an entry and a ledger. The laws' marks over a ledger and over one entry. -/
import Derived.Test.YtgnhpjlfdkpaiaaDoorGa
import Derived.Test.YtgnhpjlfdkpaiaaDoorLt
namespace Go.Proofs.YtgnhpjlfdkpaiaaDoor
open Go.ChangeShapes Go.WideShapes Go.ChangeAt Go.RowKit
set_option linter.unusedVariables false
set_option linter.unusedSimpArgs false

set_option maxRecDepth 20000 in
set_option maxHeartbeats 2000000 in
theorem markText_is (x : Int) (w : World) (h0 : 0 < x) (h1 : x ≤ 10000000000000) :
    Calls Tryd.prog 112 #[.int .i64 x] w fun e w' => e = .returned (.string (mt x)) ∧ Below w.heap.size w w' := by
  go_enter Tryd.func112, Tryd.ntmps112
  go_wp2
  go_loopw [0, 3] (fun u v wr => ∃ (k : Int) (s : ByteArray) (f : Nat), 0 ≤ k ∧ k ≤ x ∧ u = .int .i64 k ∧ v = .string s ∧ (s.size : Int) + k ≤ x ∧ k < (f : Int) ∧ Hid (mtF f k s = mtF (x.toNat + 1) x ByteArray.empty) ∧ Below w.heap.size w wr) (fun u v _ => (intOf u).toNat)
  case atStart => exact ⟨x, _, x.toNat + 1, by omega, by omega, rfl, rfl, by show ((0 : Nat) : Int) + x ≤ x; omega, by omega, rfl, Below.refl _ _⟩
  case round =>
    obtain ⟨k, s, f, hk0, hkx, rfl, rfl, hsz, hf, HF, hB⟩ := hrel
    by_cases hk : 0 < k
    · have hw : w.heap.size ≤ wr.heap.size := hB.size
      obtain ⟨f', rfl⟩ : ∃ f', f = f' + 1 := ⟨f - 1, by omega⟩
      have HB : Hid (Below w.heap.size w (wr.alloc (.cells #[.int .u8 (48 + k % 10)] 5 (0, 0)))) := hB.alloc hw _
      have hm1 : 0 ≤ k % 10 := by omega
      have hm2 : k % 10 < 10 := by omega
      have hd : k / 10 < k := by omega
      have HF2 : Hid (mtF f' (k / 10) ((⟨#[UInt8.ofNat (48 + k % 10).toNat]⟩ : ByteArray) ++ s) = mtF (x.toNat + 1) x ByteArray.empty) := (mtF_step hk).symm.trans HF.out
      obtain ⟨d, hdd⟩ : ∃ d : UInt8, d = UInt8.ofNat (48 + k % 10).toNat := ⟨_, rfl⟩
      have hd' : (d.toNat : Int) = 48 + k % 10 := by
        rw [hdd]
        simp
        omega
      rw [← hdd] at HF2
      have hconv : (convert 22 9 (.slice (some ⟨wr.heap.size, 0, none⟩) 1 1)).run Tryd.prog (wr.alloc (.cells #[.int .u8 (48 + k % 10)] 5 (0, 0))) = .ok (.string ⟨#[d]⟩) (wr.alloc (.cells #[.int .u8 (48 + k % 10)] 5 (0, 0))) := by
        have := run_convert_bytes_back (P := Tryd.prog) (wr.alloc (.cells #[.int .u8 (48 + k % 10)] 5 (0, 0))) 22 9 5 ⟨wr.heap.size, 0, none⟩ 1 [d] Tryd.underlying22 Tryd.underlying5 Tryd.underlying9 (fun j hj => by
          obtain rfl : j = 0 := by simp at hj; omega
          rw [← hd']
          exact ((CB.new (w := wr) #[.int .u8 (d.toNat : Int)] 5).cell 0).trans rfl)
        exact this
      have hsz2 : ((⟨#[d]⟩ : ByteArray) ++ s).size = s.size + 1 := by rw [ByteArray.size_append]; show 1 + s.size = _; omega
      have HSZ : Hid (((⟨#[d]⟩ : ByteArray) ++ s).size = s.size + 1) := hsz2
      have hs1 : (⟨#[d]⟩ : ByteArray).size = 1 := rfl
      have hs4 : (s.size : Int) ≤ 10000000000000 := by omega
      clear hB hd' hsz2 hdd HF
      go_wp2
      go_roundw
      case rel => exact ⟨k / 10, (⟨#[d]⟩ : ByteArray) ++ s, f', by omega, by omega, by go_num, rfl, by have := HSZ.out; rw [this]; omega, by omega, HF2, HB.out⟩
      case measure => simp [intOf]; omega
    · have hk1 : k = 0 := by omega
      subst hk1
      have HB : Hid (Below w.heap.size w wr) := hB
      have HE : Hid (s = mtF (x.toNat + 1) x ByteArray.empty) := (mtF_end (by omega)).symm.trans HF.out
      clear hB HF
      have hs4 : (s.size : Int) ≤ 10000000000000 := by omega
      go_wp2
      go_returns
      exact ⟨by unfold mt; rw [← HE.out]; rfl, HB.out⟩

theorem mk_cells {cs : Array Value} {j n : Nat} {k a b c d e : Int} (h : ∀ i, i < j → Cells5 cs (i * 5) (mkL k i)) (hs : cs.size = n * 5) (hj : j < n) (ha : a = k + 5 * j) (hb : b = k + 5 * j + 1) (hc : c = k + 5 * j + 2) (hd : d = k + 5 * j + 3) (he : e = k + 5 * j + 4) :
    ∀ i, i < j + 1 → Cells5 (((((cs.setIfInBounds (j * 5) (.int .i64 a)).setIfInBounds (j * 5 + 1) (.int .i64 b)).setIfInBounds (j * 5 + 2) (.int .i64 c)).setIfInBounds (j * 5 + 3) (.int .i64 d)).setIfInBounds (j * 5 + 4) (.int .i64 e)) (i * 5) (mkL k i) := by
  subst ha hb hc hd he
  intro i hi
  by_cases hij : i = j
  · subst hij; exact put5_get (l := mkL k i) (by omega)
  · exact put5_other (l := mkL k j) (h i (by omega)) (by omega)

set_option maxRecDepth 20000 in
set_option maxHeartbeats 2000000 in
theorem markLineS_blk (b n cap : Nat) (ls : Nat → L5) (k : Int) (w : World) (h : (n : Int) ≤ 1048576) (h0 : 0 < k) (h1 : k ≤ 9000000000000) (hO : OwnL w b n ls 56) :
    Calls Tryd.prog 107 #[.slice (some ⟨b, 0, none⟩) n cap, .int .i64 k] w fun e w' => e = .returned (.int .i64 (k + 5 * (n : Int))) ∧ OwnL w' b n (mkL k) 56 ∧ KR b (b + 1) w w' := by
  obtain ⟨cs0, hC0, hs0, _⟩ := hO
  have HC : Hid (CB w b cs0 56) := hC0
  clear hC0
  go_enter Tryd.func107, Tryd.ntmps107
  go_wp2
  go_loopw [1, 5] (fun u i wr => ∃ (j : Nat) (cs : Array Value), j ≤ n ∧ i = .int .i64 (j : Int) ∧ u = .int .i64 (k + 5 * (j : Int)) ∧ CB wr b cs 56 ∧ cs.size = n * 5 ∧ Hid (∀ i, i < j → Cells5 cs (i * 5) (mkL k i)) ∧ KR b (b + 1) w wr) (fun u i _ => n - (intOf i).toNat)
  case atStart => exact ⟨0, cs0, Nat.zero_le _, rfl, by simp, HC.out, hs0, fun i hi => by omega, KR.refl _ _ _⟩
  case round =>
    obtain ⟨j, cs, hj, rfl, rfl, hC, hs, HM, hK⟩ := hrel
    have HCC : Hid (CB wr b cs 56) := hC
    have HS : Hid (cs.size = n * 5) := hs
    have HK : Hid (KR b (b + 1) w wr) := hK
    by_cases hlt : j < n
    · have hlt2 : (j : Int) < (n : Int) := by omega
      obtain ⟨v0, d0⟩ : ∃ v, cs[j * 5]? = some v := ⟨cs[j * 5]'(by omega), Array.getElem?_eq_getElem (by omega)⟩
      obtain ⟨v1, d1⟩ : ∃ v, cs[j * 5 + 1]? = some v := ⟨cs[j * 5 + 1]'(by omega), Array.getElem?_eq_getElem (by omega)⟩
      obtain ⟨v2, d2⟩ : ∃ v, cs[j * 5 + 2]? = some v := ⟨cs[j * 5 + 2]'(by omega), Array.getElem?_eq_getElem (by omega)⟩
      obtain ⟨v3, d3⟩ : ∃ v, cs[j * 5 + 3]? = some v := ⟨cs[j * 5 + 3]'(by omega), Array.getElem?_eq_getElem (by omega)⟩
      obtain ⟨v4, d4⟩ : ∃ v, cs[j * 5 + 4]? = some v := ⟨cs[j * 5 + 4]'(by omega), Array.getElem?_eq_getElem (by omega)⟩
      have x0 := (hC.cell (j * 5)).trans d0
      have x1 := (hC.cell (j * 5 + 1)).trans d1
      have x2 := (hC.cell (j * 5 + 2)).trans d2
      have x3 := (hC.cell (j * 5 + 3)).trans d3
      have x4 := (hC.cell (j * 5 + 4)).trans d4
      have f0 := hC.fr (j * 5)
      have f1 := hC.fr (j * 5 + 1)
      have f2 := hC.fr (j * 5 + 2)
      have f3 := hC.fr (j * 5 + 3)
      have f4 := hC.fr (j * 5 + 4)
      clear hC hs hK d0 d1 d2 d3 d4
      go_wp2
      go_roundw
      case rel => exact ⟨j + 1, _, by omega, by go_num, by go_num, ((((HCC.out.set _ _).set _ _).set _ _).set _ _).set _ _, by simp [HS.out], mk_cells HM.out HS.out hlt (by go_num) (by go_num) (by go_num) (by go_num) (by go_num), ((((HK.out.set (Nat.le_refl _) (by omega) _).set (Nat.le_refl _) (by omega) _).set (Nat.le_refl _) (by omega) _).set (Nat.le_refl _) (by omega) _).set (Nat.le_refl _) (by omega) _⟩
      case measure => simp [intOf]; omega
    · obtain rfl : j = n := by omega
      clear hC hs hK
      go_wp2
      go_returns
      exact ⟨rfl, ⟨cs, HCC.out, HS.out, HM.out⟩, HK.out⟩

set_option maxHeartbeats 1000000 in
theorem markLineS_none (ad : Option Addr) (cap : Nat) (k : Int) (w : World) :
    Calls Tryd.prog 107 #[.slice ad 0 cap, .int .i64 k] w fun e w' => e = .returned (.int .i64 k) ∧ w' = w := by
  go_enter Tryd.func107, Tryd.ntmps107
  go_wp2
  go_loopw [1, 5] (fun u i wr => i = .int .i64 0 ∧ u = .int .i64 k ∧ wr = w) (fun u i _ => 0)
  case atStart => exact ⟨rfl, rfl, rfl⟩
  case round =>
    obtain ⟨rfl, rfl, rfl⟩ := hrel
    go_wp2
    go_returns
    exact ⟨rfl, rfl⟩

set_option maxRecDepth 20000 in
set_option maxHeartbeats 2000000 in
theorem heldLineS_is (ad : Option Addr) (n cap : Nat) (k : Int) (w : World) (h : (n : Int) ≤ 1048576) (h0 : 0 < k) (h1 : k ≤ 9000000000000) (hL : LR w ad n (mkL k)) :
    Calls Tryd.prog 108 #[.slice ad n cap, .int .i64 k] w fun e w' => e = .returned (.int .i64 (k + 5 * (n : Int))) ∧ w' = w := by
  have HL : Hid (LR w ad n (mkL k)) := hL
  clear hL
  go_enter Tryd.func108, Tryd.ntmps108
  go_wp2
  go_loopw [1, 5] (fun u i wr => ∃ (j : Nat), j ≤ n ∧ i = .int .i64 (j : Int) ∧ u = .int .i64 (k + 5 * (j : Int)) ∧ wr = w) (fun u i _ => n - (intOf i).toNat)
  case atStart => exact ⟨0, Nat.zero_le _, rfl, by simp, rfl⟩
  case round =>
    obtain ⟨j, hj, rfl, rfl, rfl⟩ := hrel
    by_cases hlt : j < n
    · obtain ⟨kb, off, rfl, _⟩ := HL.out.addr (by omega)
      obtain ⟨x0, x1, x2, x3, x4⟩ := HL.out.cell hlt
      simp only [mkL] at x0 x1 x2 x3 x4
      go_wp2
      go_roundw
      case rel => exact ⟨j + 1, by omega, by go_num, by go_num, by first | rfl | trivial⟩
      case measure => simp [intOf]; omega
    · obtain rfl : j = n := by omega
      go_wp2
      go_returns
      exact ⟨rfl, rfl⟩

end Go.Proofs.YtgnhpjlfdkpaiaaDoor


namespace Go.Proofs.YtgnhpjlfdkpaiaaDoor
open Go.ChangeShapes Go.WideShapes Go.ChangeAt Go.RowKit
set_option linter.unusedVariables false
set_option linter.unusedSimpArgs false

def upE (e : Nat → E4) (j : Nat) (x : E4) : Nat → E4 := fun i => if i = j then x else e i
theorem OwnE.congr {w : World} {B m n : Nat} {e f : Nat → E4} {bl : Nat → Nat} {t tl : TypeId} (h : OwnE w B m n e bl t tl) (hf : ∀ i, i < n → e i = f i) : OwnE w B m n f bl t tl := by
  obtain ⟨cs, h1, h2, h3⟩ := h.main
  exact ⟨⟨cs, h1, h2, fun j hj => by rw [← hf j hj]; exact h3 j hj⟩, fun j hj => by rw [← hf j hj]; exact h.own j hj, h.apart, h.inj⟩

/-- One entry is marked: its three cells, then its lines. -/
theorem ownE_marked {w w1 w3 : World} {B m n j : Nat} {e : Nat → E4} {bl : Nat → Nat} {t tl : TypeId} (h : OwnE w B m n e bl t tl) (hj : j < n) (hm : n ≤ m) (d r : Int) (s : ByteArray) (ls : Nat → L5)
    (b1 : Below (((w.setCell ⟨B, j * 4, none⟩ (.int .i64 d)).setCell ⟨B, j * 4 + 1, none⟩ (.int .i64 r))).heap.size ((w.setCell ⟨B, j * 4, none⟩ (.int .i64 d)).setCell ⟨B, j * 4 + 1, none⟩ (.int .i64 r)) w1)
    (k3 : KR (bl j) (bl j + 1) (w1.setCell ⟨B, j * 4 + 2, none⟩ (.string s)) w3) (hO : OwnL w3 (bl j) (e j).n ls tl) :
    OwnE w3 B m n (upE e j ⟨d, r, s, (e j).n, ls⟩) bl t tl := by
  obtain ⟨cs, h1, h2, h3⟩ := h.main
  have hsz : ((w.setCell ⟨B, j * 4, none⟩ (.int .i64 d)).setCell ⟨B, j * 4 + 1, none⟩ (.int .i64 r)).heap.size = w.heap.size := by simp [World.setCell]
  have c1 := (((h1.set (j * 4) (.int .i64 d)).set (j * 4 + 1) (.int .i64 r)).below b1 (by rw [hsz]; exact h1.lt)).set (j * 4 + 2) (.string s)
  have c3 := c1.kr k3 (by have := h.apart j hj; omega)
  refine ⟨⟨_, c3, by simp [h2], fun i hi => ?_⟩, fun i hi => ?_, h.apart, h.inj⟩
  · by_cases hij : i = j
    · subst hij
      simp only [upE, if_true]
      obtain ⟨q1, q2, q3, q4⟩ := h3 i hi
      unfold CellsE
      refine ⟨?_, ?_, ?_, ?_⟩
      · rw [get_set_ne (by omega), get_set_ne (by omega), get_set_eq (by omega)]
      · rw [get_set_ne (by omega), get_set_eq (by simp; omega)]
      · rw [get_set_eq (by simp; omega)]
      · rw [get_set_ne (by omega), get_set_ne (by omega), get_set_ne (by omega)]; exact q4
    · simp only [upE, if_neg hij]
      obtain ⟨q1, q2, q3, q4⟩ := h3 i hi
      unfold CellsE
      refine ⟨?_, ?_, ?_, ?_⟩ <;> (rw [get_set_ne (by omega), get_set_ne (by omega), get_set_ne (by omega)]; assumption)
  · by_cases hij : i = j
    · subst hij
      simp only [upE, if_true]; exact hO
    · simp only [upE, if_neg hij]
      have ha := h.apart i hi
      have hne := h.inj i j hi hj hij
      exact (((((h.own i hi).other ha).other ha).below b1 (by rw [hsz]; exact (h.own i hi).lt)).other ha).kr k3 (by omega)
theorem kr_marked {w w1 w3 : World} {lo hi B j : Nat} {b : Nat} (d r : Int) (s : ByteArray) (hB : lo ≤ B ∧ B < hi) (hb : lo ≤ b ∧ b < hi)
    (b1 : Below (((w.setCell ⟨B, j * 4, none⟩ (.int .i64 d)).setCell ⟨B, j * 4 + 1, none⟩ (.int .i64 r))).heap.size ((w.setCell ⟨B, j * 4, none⟩ (.int .i64 d)).setCell ⟨B, j * 4 + 1, none⟩ (.int .i64 r)) w1)
    (k3 : KR b (b + 1) (w1.setCell ⟨B, j * 4 + 2, none⟩ (.string s)) w3) : KR lo hi w w3 :=
  (((((KR.refl lo hi w).set hB.1 hB.2 _).set hB.1 hB.2 _).trans (KR.of_below b1)).set hB.1 hB.2 _).trans (k3.mono hb.1 (by omega))

def mixE (k : Int) (es : Nat → E4) (j : Nat) : Nat → E4 := fun i => if i < j then mkE k es i else es i
theorem mixE_at (k : Int) (es : Nat → E4) (j : Nat) : mixE k es j j = es j := by unfold mixE; rw [if_neg (by omega)]
theorem mixE_up (k : Int) (es : Nat → E4) (j : Nat) (i : Nat) : upE (mixE k es j) j (mkE k es j) i = mixE k es (j + 1) i := by
  unfold upE mixE
  by_cases h : i = j
  · subst h; rw [if_pos rfl, if_pos (by omega)]
  · rw [if_neg h]
    by_cases h2 : i < j
    · rw [if_pos h2, if_pos (by omega)]
    · rw [if_neg h2, if_neg (by omega)]


end Go.Proofs.YtgnhpjlfdkpaiaaDoor


namespace Go.Proofs.YtgnhpjlfdkpaiaaDoor
open Go.ChangeShapes Go.WideShapes Go.ChangeAt Go.RowKit
set_option linter.unusedVariables false
set_option linter.unusedSimpArgs false

set_option maxRecDepth 20000 in
set_option maxHeartbeats 4000000 in
theorem markEntryS_blk (B m n cap : Nat) (es : Nat → E4) (bl : Nat → Nat) (lo hi : Nat) (k : Int) (w : World) (h : (n : Int) ≤ 1048576) (hn : ∀ j, j < n → ((es j).n : Int) ≤ 1048576) (h0 : 0 < k) (h1 : k ≤ 1000000000000) (hm : n ≤ m)
    (hO : OwnE w B m n es bl 32 56) (hB : lo ≤ B ∧ B < hi) (hbl : ∀ j, j < n → lo ≤ bl j ∧ bl j < hi) :
    Calls Tryd.prog 56 #[.slice (some ⟨B, 0, none⟩) n cap, .int .i64 k] w fun e w' => e = .returned (.int .i64 (kE k es n)) ∧ OwnE w' B m n (mkE k es) bl 32 56 ∧ KR lo hi w w' := by
  have HO : Hid (OwnE w B m n es bl 32 56) := hO
  have HN : Hid (∀ j, j < n → ((es j).n : Int) ≤ 1048576) := hn
  have HBL : Hid (∀ j, j < n → lo ≤ bl j ∧ bl j < hi) := hbl
  have HKB : Hid (∀ m, m ≤ n → 0 < kE k es m ∧ kE k es m ≤ k + 5242883 * (m : Int)) := kE_bound h0 hn
  clear hO hn hbl
  go_enter Tryd.func56, Tryd.ntmps56
  go_wp2
  go_loopw [1, 5] (fun u i wr => ∃ (j : Nat), j ≤ n ∧ i = .int .i64 (j : Int) ∧ u = .int .i64 (kE k es j) ∧ OwnE wr B m n (mixE k es j) bl 32 56 ∧ KR lo hi w wr) (fun u i _ => n - (intOf i).toNat)
  case atStart => exact ⟨0, Nat.zero_le _, rfl, rfl, HO.out.congr (fun i hi => by unfold mixE; rw [if_neg (by omega)]), KR.refl _ _ _⟩
  case round =>
    obtain ⟨j, hj, rfl, rfl, hO, hK⟩ := hrel
    have HOr : Hid (OwnE wr B m n (mixE k es j) bl 32 56) := hO
    have HK : Hid (KR lo hi w wr) := hK
    by_cases hlt : j < n
    · have hlt2 : (j : Int) < (n : Int) := by omega
      obtain ⟨cs, hC, hs, hcs⟩ := hO.main
      obtain ⟨q1, q2, q3, q4⟩ := hcs j hlt
      rw [mixE_at] at q1 q2 q3 q4
      have hkb := HKB.out j hj
      have hnj := HN.out j hlt
      have HSK : Hid (kE k es (j + 1) = kE k es j + 3 + 5 * ((es j).n : Int)) := rfl
      have HOL : Hid (OwnL wr (bl j) (es j).n (es j).ls 56) := by have := hO.own j hlt; rw [mixE_at] at this; exact this
      have HAP : Hid (bl j ≠ B) := hO.apart j hlt
      have HCC : Hid (CB wr B cs 32) := hC
      have HMK : Hid (mkE k es j = ⟨kE k es j, kE k es j + 1, mt (kE k es j + 2), (es j).n, mkL (kE k es j + 3)⟩) := rfl
      generalize kE k es j = K at hkb HSK HMK ⊢
      have x0 := (hC.cell (j * 4)).trans q1
      have x1 := (hC.cell (j * 4 + 1)).trans q2
      have f0 := hC.fr (j * 4)
      have f1 := hC.fr (j * 4 + 1)
      have HQ3 : Hid (cs[j * 4 + 2]? = some (.string (es j).text)) := q3
      have HQ4 : Hid (cs[j * 4 + 3]? = some (.slice (some ⟨bl j, 0, none⟩) (es j).n (es j).n)) := q4
      have k0 : 0 < K := hkb.1
      have k1 : K ≤ 7000000000000 := by omega
      have e2 : K + 2 = K + 1 + 1 := by omega
      have e3 : K + 3 = K + 1 + 1 + 1 := by omega
      rw [e2, e3] at HMK
      clear e2 e3
      obtain ⟨TX, htx⟩ : ∃ TX, TX = mt (K + 1 + 1) := ⟨_, rfl⟩
      rw [← htx] at HMK
      have HTX : Hid (TX = mt (K + 1 + 1)) := htx
      clear htx
      clear hO hK hC hcs q1 q2 q3 q4 hkb
      have hB1 := hB.1
      have hB2 := hB.2
      go_wp2_with (first
        | (go_at_call 112; refine (markText_is _ _ (by omega) (by omega)).mono ?_; rintro e w1 ⟨rfl, b1⟩; (first | rw [← HTX.out] | (trace_state; fail)); have X1 : CB w1 B ((cs.setIfInBounds (j * 4) (.int .i64 K)).setIfInBounds (j * 4 + 1) (.int .i64 (K + 1))) 32 := ((HCC.out.set (j * 4) (.int .i64 K)).set (j * 4 + 1) (.int .i64 (K + 1))).below b1 (by simpa [World.setCell] using HCC.out.lt); have x2 : w1.cell? ⟨B, j * 4 + 2, none⟩ = some (.string (es j).text) := (by rw [X1.cell, get_set_ne (by omega), get_set_ne (by omega)]; exact HQ3.out); have x3 : w1.cell? ⟨B, j * 4 + 3, none⟩ = some (.slice (some ⟨bl j, 0, none⟩) (es j).n (es j).n) := (by rw [X1.cell, get_set_ne (by omega), get_set_ne (by omega)]; exact HQ4.out); have f2 := X1.fr (j * 4 + 2); have f3 := X1.fr (j * 4 + 3); have HB1 : Hid (Below ((wr.setCell ⟨B, j * 4, none⟩ (.int .i64 K)).setCell ⟨B, j * 4 + 1, none⟩ (.int .i64 (K + 1))).heap.size ((wr.setCell ⟨B, j * 4, none⟩ (.int .i64 K)).setCell ⟨B, j * 4 + 1, none⟩ (.int .i64 (K + 1))) w1) := b1; have HL1 : Hid (OwnL (w1.setCell ⟨B, j * 4 + 2, none⟩ (.string (TX))) (bl j) (es j).n (es j).ls 56) := (((HOL.out.other HAP.out).other HAP.out).below b1 (by simpa [World.setCell] using HOL.out.lt)).other HAP.out; clear X1 b1)
        | (go_at_call 107; refine (markLineS_blk _ _ _ _ _ _ hnj (by omega) (by omega) HL1.out).mono ?_; rintro e w3 ⟨rfl, o3, k3⟩; have HO3 : Hid (OwnL w3 (bl j) (es j).n (mkL (K + 1 + 1 + 1)) 56) := o3; have HK3 : Hid (KR (bl j) (bl j + 1) (w1.setCell ⟨B, j * 4 + 2, none⟩ (.string (TX))) w3) := k3; clear o3 k3))
      go_roundw
      case rel =>
        have hE : OwnE w3 B m n (upE (mixE k es j) j ⟨K, K + 1, TX, (mixE k es j j).n, mkL (K + 1 + 1 + 1)⟩) bl 32 56 := ownE_marked HOr.out hlt hm K (K + 1) (TX) (mkL (K + 1 + 1 + 1)) HB1.out HK3.out (by rw [mixE_at]; exact HO3.out)
        rw [mixE_at, ← HMK.out] at hE
        refine ⟨j + 1, by omega, by go_num, by rw [HSK.out]; go_num, hE.congr (fun i hi => mixE_up k es j i), HK.out.trans (kr_marked K (K + 1) (TX) ⟨hB1, hB2⟩ (HBL.out j hlt) HB1.out HK3.out)⟩
      case measure => simp [intOf]; omega
    · obtain rfl : j = n := by omega
      clear hO hK
      go_wp2
      go_returns
      exact ⟨rfl, HOr.out.congr (fun i hi => by unfold mixE; rw [if_pos hi]), HK.out⟩

set_option maxHeartbeats 1000000 in
theorem markEntryS_none (ad : Option Addr) (cap : Nat) (k : Int) (w : World) :
    Calls Tryd.prog 56 #[.slice ad 0 cap, .int .i64 k] w fun e w' => e = .returned (.int .i64 k) ∧ w' = w := by
  go_enter Tryd.func56, Tryd.ntmps56
  go_wp2
  go_loopw [1, 5] (fun u i wr => i = .int .i64 0 ∧ u = .int .i64 k ∧ wr = w) (fun u i _ => 0)
  case atStart => exact ⟨rfl, rfl, rfl⟩
  case round =>
    obtain ⟨rfl, rfl, rfl⟩ := hrel
    go_wp2
    go_returns
    exact ⟨rfl, rfl⟩


end Go.Proofs.YtgnhpjlfdkpaiaaDoor


namespace Go.Proofs.YtgnhpjlfdkpaiaaDoor
open Go.ChangeShapes Go.WideShapes Go.ChangeAt Go.RowKit
set_option linter.unusedVariables false
set_option linter.unusedSimpArgs false

set_option maxRecDepth 20000 in
set_option maxHeartbeats 4000000 in
theorem heldEntryS_is (ad : Option Addr) (n cap : Nat) (es : Nat → E4) (k : Int) (w : World) (h : (n : Int) ≤ 1048576) (hn : ∀ j, j < n → ((es j).n : Int) ≤ 1048576) (h0 : 0 < k) (h1 : k ≤ 1000000000000) (hL : ER w ad n (mkE k es)) :
    Calls Tryd.prog 57 #[.slice ad n cap, .int .i64 k] w fun e w' => e = .returned (.int .i64 (kE k es n)) ∧ Below w.heap.size w w' := by
  have HL : Hid (ER w ad n (mkE k es)) := hL
  have HN : Hid (∀ j, j < n → ((es j).n : Int) ≤ 1048576) := hn
  have HKB : Hid (∀ m, m ≤ n → 0 < kE k es m ∧ kE k es m ≤ k + 5242883 * (m : Int)) := kE_bound h0 hn
  clear hL hn
  go_enter Tryd.func57, Tryd.ntmps57
  go_wp2
  go_loopw [1, 5] (fun u i wr => ∃ (j : Nat), j ≤ n ∧ i = .int .i64 (j : Int) ∧ u = .int .i64 (kE k es j) ∧ Below w.heap.size w wr) (fun u i _ => n - (intOf i).toNat)
  case atStart => exact ⟨0, Nat.zero_le _, rfl, rfl, Below.refl _ _⟩
  case round =>
    obtain ⟨j, hj, rfl, rfl, hB⟩ := hrel
    have HB : Hid (Below w.heap.size w wr) := hB
    by_cases hlt : j < n
    · obtain ⟨kb, off, rfl, _⟩ := HL.out.addr (by omega)
      obtain ⟨x0, x1, x2, la, lc, x3, hl⟩ := (HL.out.below hB).cell hlt
      have hkb := HKB.out j hj
      have hnj := HN.out j hlt
      have HSK : Hid (kE k es (j + 1) = kE k es j + 3 + 5 * ((es j).n : Int)) := rfl
      have HLL : Hid (LR wr la (es j).n (mkL (kE k es j + 3))) := hl
      simp only [mkE] at x0 x1 x2 x3
      clear hB hl
      generalize kE k es j = K at hkb HSK HLL x0 x1 x2 ⊢
      have k0 : 0 < K := hkb.1
      have k1 : K ≤ 7000000000000 := by omega
      have e2 : K + 2 = K + 1 + 1 := by omega
      have e3 : K + 3 = K + 1 + 1 + 1 := by omega
      rw [e2] at x2
      rw [e3] at HLL
      clear e2 e3
      obtain ⟨TX, htx⟩ : ∃ TX, TX = mt (K + 1 + 1) := ⟨_, rfl⟩
      rw [← htx] at x2
      have HTX : Hid (TX = mt (K + 1 + 1)) := htx
      clear htx
      have d0 : wr.drew.cell? ⟨kb, off + j * 4 + 2, none⟩ = some (.string (TX)) := x2
      have d1 : Below w.heap.size w wr.drew := HB.out.drew
      have d2 : LR wr.drew la (es j).n (mkL (K + 1 + 1 + 1)) := HLL.out
      have d3 : wr.drew.cell? ⟨kb, off + j * 4 + 3, none⟩ = some (.slice la (es j).n lc) := x3
      clear hkb
      go_wp2
      go_region_held3 (fun w' => w'.cell? ⟨kb, off + j * 4 + 2, none⟩ = some (.string (TX)) ∧ w'.cell? ⟨kb, off + j * 4 + 3, none⟩ = some (.slice la (es j).n lc) ∧ LR w' la (es j).n (mkL (K + 1 + 1 + 1)) ∧ Below w.heap.size w w')
        (refine ⟨?_, ?_, ?_, ?_⟩ <;> first | assumption | (simp [*]; done))
        (first
          | (go_at_call 112; refine (markText_is _ _ (by omega) (by omega)).mono ?_; rintro e w1 ⟨rfl, b1⟩; (first | rw [← HTX.out] | (trace_state; fail)); have y0 : w1.cell? ⟨kb, off + j * 4 + 2, none⟩ = some (.string (TX)) := keep_cell b1 (by simp [*]); have y1 : w1.cell? ⟨kb, off + j * 4 + 3, none⟩ = some (.slice la (es j).n lc) := keep_cell b1 (by simp [*]); have y2 : LR w1 la (es j).n (mkL (K + 1 + 1 + 1)) := LR.below (by assumption) b1; have y3 : Below w.heap.size w w1 := bel_on (by assumption) b1))
      go_wp2_with (go_at_call 108; refine (heldLineS_is _ _ _ _ _ hnj (by omega) (by omega) y2).mono ?_; rintro e w3 ⟨rfl, ew⟩; replace ew := ew.symm; subst ew)
      go_roundw
      case rel => exact ⟨j + 1, by omega, by go_num, by rw [HSK.out]; go_num, y3⟩
      case measure => simp [intOf]; omega
    · obtain rfl : j = n := by omega
      clear hB
      go_wp2
      go_returns
      exact ⟨rfl, HB.out⟩

end Go.Proofs.YtgnhpjlfdkpaiaaDoor


namespace Go.Proofs.YtgnhpjlfdkpaiaaDoor
open Go.ChangeShapes Go.WideShapes Go.ChangeAt Go.RowKit
set_option linter.unusedVariables false
set_option linter.unusedSimpArgs false

theorem NewE.keepTo {lo hi : Nat} {w w' : World} {ad : Option Addr} {n : Nat} {es : Nat → E4} {t tl : TypeId} (h : NewE lo hi w ad n es t tl) (k : Below w.heap.size w w') : NewE lo hi w' ad n es t tl := h.below k

set_option maxHeartbeats 1000000 in
theorem markLedger_is (ad : Option Addr) (n cap : Nat) (es : Nat → E4) (hd : Int) (lo hi : Nat) (k : Int) (w : World) (h : (n : Int) ≤ 1048576) (hn : ∀ j, j < n → ((es j).n : Int) ≤ 1048576) (h0 : 0 < k) (h1 : k ≤ 1000000000000) (hE : NewE lo hi w ad n es 32 56) :
    Calls Tryd.prog 43 #[.agg #[.slice ad n cap, .int .i64 hd], .int .i64 k] w fun e w' => e = .returned (.int .i64 (kE k es n)) ∧ NewE lo hi w' ad n (mkE k es) 32 56 ∧ KR lo hi w w' := by
  have HN : Hid (∀ j, j < n → ((es j).n : Int) ≤ 1048576) := hn
  clear hn
  rcases hE with rfl | ⟨B, bl, m, rfl, hB, hbl, hm, hO⟩
  · go_enter Tryd.func43, Tryd.ntmps43
    go_wp2_with (go_at_call 56; refine (markEntryS_none _ _ _ _).mono ?_; rintro e w1 ⟨rfl, ew⟩; replace ew := ew.symm; subst ew)
    go_returns
    exact ⟨rfl, .inl rfl, KR.of_below (by go_grown)⟩
  · have HO : Hid (OwnE w B m n es bl 32 56) := hO
    have HBL : Hid (∀ j, j < n → lo ≤ bl j ∧ bl j < hi) := hbl
    clear hO hbl
    go_enter Tryd.func43, Tryd.ntmps43
    go_wp2_with (go_at_call 56; refine (markEntryS_blk _ m _ _ es bl lo hi _ _ h HN.out h0 h1 hm (HO.out.keep ((Below.refl _ _).alloc (Nat.le_refl _) _)) hB HBL.out).mono ?_; rintro e w1 ⟨rfl, o1, k1⟩; have HO1 : Hid (OwnE w1 B m n (mkE k es) bl 32 56) := o1; have HK1 : Hid (KR lo hi w w1) := (KR.of_below ((Below.refl _ _).alloc (Nat.le_refl _) _)).trans k1; clear o1 k1)
    go_returns
    exact ⟨rfl, .inr ⟨B, bl, m, rfl, hB, HBL.out, hm, HO1.out⟩, HK1.out⟩

set_option maxHeartbeats 1000000 in
theorem markEntry_is (d r : Int) (s : ByteArray) (ad : Option Addr) (n cap : Nat) (ls : Nat → L5) (lo hi : Nat) (k : Int) (w : World) (h : (n : Int) ≤ 1048576) (h0 : 0 < k) (h1 : k ≤ 9000000000000) (hE : NewL lo hi w ad n ls 56) :
    Calls Tryd.prog 44 #[.agg #[.int .i64 d, .int .i64 r, .string s, .slice ad n cap], .int .i64 k] w fun e w' => e = .returned (.int .i64 (k + 5 * (n : Int))) ∧ NewL lo hi w' ad n (mkL k) 56 ∧ KR lo hi w w' := by
  rcases hE with rfl | ⟨b, rfl, hb, hO⟩
  · go_enter Tryd.func44, Tryd.ntmps44
    go_wp2_with (go_at_call 107; refine (markLineS_none _ _ _ _).mono ?_; rintro e w1 ⟨rfl, ew⟩; replace ew := ew.symm; subst ew)
    go_returns
    exact ⟨by simp, .inl rfl, KR.of_below (by go_grown)⟩
  · have HO : Hid (OwnL w b n ls 56) := hO
    clear hO
    go_enter Tryd.func44, Tryd.ntmps44
    go_wp2_with (go_at_call 107; refine (markLineS_blk _ _ _ ls _ _ h h0 h1 (HO.out.below ((Below.refl _ _).alloc (Nat.le_refl _) _) HO.out.lt)).mono ?_; rintro e w1 ⟨rfl, o1, k1⟩; have HO1 : Hid (OwnL w1 b n (mkL k) 56) := o1; have HK1 : Hid (KR lo hi w w1) := (KR.of_below ((Below.refl _ _).alloc (Nat.le_refl _) _)).trans (k1.mono hb.1 (by omega)); clear o1 k1)
    go_returns
    exact ⟨rfl, .inr ⟨b, rfl, hb, HO1.out⟩, HK1.out⟩

set_option maxHeartbeats 1000000 in
theorem heldLedger_is (ad : Option Addr) (n cap : Nat) (es : Nat → E4) (hd k : Int) (w : World) (h : (n : Int) ≤ 1048576) (hn : ∀ j, j < n → ((es j).n : Int) ≤ 1048576) (h0 : 0 < k) (h1 : k ≤ 1000000000000) (hL : ER w ad n (mkE k es)) :
    Calls Tryd.prog 45 #[.agg #[.slice ad n cap, .int .i64 hd], .int .i64 k] w fun e w' => e = .returned (.int .i64 (kE k es n)) ∧ Below w.heap.size w w' := by
  have HN : Hid (∀ j, j < n → ((es j).n : Int) ≤ 1048576) := hn
  have HL : Hid (ER w ad n (mkE k es)) := hL
  obtain ⟨K, hK⟩ : ∃ K, K = kE k es n := ⟨_, rfl⟩
  have hb := kE_bound h0 hn n (Nat.le_refl _)
  rw [← hK] at hb
  have HK : Hid (K = kE k es n) := hK
  clear hn hL hK
  have k0 : 0 ≤ K := by omega
  go_enter Tryd.func45, Tryd.ntmps45
  go_wp2_with (go_at_call 57; refine (heldEntryS_is _ _ _ es _ _ h HN.out h0 h1 (HL.out.alloc _)).mono ?_; rintro e w1 ⟨rfl, b1⟩; rw [← HK.out]; have HB : Hid (Below w.heap.size w w1) := bel_on ((Below.refl _ _).alloc (Nat.le_refl _) _) b1; clear b1)
  go_returns
  exact ⟨by rw [← HK.out]; rfl, HB.out⟩

set_option maxHeartbeats 1000000 in
theorem heldEntry_is (d r : Int) (s : ByteArray) (ad : Option Addr) (n cap : Nat) (k : Int) (w : World) (h : (n : Int) ≤ 1048576) (h0 : 0 < k) (h1 : k ≤ 9000000000000) (hL : LR w ad n (mkL k)) :
    Calls Tryd.prog 46 #[.agg #[.int .i64 d, .int .i64 r, .string s, .slice ad n cap], .int .i64 k] w fun e w' => e = .returned (.int .i64 (k + 5 * (n : Int))) ∧ Below w.heap.size w w' := by
  have HL : Hid (LR w ad n (mkL k)) := hL
  clear hL
  have k0 : 0 ≤ k + 5 * (n : Int) := by omega
  go_enter Tryd.func46, Tryd.ntmps46
  go_wp2_with (go_at_call 108; refine (heldLineS_is _ _ _ _ _ h h0 h1 (HL.out.alloc _)).mono ?_; rintro e w1 ⟨rfl, ew⟩; replace ew := ew.symm; subst ew)
  go_returns
  exact ⟨rfl, by go_grown⟩

end Go.Proofs.YtgnhpjlfdkpaiaaDoor

