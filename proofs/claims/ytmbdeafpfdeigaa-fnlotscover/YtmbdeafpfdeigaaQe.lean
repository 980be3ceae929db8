/- Sums of stretches, what is left over at each bucket's end: both sides. -/
import Derived.Test.YtmbdeafpfdeigaaQd
import Derived.BigQuiet
namespace Go.Proofs.Ytmbdeafpfdeigaa
open Go Go.ChangeShapes Go.WideShapes Go.ChangeAt Go.RowKit
set_option linter.unusedVariables false
set_option linter.unusedSimpArgs false

/-- The sum of the places from a up to b, of n. -/
def rsV (z : Nat → Int) (n a b : Nat) : Int := if a < min b n then smQ z (min b n) - smQ z a else 0
theorem rsV_k {z : Nat → Int} {n a b k : Nat} (h1 : a ≤ k) (h2 : k = a ∨ k ≤ min b n) (h3 : ¬ k < min b n) : smQ z k - smQ z a = rsV z n a b := by
  unfold rsV
  by_cases g : a < min b n
  · obtain rfl : k = min b n := by omega
    rw [if_pos g]
  · obtain rfl : k = a := by omega
    rw [if_neg g, Int.sub_self]
theorem rsV_0 {z : Nat → Int} {n b : Nat} (h : b ≤ n) : rsV z n 0 b = smQ z b := by
  unfold rsV
  rw [show min b n = b by omega]
  by_cases g : 0 < b
  · rw [if_pos g]; show smQ z b - 0 = _; omega
  · obtain rfl : b = 0 := by omega
    rfl
set_option maxRecDepth 20000 in
set_option maxHeartbeats 2000000 in
theorem l18Sum_any (ad : Option Addr) (len cap : Nat) (z : Nat → Int) (a b : Nat) (w : World) (ha : (a : Int) ≤ 2000000) (hb : (b : Int) ≤ 2000000) (hz : SmB z len) (hr : IR w ad len z) : Calls Try.prog 83 #[.slice ad len cap, .int .i64 (a : Int), .int .i64 (b : Int)] w fun e w' => e = .returned (.int .i64 (rsV z len a b)) ∧ w' = w := by
  have HR : Hid (IR w ad len z) := hr
  have HS : Hid (SmB z len) := hz
  have h40 : (len : Int) ≤ 40 := by have := hz.1; omega
  clear hr hz
  go_enter Try.func83, Try.ntmps83
  go_wp2
  go_loopw [7, 8] (fun u i wr => ∃ k : Nat, Hid (a ≤ k ∧ (k = a ∨ k ≤ min b len)) ∧ u = .int .i64 (smQ z k - smQ z a) ∧ i = .int .i64 (k : Int) ∧ wr = w) (fun _ i _ => b - (intOf i).toNat)
  case atStart => exact ⟨a, hid ⟨Nat.le_refl _, .inl rfl⟩, by rw [Int.sub_self], rfl, by first | rfl | trivial⟩
  case round =>
    obtain ⟨k, HK, rfl, rfl, rfl⟩ := hrel
    have hk2 : (k : Int) ≤ 2000000 := by have := HK.out; omega
    by_cases h1 : k < b
    · have g1 : (k : Int) < (b : Int) := by omega
      by_cases h2 : k < len
      · have g2 : (k : Int) < (len : Int) := by omega
        obtain ⟨kb, off, rfl, _⟩ := HR.out.addr (by omega)
        have c0 := HR.out.cell h2
        have HN : Hid (a ≤ k + 1 ∧ (k + 1 = a ∨ k + 1 ≤ min b len)) := hid (by have := HK.out; omega)
        have hb0 := smB_bd HS.out k (by omega)
        have hb1 := smB_bd HS.out (k + 1) (by omega)
        have hba := smB_bd HS.out a (by have := HK.out; omega)
        have ha40 : (a : Int) ≤ 40 := by have := HK.out; omega
        have HE : Hid (smQ z (k + 1) - smQ z a = smQ z k - smQ z a + z k) := hid (by rw [smQ_s]; omega)
        have e1 : smQ z (k + 1) = smQ z k + z k := rfl
        have hw1 : IntKind.i64.wrap (smQ z k - smQ z a + z k) = smQ z k - smQ z a + z k := IntWalk.i64_in _ ⟨by omega, by omega⟩
        clear hb0 hb1 hba e1
        generalize z k = x at *
        generalize smQ z k - smQ z a = s at *
        go_wp2
        go_roundw
        case rel => exact ⟨k + 1, HN, by rw [HE.out], by go_num, by first | rfl | trivial⟩
        case measure => simp [intOf]; omega
      · have g2 : ¬ (k : Int) < (len : Int) := by omega
        have HV : Hid (smQ z k - smQ z a = rsV z len a b) := hid (rsV_k HK.out.1 HK.out.2 (by omega))
        generalize smQ z k - smQ z a = s at *
        go_wp2
        go_returns
        exact ⟨ret_i HV.out, rfl⟩
    · have g1 : ¬ (k : Int) < (b : Int) := by omega
      have HV : Hid (smQ z k - smQ z a = rsV z len a b) := hid (rsV_k HK.out.1 HK.out.2 (by omega))
      generalize smQ z k - smQ z a = s at *
      go_wp2
      go_returns
      exact ⟨ret_i HV.out, rfl⟩
theorem l18Sum_eq (ad : Option Addr) (len cap : Nat) (z : Nat → Int) (a b : Nat) (u v : Int) (hu : u = (a : Int)) (hv : v = (b : Int)) (w : World) (ha : (a : Int) ≤ 2000000) (hb : (b : Int) ≤ 2000000) (hz : SmB z len) (hr : IR w ad len z) : Calls Try.prog 83 #[.slice ad len cap, .int .i64 u, .int .i64 v] w fun e w' => e = .returned (.int .i64 (rsV z len a b)) ∧ w' = w := by
  subst hu; subst hv; exact l18Sum_any ad len cap z a b w ha hb hz hr
theorem neg_eq (x : Int) (v : Bool) (w : World) (h : decide (x < 0) = v) : Calls Try.prog 122 #[.int .i64 x] w fun e w' => e = .returned (.bool v) ∧ w' = w := by
  go_enter Try.func122, Try.ntmps122
  go_wp2
  all_goals go_returns
  all_goals exact ⟨ret_bool (by rw [← h]), rfl⟩
set_option maxRecDepth 20000 in
set_option maxHeartbeats 2000000 in
theorem idxNg_any (ad : Option Addr) (len cap : Nat) (c : Nat → Int) (w : World) (h : (len : Int) ≤ 1048576) (hr : IR w ad len c) :
    Calls Try.prog 137 #[.slice ad len cap, .func (Fn.func 122) #[] #[]] w fun e w' => e = .returned (.int .i64 (fstF (fun j => decide (c j < 0)) len 0)) ∧ Below w.heap.size w w' := by
  have HR : Hid (IR w ad len c) := hr
  clear hr
  go_enter Try.func137, Try.ntmps137
  go_wp2
  go_loopw [8] (fun i wr => ∃ k : Nat, k ≤ len ∧ i = .int .i64 (k : Int) ∧ Hid (fstF (fun j => decide (c j < 0)) (len - k) k = fstF (fun j => decide (c j < 0)) len 0) ∧ Hid (Below w.heap.size w wr)) (fun i _ => len - (intOf i).toNat)
  case atStart => exact ⟨0, Nat.zero_le _, rfl, rfl, Below.refl _ _⟩
  case round =>
    obtain ⟨k, hk, rfl, hP, HB⟩ := hrel
    by_cases hlt : k < len
    · have hlt2 : (k : Int) < (len : Int) := by omega
      obtain ⟨kb, off, rfl, _⟩ := HR.out.addr (by omega)
      have c0 := (HR.out.below HB.out).cell hlt
      obtain ⟨x, hx⟩ : ∃ x, c k = x := ⟨_, rfl⟩
      have HXE : Hid (c k = x) := hx
      rw [hx] at c0
      clear hx
      cases g : (!decide (x < 0))
      · have HF : Hid (fstF (fun j => decide (c j < 0)) len 0 = (k : Int)) := hid (by rw [← hP.out]; exact fstF_hit hlt (by rw [HXE.out]; simpa using g))
        have HG : Hid (decide (x < 0) = true) := hid (by simpa using g)
        clear g
        go_wp2_with (go_at_call 122; refine (neg_eq x _ _ HG.out).mono ?_; rintro e w1 ⟨rfl, ew⟩; replace ew := ew.symm; subst ew)
        go_returns
        exact ⟨ret_i HF.out.symm, HB.out⟩
      · have HF : Hid (fstF (fun j => decide (c j < 0)) (len - (k + 1)) (k + 1) = fstF (fun j => decide (c j < 0)) len 0) := hid (by rw [← hP.out]; exact (fstF_miss hlt (by rw [HXE.out]; simpa using g)).symm)
        have HG : Hid (decide (x < 0) = false) := hid (by simpa using g)
        clear g
        go_wp2_with (go_at_call 122; refine (neg_eq x _ _ HG.out).mono ?_; rintro e w1 ⟨rfl, ew⟩; replace ew := ew.symm; subst ew)
        go_roundw
        case rel => exact ⟨k + 1, by omega, by go_num, HF, HB⟩
        case measure => simp [intOf]; omega
    · obtain rfl : k = len := by omega
      have lkk : ¬ (k : Int) < (k : Int) := by omega
      have HF : Hid (fstF (fun j => decide (c j < 0)) k 0 = -1) := hid (by rw [← hP.out]; exact fstF_end)
      go_wp2
      go_returns
      exact ⟨ret_i HF.out.symm, HB.out⟩
theorem anyNg (ad : Option Addr) (len cap : Nat) (c : Nat → Int) (v : Bool) (w : World) (h : (len : Int) ≤ 1048576) (hr : IR w ad len c) (hv : decide (0 ≤ fstF (fun j => decide (c j < 0)) len 0) = v) :
    Calls Try.prog 111 #[.slice ad len cap, .func (Fn.func 122) #[] #[]] w fun e w' => e = .returned (.bool v) ∧ Below w.heap.size w w' := by
  have HC := idxNg_any ad len cap c w h hr
  obtain ⟨x, hx⟩ : ∃ x, fstF (fun j => decide (c j < 0)) len 0 = x := ⟨_, rfl⟩
  rw [hx] at HC hv
  have HC2 : Hid (Calls Try.prog 137 #[.slice ad len cap, .func (Fn.func 122) #[] #[]] w fun e w' => e = .returned (.int .i64 x) ∧ Below w.heap.size w w') := HC
  obtain ⟨fv, hfv⟩ : ∃ f, Value.func (Fn.func 122) #[] #[] = f := ⟨_, rfl⟩
  rw [hfv] at HC2 ⊢
  clear HC hr hx hfv
  subst hv
  go_enter Try.func111, Try.ntmps111
  go_wp2_with (go_at_call 137; refine HC2.out.mono ?_; rintro e w1 ⟨rfl, b1⟩)
  all_goals go_returns
  all_goals exact ⟨rfl, b1⟩

theorem ret_vb {x : Value} {a b : Bool} (h : a = b) : Ending.returned (.tuple #[x, .bool a]) = .returned (.tuple #[x, .bool b]) := by rw [h]
theorem ret_ib {x y : Int} {a b : Bool} (h1 : x = y) (h : a = b) : Ending.returned (.tuple #[.int .i64 x, .bool a]) = .returned (.tuple #[.int .i64 y, .bool b]) := by rw [h1, h]
/-- What is left over, beginning with h. -/
def lfH (h : Int) (m o : Nat → Int) (j : Nat) : Int := h + lfF m o j
def cvH (h : Int) (m o : Nat → Int) : Nat → Bool
  | 0 => true
  | k + 1 => cvH h m o k && decide (0 ≤ lfH h m o k)
theorem cvH_p {h : Int} {m o : Nat → Int} : ∀ k, cvH h m o k = true → ∀ j, j < k → 0 ≤ lfH h m o j
  | 0, _, j, hj => by omega
  | k + 1, g, j, hj => by
    simp only [cvH, Bool.and_eq_true, decide_eq_true_eq] at g
    by_cases e : j = k
    · subst e; exact g.2
    · exact cvH_p k g.1 j (by omega)
theorem cvH_t {h : Int} {m o : Nat → Int} : ∀ k, (∀ j, j < k → 0 ≤ lfH h m o j) → cvH h m o k = true
  | 0, _ => rfl
  | k + 1, g => by simp only [cvH, Bool.and_eq_true, decide_eq_true_eq]; exact ⟨cvH_t k (fun j hj => g j (by omega)), g k (by omega)⟩
theorem cvH_f {h : Int} {m o : Nat → Int} {j : Nat} : ∀ k, j < k → lfH h m o j < 0 → cvH h m o k = false
  | 0, g, _ => by omega
  | k + 1, g, h1 => by
    by_cases e : j = k
    · subst e
      have : ¬ 0 ≤ lfH h m o j := by omega
      simp [cvH, this]
    · show (cvH h m o k && _) = false
      rw [cvH_f k (by omega) h1]; rfl
theorem fst_cvH {h : Int} {m o : Nat → Int} {n : Nat} : cvH h m o n = !decide (0 ≤ fstF (fun j => decide (lfH h m o j < 0)) n 0) := by
  rcases fstF_spec (fun j => decide (lfH h m o j < 0)) n 0 with ⟨e, g⟩ | ⟨k, e, _, hk, hp, _⟩
  · rw [e, cvH_t n (fun j hj => by have := g j (by omega) (by omega); simpa using this)]; rfl
  · rw [e, cvH_f (j := k) n (by omega) (by simpa using hp)]; simp
theorem cvH_cv (m o : Nat → Int) : ∀ k, cvH 0 m o k = cvB m o k
  | 0 => rfl
  | k + 1 => by
    show (cvH 0 m o k && decide (0 ≤ 0 + lfF m o k)) = (cvB m o k && decide (0 ≤ lfF m o k))
    rw [cvH_cv m o k, Int.zero_add]
theorem lf_sum (m o : Nat → Int) : ∀ k, smQ (lfH 0 m o) k = lfS m o k
  | 0 => rfl
  | k + 1 => by
    rw [smQ_s, lfS_s, lf_sum m o k]
    show _ + (0 + lfF m o k) = _
    omega
def QB (n : Nat) (m o : Nat → Int) : Prop := n ≤ 40 ∧ (∀ j, j < n → 0 ≤ m j ∧ m j ≤ 1000000) ∧ (∀ j, j < n → 0 ≤ o j ∧ o j ≤ 1000000)
theorem smB_lf {n : Nat} {m o : Nat → Int} (h : QB n m o) : SmB (lfH 0 m o) n := ⟨h.1, fun j hj => by
  have := lfF_bd h.2.1 h.2.2 hj h.1
  unfold lfH; omega⟩
theorem smB_q {n : Nat} {z : Nat → Int} (hn : n ≤ 40) (h : ∀ j, j < n → 0 ≤ z j ∧ z j ≤ 1000000) : SmB z n := ⟨hn, fun j hj => by have := h j hj; omega⟩
set_option maxRecDepth 20000 in
set_option maxHeartbeats 4000000 in
theorem leftOver_any (ad ao : Option Addr) (n cap oc : Nat) (m o : Nat → Int) (h : Int) (w : World) (hq : QB n m o) (h0 : 0 ≤ h) (h1 : h ≤ 1000000) (hr : IR w ad n m) (ho : IR w ao n o) :
    Calls Try.prog 86 #[.slice ad n cap, .int .i64 h, .slice ao n oc] w fun e w' => e = .returned (.tuple #[.slice (some ⟨w.heap.size, 0, none⟩) n n, .bool (cvH h m o n)]) ∧ IR w' (some ⟨w.heap.size, 0, none⟩) n (lfH h m o) ∧ Below w.heap.size w w' := by
  have HR : Hid (IR w ad n m) := hr
  have HO : Hid (IR w ao n o) := ho
  have HQ : Hid (QB n m o) := hq
  have hn : (n : Int) ≤ 40 := by have := hq.1; omega
  have hmk := mkI n (by omega)
  obtain ⟨TV, hTV⟩ : ∃ b, decide (0 ≤ fstF (fun j => decide (lfH h m o j < 0)) n 0) = b := ⟨_, rfl⟩
  have HT : Hid (decide (0 ≤ fstF (fun j => decide (lfH h m o j < 0)) n 0) = TV) := hTV
  have HV : Hid ((!TV) = cvH h m o n) := hid (by rw [fst_cvH, hTV])
  clear hr ho hq hTV
  go_enter Try.func86, Try.ntmps86
  go_wp2
  go_loopw [1, 16] (fun u i wr => ∃ (k : Nat) (cs : Array Value), k ≤ n ∧ u = .int .i64 (h + (smQ o k - smQ m k)) ∧ i = .int .i64 (k : Int) ∧ CB wr w.heap.size cs 3 ∧ cs.size = n ∧ (∀ j, j < k → cs[j]? = some (.int .i64 (lfH h m o j))) ∧ Below w.heap.size w wr) (fun _ i _ => n - (intOf i).toNat)
  case atStart => exact ⟨0, zeros n, Nat.zero_le _, by show _ = Value.int .i64 (h + (0 - 0)); simp, rfl, CB.new _ _, zeros_size _, fun j hj => by omega, (Below.refl _ _).alloc (Nat.le_refl _) _⟩
  case round =>
    obtain ⟨k, cs, hk, rfl, rfl, hC, hsz, hcs, hB⟩ := hrel
    by_cases hlt : k < n
    · have hlt2 : (k : Int) < (n : Int) := by omega
      obtain ⟨kb, off, rfl, hkb⟩ := HR.out.addr (by omega)
      obtain ⟨ob, oo, rfl, hob⟩ := HO.out.addr (by omega)
      have c1 : wr.cell? ⟨kb, off + k, none⟩ = some (.int .i64 (m k)) := (HR.out.below hB).cell hlt
      have c3 : wr.cell? ⟨ob, oo + k, none⟩ = some (.int .i64 (o k)) := (HO.out.below hB).cell hlt
      have c2 : ∃ v, wr.cell? ⟨w.heap.size, k, none⟩ = some v := ⟨cs[k]'(by omega), by rw [hC.cell]; simp [hsz, hlt]⟩
      obtain ⟨v2, c2⟩ := c2
      have f2 := hC.fr k
      have HC : Hid (CB wr w.heap.size cs 3) := hC
      have HS : Hid (cs.size = n) := hsz
      have HCS : Hid (∀ j, j < k → cs[j]? = some (.int .i64 (lfH h m o j))) := hcs
      have HB : Hid (Below w.heap.size w wr) := hB
      have q1 := HQ.out.2.1 k hlt
      have q2 := HQ.out.2.2 k hlt
      have s1 := smq_bd (z := m) (M := 1000000) k (fun j hj => HQ.out.2.1 j (by omega))
      have s2 := smq_bd (z := o) (M := 1000000) k (fun j hj => HQ.out.2.2 j (by omega))
      have hw0 : IntKind.i64.wrap (o k - m k) = o k - m k := IntWalk.i64_in _ ⟨by omega, by omega⟩
      have hw1 : IntKind.i64.wrap (h + (smQ o k - smQ m k) + (o k - m k)) = h + (smQ o k - smQ m k) + (o k - m k) := IntWalk.i64_in _ ⟨by omega, by omega⟩
      have HE : Hid (lfH h m o k = h + (smQ o k - smQ m k) + (o k - m k) ∧ h + (smQ o (k + 1) - smQ m (k + 1)) = h + (smQ o k - smQ m k) + (o k - m k)) := hid ⟨by unfold lfH lfF; rw [smQ_s, smQ_s]; omega, by rw [smQ_s, smQ_s]; omega⟩
      clear hC hsz hcs hB q1 q2 s1 s2
      generalize o k = x at *
      generalize m k = y at *
      generalize h + (smQ o k - smQ m k) = s at *
      go_wp2
      go_roundw
      case rel =>
        refine ⟨k + 1, cs.setIfInBounds k (.int .i64 (s + (x - y))), by omega, by rw [HE.out.2], by go_num, HC.out.set k _, by simp [HS.out], fun j hj => ?_, HB.out.setCell (by simp) _⟩
        rw [Array.getElem?_setIfInBounds]
        have := HS.out
        by_cases hjk : k = j
        · subst hjk; simp [this, hlt, HE.out.1]
        · rw [if_neg hjk]; exact HCS.out j (by omega)
      case measure => simp [intOf]; omega
    · obtain rfl : k = n := by omega
      have lkk : ¬ (k : Int) < (k : Int) := by omega
      have HI : Hid (IR wr (some ⟨w.heap.size, 0, none⟩) k (lfH h m o)) := IR.of_block hC k _ hcs
      have HB : Hid (Below w.heap.size w wr) := hB
      clear hC hcs hB hsz
      go_wp2_with (go_at_call 111; refine (anyNg _ _ _ (lfH h m o) TV _ (by omega) HI.out HT.out).mono ?_; rintro e w1 ⟨rfl, b1⟩; have HB1 : Hid (Below w.heap.size w w1 ∧ IR w1 (some ⟨w.heap.size, 0, none⟩) k (lfH h m o)) := hid ⟨bel_on HB.out b1, HI.out.below b1⟩; clear b1)
      go_returns
      exact ⟨ret_vb HV.out, HB1.out.2, HB1.out.1⟩
/-- What LotCost answers. -/
def lcB (l : LT) (m o : Nat → Int) (n n2 : Nat) : Bool := ltB l && (nqB m n && ((decide (n2 = n) && rgB 1000000 o n2) && cvB m o n))
def lcX (l : LT) (m o : Nat → Int) (n n2 : Nat) : Int := if lcB l m o n n2 = true then lcV l.setup l.hold m o n else 0
theorem lcX_f {l : LT} {m o : Nat → Int} {n n2 : Nat} (h : lcB l m o n n2 = false) : lcX l m o n n2 = 0 := if_neg (by rw [h]; decide)
theorem lcX_t {l : LT} {m o : Nat → Int} {n n2 : Nat} (h : lcB l m o n n2 = true) : lcX l m o n n2 = lcV l.setup l.hold m o n := if_pos h
theorem lc_bd {l : LT} {m o : Nat → Int} {n : Nat} (hl : ltB l = true) (hq : QB n m o) : ∀ k, k ≤ n → (-2000000000000 ≤ l.hold * lfS m o k ∧ l.hold * lfS m o k ≤ 2000000000000) ∧ (0 ≤ l.setup * ctO o k ∧ l.setup * ctO o k ≤ 400000000) := by
  intro k hk
  obtain ⟨_, _, hs, hh⟩ := ltB_p hl
  have a := lfS_bd hq.2.1 hq.2.2 hq.1 k hk
  have b := ctO_bd o k
  have hn := hq.1
  have c1 : l.hold * lfS m o k ≤ l.hold * 1600000000 := Int.mul_le_mul_of_nonneg_left (by omega) hh.1
  have c2 : l.hold * (-1600000000) ≤ l.hold * lfS m o k := Int.mul_le_mul_of_nonneg_left (by omega) hh.1
  have c3 : l.setup * ctO o k ≤ l.setup * 40 := Int.mul_le_mul_of_nonneg_left (by omega) hs.1
  have c4 := Int.mul_nonneg hs.1 b.1
  omega
end Go.Proofs.Ytmbdeafpfdeigaa
