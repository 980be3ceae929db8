/- The program's staff: people in memory, found by their names. -/
import Derived.Test.YtdhpadcihlmhiaaQc
import Derived.Test.YtdhpadcihlmhiaaMt
import Derived.LaidEqlPtr
namespace Go.Proofs.Ytdhpadcihlmhiaa
open Go.ChangeShapes Go.WideShapes Go.ChangeAt Go.RowKit
set_option linter.unusedVariables false
set_option linter.unusedSimpArgs false

theorem oper_update_mt {P : Program} {w : World} {o : Oper} {a : Act} {K : Act → World → Prop} {Q : Exit → Act → World → Prop} (m x v : Operand) (t : TypeId) (hop : o.op = Op.mapUpdate t m x v)
    (k e : TypeId) (KK : Go.Maps.Keyed P k) (hk : P.underlying k = some .string) (ht : P.underlying t = some (.map k e)) (z : Value) (b n : Nat) (F : ByteArray → Option Value)
    (hm : a.eval m = .map (some b)) (hown : MT P k z w b n F) (hn : n < maxLen) (key : ByteArray) (val : Value) (hx : a.eval x = .string key) (hv : a.eval v = val) (hw : key.size ≤ maxLen)
    (hK : ∀ w', MT P k z w' b (n + 1) (fun y => if y = key then some val else F y) → w.grownBy w' (some b) → K (a.put o.dst undef) w') : Oper.wp P o a w K Q := by
  obtain ⟨w', hrun, r1, r2⟩ := hown.update KK hk ht hn key hw val
  unfold Oper.wp
  simp [execOp, hop, hm, hx, hv, hrun, Result.andThen]
  exact hK w' r1 r2


theorem key9 : Go.Maps.Keyed Try.prog 9 := Go.Maps.string_keyed Try.underlying9
def nilP : Value := .pointer none
theorem zeroCol (w : World) : (zeroValue 50).run Try.prog w = .ok nilP w := by kernel_rfl
def zerosC (n : Nat) : Array Value := madeCells #[nilP] n
theorem zerosC_size (n : Nat) : (zerosC n).size = n := size_madeCells _ _
set_option maxRecDepth 100000 in
theorem mkStaff (n : Nat) (h : (n : Int) ≤ 1048576) (w : World) : (Instr.makeSlice 41 (.int .i64 (n : Int)) (.int .i64 (n : Int))).run Try.prog w = .ok (.slice (some ⟨w.heap.size, 0, none⟩) n n) (w.alloc (.cells (zerosC n) 50)) := by
  obtain ⟨i, hi⟩ : ∃ i, Try.prog.info? 50 = some i := ⟨_, rfl⟩
  have hz : i.zero = some nilP := by
    have : (Try.prog.info? 50).bind (·.zero) = some nilP := by kernel_rfl
    rw [hi] at this; exact this
  have hs : i.size = 1 := by
    have : (Try.prog.info? 50).map (·.size) = some 1 := by kernel_rfl
    rw [hi] at this; simpa using this
  have hb : i.bytes = 8 := by
    have : (Try.prog.info? 50).map (·.bytes) = some 8 := by kernel_rfl
    rw [hi] at this; simpa using this
  have hr := run_make (P := Try.prog) w 41 50 i nilP Try.underlying41 hi hz .i64 .i64 n n (by omega) (by omega) (by rw [hb]; omega) (by omega)
  simp only [Int.toNat_natCast, hs] at hr
  rw [Nat.mul_one] at hr
  exact hr
/-- What the map tells of a name, behind k people. -/
def mapF (c : Nat → PE) (bl : Nat → Nat) : Nat → ByteArray → Option Value
  | 0, _ => none
  | k + 1, s => if s = (c k).nm then some (.pointer (some ⟨bl k, 0, none⟩)) else mapF c bl k s
theorem mapF_none {c : Nat → PE} {bl : Nat → Nat} {s : ByteArray} : ∀ {k : Nat}, (∀ j, j < k → ¬ (c j).nm = s) → mapF c bl k s = none
  | 0, _ => rfl
  | k + 1, h => by unfold mapF; rw [if_neg (fun e => h k (by omega) e.symm)]; exact mapF_none (fun j hj => h j (by omega))
theorem mapF_some {c : Nat → PE} {bl : Nat → Nat} : ∀ {k j : Nat}, j < k → (∀ i, i < k → ∀ m, m < i → ¬ (c m).nm = (c i).nm) → mapF c bl k (c j).nm = some (.pointer (some ⟨bl j, 0, none⟩))
  | 0, j, h, _ => by omega
  | k + 1, j, h, hd => by
    unfold mapF
    by_cases e : j = k
    · subst e; rw [if_pos rfl]
    · rw [if_neg (fun q => hd k (by omega) j (by omega) q)]; exact mapF_some (by omega) (fun i hi => hd i (by omega))
theorem mapF_ext {c : Nat → PE} {bl bl' : Nat → Nat} : ∀ {k : Nat}, (∀ j, j < k → bl' j = bl j) → mapF c bl' k = mapF c bl k
  | 0, _ => rfl
  | k + 1, h => by funext s; unfold mapF; rw [h k (by omega), mapF_ext (fun j hj => h j (by omega))]
theorem CB.block' {w w' : World} {b : Nat} {cs : Array Value} {t : TypeId} (H : CB w b cs t) (hb : w'.heap[b]? = w.heap[b]?) : CB w' b cs t := by unfold CB at H ⊢; rw [hb]; exact H
theorem CB.notMap {w : World} {b mb : Nat} {cs : Array Value} {t : TypeId} (hc : CB w b cs t) (hm : ∃ es clock, w.heap[mb]? = some (.map es clock)) : b ≠ mb := fun q => by
  subst q
  obtain ⟨es, cl, hm⟩ := hm
  unfold CB at hc
  rw [hm] at hc
  cases hc
/-- The cells of one of the staff. -/
def colC (p : PE) (ra : Option Addr) (rc : Nat) (sf : Option Addr) : Array Value := #[.string p.nm, .slice ra p.rn rc, .int .i64 p.lim, .string p.fr, .bool p.aw, .pointer sf]
/-- Of n people the first k stand in memory: their places, and each one's own block. -/
structure Sta (w0 w : World) (bp n k : Nat) (c : Nat → PE) (bl : Nat → Nat) (sf : Nat → Option Addr) : Prop where
  ppl : ∃ cs, CB w bp cs 50 ∧ cs.size = n ∧ ∀ j, j < k → cs[j]? = some (.pointer (some ⟨bl j, 0, none⟩))
  col : ∀ j, j < k → ∃ ra rc, CB w (bl j) (colC (c j) ra rc (sf j)) 54 ∧ STR w0 ra (c j).rn (c j).rz
  inc : ∀ i j, i < j → j < k → bl i < bl j
  lo : ∀ j, j < k → bp < bl j
section
variable {w0 w w' : World} {bp n k : Nat} {c : Nat → PE} {bl : Nat → Nat} {sf : Nat → Option Addr}
theorem Sta.below (h : Sta w0 w bp n k c bl sf) (b : Below w.heap.size w w') : Sta w0 w' bp n k c bl sf := by
  obtain ⟨cs, h1, h2⟩ := h.ppl
  exact ⟨⟨cs, h1.below b h1.lt, h2⟩, fun j hj => by obtain ⟨ra, rc, q1, q2⟩ := h.col j hj; exact ⟨ra, rc, q1.below b q1.lt, q2⟩, h.inc, h.lo⟩
theorem Sta.keepM {mb : Nat} (h : Sta w0 w bp n k c bl sf) (hm : ∃ es clock, w.heap[mb]? = some (.map es clock)) (hk : ∀ y, y < w.heap.size → y ≠ mb → w'.heap[y]? = w.heap[y]?) : Sta w0 w' bp n k c bl sf := by
  obtain ⟨cs, h1, h2⟩ := h.ppl
  exact ⟨⟨cs, h1.block' (hk _ h1.lt (h1.notMap hm)), h2⟩, fun j hj => by obtain ⟨ra, rc, q1, q2⟩ := h.col j hj; exact ⟨ra, rc, q1.block' (hk _ q1.lt (q1.notMap hm)), q2⟩, h.inc, h.lo⟩
theorem Sta.lt (h : Sta w0 w bp n k c bl sf) : bp < w.heap.size := by obtain ⟨cs, h1, _⟩ := h.ppl; exact h1.lt
theorem Sta.step {ra : Option Addr} {rc : Nat} {q : PE} (h : Sta w0 w bp n k c bl (fun _ => none)) (hk : k < n) (hq : c k = q) (hT : STR w0 ra q.rn q.rz) :
    Sta w0 ((w.alloc (.cells (colC q ra rc none) 54 (0, 0))).setCell ⟨bp, k, none⟩ (.pointer (some ⟨w.heap.size, 0, none⟩))) bp n (k + 1) c (fun j => if j = k then w.heap.size else bl j) (fun _ => none) := by
  have hlt := h.lt
  have hbl : ∀ j, j < k → bl j < w.heap.size := fun j hj => by obtain ⟨_, _, q1, _⟩ := h.col j hj; exact q1.lt
  obtain ⟨cs, h1, h2, h3⟩ := h.ppl
  refine ⟨⟨_, (h1.alloc _).set k _, by simpa using h2, fun j hj => ?_⟩, fun j hj => ?_, fun i j hi hj => ?_, fun j hj => ?_⟩
  · by_cases e : j = k
    · subst e; simp only [if_true]; rw [get_set_eq (by omega)]
    · simp only [if_neg e]; rw [get_set_ne (by omega)]; exact h3 j (by omega)
  · by_cases e : j = k
    · subst e
      simp only [if_true]
      rw [hq]
      exact ⟨ra, rc, (CB.new _ _).other _ (by omega), hT⟩
    · simp only [if_neg e]
      obtain ⟨ra', rc', q1, q2⟩ := h.col j (by omega)
      exact ⟨ra', rc', (q1.alloc _).other _ (by have := h.lo j (by omega); omega), q2⟩
  · by_cases e : j = k
    · have e2 : i ≠ k := by omega
      simp only [if_pos e, if_neg e2]; exact hbl i (by omega)
    · have e2 : i ≠ k := by omega
      simp only [if_neg e, if_neg e2]; exact h.inc i j hi (by omega)
  · by_cases e : j = k
    · simp only [if_pos e]; exact hlt
    · simp only [if_neg e]; exact h.lo j (by omega)
theorem Sta.inj (h : Sta w0 w bp n k c bl sf) {i j : Nat} (hi : i < k) (hj : j < k) (e : bl i = bl j) : i = j := by
  rcases Nat.lt_trichotomy i j with q | q | q
  · have := h.inc i j q hj; omega
  · exact q
  · have := h.inc j i q hi; omega
theorem Sta.put (h : Sta w0 w bp n k c bl sf) {m : Nat} (hm : m < k) (x : Option Addr) : Sta w0 (w.setCell ⟨bl m, 5, none⟩ (.pointer x)) bp n k c bl (fun j => if j = m then x else sf j) := by
  obtain ⟨cs, h1, h2⟩ := h.ppl
  refine ⟨⟨cs, h1.other _ (by have := h.lo m hm; omega), h2⟩, fun j hj => ?_, h.inc, h.lo⟩
  obtain ⟨ra, rc, q1, q2⟩ := h.col j hj
  by_cases e : j = m
  · subst e
    simp only [if_true]
    refine ⟨ra, rc, ?_, q2⟩
    have := q1.set 5 (.pointer x)
    exact this
  · simp only [if_neg e]
    exact ⟨ra, rc, q1.other _ (fun q => e (h.inj hj hm q)), q2⟩
end

open Classical in
noncomputable def forB (n : Nat) (c : Nat → PE) : Bool := decide (∀ i, i < n → pFor n c i)
open Classical in
theorem forB_t {n : Nat} {c : Nat → PE} (h : ∀ i, i < n → pFor n c i) : forB n c = true := by unfold forB; exact decide_eq_true h
open Classical in
theorem forB_f {n : Nat} {c : Nat → PE} (h : ¬ ∀ i, i < n → pFor n c i) : forB n c = false := by unfold forB; exact decide_eq_false h
open Classical in
theorem forB_of {n : Nat} {c : Nat → PE} (h : forB n c = true) : ∀ i, i < n → pFor n c i := by unfold forB at h; exact of_decide_eq_true h
open Classical in
theorem forB_not {n : Nat} {c : Nat → PE} (h : forB n c = false) : ¬ ∀ i, i < n → pFor n c i := by unfold forB at h; exact of_decide_eq_false h
theorem colInfo : ∃ i, Try.prog.info? 54 = some i ∧ i.size ≠ 0 := by
  obtain ⟨i, hi⟩ : ∃ i, Try.prog.info? 54 = some i := ⟨_, rfl⟩
  have hs : i.size = 6 := by
    have : (Try.prog.info? 54).map (·.size) = some 6 := by kernel_rfl
    rw [hi] at this; simpa using this
  exact ⟨i, hi, by omega⟩
theorem colEq (w : World) (a : Addr) : (binOp .eql 50 (.pointer (some a)) (.pointer (some a))).run Try.prog w = .ok (.bool true) w := by
  obtain ⟨i, hi, _⟩ := colInfo
  exact run_eql_ptr_same w a Try.underlying50 hi
theorem colNe (w : World) {a b : Nat} {ca cb : Array Value} {ta tb : TypeId} (h : ¬ a = b) (ha : CB w a ca ta) (hb : CB w b cb tb) : (binOp .eql 50 (.pointer (some ⟨a, 0, none⟩)) (.pointer (some ⟨b, 0, none⟩))).run Try.prog w = .ok (.bool false) w := by
  obtain ⟨i, hi, hz⟩ := colInfo
  exact run_eql_ptr_other w Try.underlying50 hi hz (fun e => h (by injection e)) ha hb
/-- Whom another stands in for, by the place in memory. -/
def SfP (n : Nat) (c : Nat → PE) (bl : Nat → Nat) (j : Nat) (x : Option Addr) : Prop := ((c j).fr = noT ∧ x = none) ∨ ∃ m, m < n ∧ (c m).nm = (c j).fr ∧ x = some ⟨bl m, 0, none⟩
def SfI (n k : Nat) (c : Nat → PE) (bl : Nat → Nat) (sf : Nat → Option Addr) : Prop := (∀ j, j < k → SfP n c bl j (sf j)) ∧ ∀ j, k ≤ j → sf j = none
theorem SfI.skip {n k : Nat} {c : Nat → PE} {bl : Nat → Nat} {sf : Nat → Option Addr} (h : SfI n k c bl sf) (g : (c k).fr = noT) : SfI n (k + 1) c bl sf := ⟨up_step h.1 (.inl ⟨g, h.2 k (Nat.le_refl _)⟩), fun j hj => h.2 j (by omega)⟩
theorem SfI.put {n k m : Nat} {c : Nat → PE} {bl : Nat → Nat} {sf : Nat → Option Addr} (h : SfI n k c bl sf) (hm : m < n) (g : (c m).nm = (c k).fr) : SfI n (k + 1) c bl (fun j => if j = k then some ⟨bl m, 0, none⟩ else sf j) := by
  refine ⟨fun j hj => ?_, fun j hj => ?_⟩
  · by_cases e : j = k
    · subst e; simp only [if_true]; exact .inr ⟨m, hm, g, rfl⟩
    · simp only [if_neg e]; exact h.1 j (by omega)
  · simp only [if_neg (show ¬ j = k by omega)]; exact h.2 j (by omega)
set_option maxRecDepth 20000 in
set_option maxHeartbeats 4000000 in
theorem meet_any (B bp mb len : Nat) (c : Nat → PE) (bl : Nat → Nat) (sf : Nat → Option Addr) (w0 w : World) (h4 : (len : Int) ≤ 40) (hs : PSz c) (hone : ∀ j, j < len → pOne c j) (hS : Sta w0 w bp len len c bl sf) (hM : MT Try.prog 9 nilP w mb len (mapF c bl len)) (hB : B ≤ bp) (hs0 : ∀ j, sf j = none) :
    Calls Try.prog 24 #[.slice (some ⟨bp, 0, none⟩) len len, .map (some mb)] w fun e w' => e = .returned (.bool (forB len c)) ∧ Below B w w' ∧ (forB len c = true → ∃ sf, Sta w0 w' bp len len c bl sf ∧ SfI len len c bl sf) := by
  have HS0 := hid hS
  have HM0 := hid hM
  have HZ := hid hs
  have HO := hid hone
  have HN0 := hid hs0
  have HD : Hid (∀ i, i < len → ∀ m, m < i → ¬ (c m).nm = (c i).nm) := fun i hi m hm => (hone i hi).2.1 m hm
  clear hS hM hs hone hs0
  go_enter Try.func24, Try.ntmps24
  go_wp2
  go_loopw [11] (fun i wr => ∃ (k : Nat) (sf : Nat → Option Addr), k ≤ len ∧ i = .int .i64 (k : Int) ∧ Hid ((∀ j, j < k → pFor len c j) ∧ Sta w0 wr bp len len c bl sf ∧ MT Try.prog 9 nilP wr mb len (mapF c bl len) ∧ Below B w wr ∧ SfI len k c bl sf)) (fun i _ => len - (intOf i).toNat)
  case atStart => exact ⟨0, sf, Nat.zero_le _, rfl, fun j hj => by omega, HS0.out, HM0.out, Below.refl _ _, fun j hj => by omega, fun j _ => HN0.out j⟩
  case round =>
    obtain ⟨k, sf, hk, rfl, HH⟩ := hrel
    by_cases hlt : k < len
    · have hlt2 : (k : Int) < (len : Int) := by omega
      obtain ⟨cs, hcb, hcz, hcs⟩ := HH.out.2.1.ppl
      have q0 : wr.cell? ⟨bp, k, none⟩ = some (.pointer (some ⟨bl k, 0, none⟩)) := (hcb.cell k).trans (hcs k hlt)
      obtain ⟨ra, rc, hcol, _⟩ := HH.out.2.1.col k hlt
      unfold colC at hcol
      have k3 : wr.cell? ⟨bl k, 3, none⟩ = some (.string (c k).fr) := (hcol.cell 3).trans rfl
      have k5 : wr.cell? ⟨bl k, 5, none⟩ = some (.pointer (sf k)) := (hcol.cell 5).trans rfl
      have f5 := hcol.fr 5
      have hbn : bl k ≠ mb := hcol.notMap HH.out.2.2.1.isMap
      have hlo := HH.out.2.1.lo k hlt
      have HFZ : Hid ((c k).fr.size ≤ maxLen) := (HZ.out k).2.2.2
      clear hcb hcz hcs hcol
      obtain ⟨fr, hfr0⟩ : ∃ x, (c k).fr = x := ⟨_, rfl⟩
      have HFR : Hid ((c k).fr = fr) := hfr0
      rw [hfr0] at k3 HFZ
      clear hfr0
      by_cases hfr : fr = noT
      · have HG : Hid (∀ j, j < k + 1 → pFor len c j) := up_step HH.out.1 (.inl (by rw [HFR.out]; exact hfr))
        have HI : Hid (SfI len (k + 1) c bl sf) := HH.out.2.2.2.2.skip (by rw [HFR.out]; exact hfr)
        have e1 : fr.toList = [] := by rw [hfr]; exact noT_nil
        clear hfr
        go_wp2
        go_roundw
        case rel => exact ⟨k + 1, sf, by omega, by go_num, HG.out, HH.out.2.1, HH.out.2.2.1, HH.out.2.2.2.1, HI.out⟩
        case measure => simp [intOf]; omega
      have e1 : ¬ fr.toList = [] := fun q => hfr (toList_nil q)
      have e1b : (fr.toList == []) = false := by simpa using e1
      by_cases hex : ∃ j, j < len ∧ (c j).nm = fr
      rotate_left
      · have HV : Hid (forB len c = false) := forB_f fun G => by
          rcases G k hlt with q | q
          · exact hfr (by rw [HFR.out] at q; exact q)
          · obtain ⟨j, hj, e⟩ := q.2; exact hex ⟨j, hj, by rw [HFR.out] at e; exact e⟩
        have HMV : Hid (mapF c bl len fr = none) := mapF_none fun j hj e => hex ⟨j, hj, e⟩
        clear hfr hex
        go_wp2_with (first
          | (at_lookup; refine wpList_look_mt _ rfl _ _ 49 rfl 9 50 key9 Try.underlying9 Try.underlying49 nilP (zeroCol _) mb len (mapF c bl len) rfl HH.out.2.2.1 fr rfl HFZ.out nilP false (by rw [HMV.out]; rfl) (by rw [HMV.out]; rfl) ?_))
        go_returns
        exact ⟨ret_bool HV.out.symm, HH.out.2.2.2.1, fun q => by rw [HV.out] at q; cases q⟩
      obtain ⟨j, hj, hjn⟩ := hex
      have HMV : Hid (mapF c bl len fr = some (.pointer (some ⟨bl j, 0, none⟩))) := hid (by rw [← hjn]; exact mapF_some hj HD.out)
      by_cases hjk : j = k
      · subst hjk
        have HV : Hid (forB len c = false) := forB_f fun G => by
          rcases G j hlt with q | q
          · exact hfr (by rw [HFR.out] at q; exact q)
          · exact q.1 (by rw [HFR.out]; exact hjn.symm)
        have heq : (binOp .eql 50 (.pointer (some ⟨bl j, 0, none⟩)) (.pointer (some ⟨bl j, 0, none⟩))).run Try.prog wr = .ok (.bool true) wr := colEq wr _
        clear hfr hjn
        go_wp2_with (first
          | (at_lookup; refine wpList_look_mt _ rfl _ _ 49 rfl 9 50 key9 Try.underlying9 Try.underlying49 nilP (zeroCol _) mb len (mapF c bl len) rfl HH.out.2.2.1 fr rfl HFZ.out (.pointer (some ⟨bl j, 0, none⟩)) true (by rw [HMV.out]; rfl) (by rw [HMV.out]; rfl) ?_))
        go_returns
        exact ⟨ret_bool HV.out.symm, HH.out.2.2.2.1, fun q => by rw [HV.out] at q; cases q⟩
      · have hbne : ¬ bl j = bl k := fun e => hjk (HH.out.2.1.inj hj hlt e)
        have hnn : ¬ (c k).fr = (c k).nm := fun e => by
          rw [HFR.out, ← hjn] at e
          rcases Nat.lt_trichotomy j k with q | q | q
          · exact HD.out k hlt j q e
          · exact hjk q
          · exact HD.out j hj k q e.symm
        have HG : Hid (∀ i, i < k + 1 → pFor len c i) := up_step HH.out.1 (.inr ⟨hnn, j, hj, by rw [HFR.out]; exact hjn⟩)
        have heq : (binOp .eql 50 (.pointer (some ⟨bl j, 0, none⟩)) (.pointer (some ⟨bl k, 0, none⟩))).run Try.prog wr = .ok (.bool false) wr := by
          obtain ⟨_, _, x1, _⟩ := HH.out.2.1.col j hj
          obtain ⟨_, _, x2, _⟩ := HH.out.2.1.col k hlt
          exact colNe wr hbne x1 x2
        have HI : Hid (SfI len (k + 1) c bl (fun i => if i = k then some ⟨bl j, 0, none⟩ else sf i)) := HH.out.2.2.2.2.put hj (by rw [HFR.out]; exact hjn)
        clear hfr hjn hjk hnn
        go_wp2_with (first
          | (at_lookup; refine wpList_look_mt _ rfl _ _ 49 rfl 9 50 key9 Try.underlying9 Try.underlying49 nilP (zeroCol _) mb len (mapF c bl len) rfl HH.out.2.2.1 fr rfl HFZ.out (.pointer (some ⟨bl j, 0, none⟩)) true (by rw [HMV.out]; rfl) (by rw [HMV.out]; rfl) ?_))
        go_roundw
        case rel => exact ⟨k + 1, _, by omega, by go_num, HG.out, HH.out.2.1.put hlt _, HH.out.2.2.1.block (Below.heap_setCell _ _ _ _ (fun e => hbn e.symm)), HH.out.2.2.2.1.setCell (p := ⟨bl k, 5, none⟩) (by show B ≤ bl k; omega) _, HI.out⟩
        case measure => simp [intOf]; omega
    · obtain rfl : k = len := by omega
      have lkk : ¬ (k : Int) < (k : Int) := by omega
      have HF : Hid (forB k c = true) := forB_t HH.out.1
      go_wp2
      go_returns
      exact ⟨ret_bool HF.out.symm, HH.out.2.2.2.1, fun _ => ⟨sf, HH.out.2.1, HH.out.2.2.2.2⟩⟩
theorem pe_for {n : Nat} {c : Nat → PE} (h1 : n ≤ 40) (h2 : ∀ i, i < n → pOne c i) : peB n c = forB n c := by
  cases h : forB n c
  · exact peB_f fun H => forB_not h H.2.2
  · exact peB_t ⟨h1, h2, forB_of h⟩
/-- What staffOf tells. -/
def StfP (len : Nat) (c : Nat → PE) (w : World) (e : Ending) (w' : World) : Prop := ∃ v, e = .returned (.tuple #[v, .bool (peB len c)]) ∧ Below w.heap.size w w' ∧ (peB len c = true → ∃ bp bl sf, v = .slice (some ⟨bp, 0, none⟩) len len ∧ w.heap.size ≤ bp ∧ Sta w w' bp len len c bl sf ∧ SfI len len c bl sf)
theorem stf_v {len : Nat} {c : Nat → PE} {w w' : World} {v : Value} (h : peB len c = false) (g : Below w.heap.size w w') : StfP len c w (.returned (.tuple #[v, .bool false])) w' := ⟨v, by rw [h], g, fun q => by rw [h] at q; cases q⟩
theorem stf_m {len : Nat} {c : Nat → PE} {w w' : World} {bl : Nat → Nat} (h : peB len c = forB len c) (g : Below w.heap.size w w') (k : forB len c = true → ∃ sf, Sta w w' w.heap.size len len c bl sf ∧ SfI len len c bl sf) : StfP len c w (.returned (.tuple #[.slice (some ⟨w.heap.size, 0, none⟩) len len, .bool (forB len c)])) w' := ⟨_, by rw [h], g, fun q => by
  obtain ⟨sf, h1, h2⟩ := k (h.symm.trans q)
  exact ⟨_, bl, sf, rfl, Nat.le_refl _, h1, h2⟩⟩
set_option maxRecDepth 20000 in
set_option maxHeartbeats 8000000 in
theorem staffOf_any (ad : Option Addr) (len cap : Nat) (c : Nat → PE) (w : World) (h : (len : Int) ≤ 1048576) (hs : PSz c) (hr : PEr w ad len c) :
    Calls Try.prog 17 #[.slice ad len cap] w (StfP len c w) := by
  have HR : Hid (PEr w ad len c) := hr
  have HS : Hid (PSz c) := hs
  clear hr hs
  by_cases h40 : (40 : Int) < (len : Int)
  · have HV : Hid (peB len c = false) := peB_f fun H => by have := H.1; omega
    go_enter Try.func17, Try.ntmps17
    go_wp2
    go_returns
    exact stf_v HV.out (Below.refl _ _)
  have h4 : (len : Int) ≤ 40 := by omega
  clear h40
  have hmk := mkStaff len h
  have hmm := @run_makeMap Try.prog
  have HB0 : Hid (Below w.heap.size w ((w.alloc (.cells (zerosC len) 50)).alloc (.map #[] 0))) := ((Below.refl _ _).alloc (Nat.le_refl _) _).alloc (by simp) _
  have HS0 : Hid (Sta w ((w.alloc (.cells (zerosC len) 50)).alloc (.map #[] 0)) w.heap.size len 0 c (fun _ => 0) (fun _ => none)) := ⟨⟨zerosC len, (CB.new _ _).alloc _, zerosC_size _, fun j hj => by omega⟩, fun j hj => by omega, fun i j _ hj => by omega, fun j hj => by omega⟩
  have HM0 : Hid (MT Try.prog 9 nilP ((w.alloc (.cells (zerosC len) 50)).alloc (.map #[] 0)) (w.heap.size + 1) 0 (mapF c (fun _ => 0) 0)) := by
    have := MT.made Try.prog 9 nilP (w.alloc (.cells (zerosC len) 50)); simp only [World.size_alloc] at this; exact this
  go_enter Try.func17, Try.ntmps17
  go_wp2
  clear hmk hmm
  go_loopw [19] (fun i wr => ∃ (k : Nat) (bl : Nat → Nat), k ≤ len ∧ i = .int .i64 (k : Int) ∧ Hid ((∀ j, j < k → pOne c j) ∧ Sta w wr w.heap.size len k c bl (fun _ => none) ∧ MT Try.prog 9 nilP wr (w.heap.size + 1) k (mapF c bl k) ∧ Below w.heap.size w wr)) (fun i _ => len - (intOf i).toNat)
  case atStart => exact ⟨0, fun _ => 0, Nat.zero_le _, rfl, fun j hj => by omega, HS0.out, HM0.out, HB0.out⟩
  case round =>
    obtain ⟨k, bl, hk, rfl, HH⟩ := hrel
    obtain ⟨wo, rfl⟩ : ∃ x, x = wr := ⟨wr, rfl⟩
    by_cases hlt : k < len
    · have hlt2 : (k : Int) < (len : Int) := by omega
      have HBo : Hid (Below w.heap.size w wo) := HH.out.2.2.2
      obtain ⟨kb, off, ea, hkb⟩ := HR.out.addr (by omega)
      subst ea
      obtain ⟨ra, rc, hrc, b0, b1, b2, b3, b4, r5⟩ := HR.out.cell hlt
      have c0 := keep_cell HBo.out b0
      have c1 := keep_cell HBo.out b1
      have c2 := keep_cell HBo.out b2
      have c3 := keep_cell HBo.out b3
      have c4 := keep_cell HBo.out b4
      clear b0 b1 b2 b3 b4
      have HT0 : Hid (STR w ra (c k).rn (c k).rz) := r5
      have HT : Hid (STR wo ra (c k).rn (c k).rz) := r5.below HBo.out
      have HSZ := hid (HS.out k)
      obtain ⟨r, hr⟩ : ∃ r, c k = r := ⟨_, rfl⟩
      have HX : Hid (c k = r) := hr
      rw [hr] at c0 c1 c2 c3 c4 hrc
      replace HT : Hid (STR wo ra r.rn r.rz) := by have := HT.out; rw [hr] at this; exact this
      replace HT0 : Hid (STR w ra r.rn r.rz) := by have := HT0.out; rw [hr] at this; exact this
      replace HSZ : Hid (r.rn ≤ maxLen ∧ (∀ i, (r.rz i).size ≤ maxLen) ∧ r.nm.size ≤ maxLen ∧ r.fr.size ≤ maxLen) := by have := HSZ.out; rw [hr] at this; exact this
      obtain ⟨nm, rn, rz, lim, fr, aw⟩ := r
      simp only at c0 c1 c2 c3 c4 hrc
      clear hr r5
      have bo : Below wo.heap.size wo (wo.alloc (.cells #[.string nm, .slice ra rn rc, .int .i64 lim, .string fr, .bool aw] 35 (0, 0))) := (Below.refl _ _).alloc (Nat.le_refl _) _
      have HBO := hid bo
      have HBa : Hid (Below w.heap.size w (wo.alloc (.cells #[.string nm, .slice ra rn rc, .int .i64 lim, .string fr, .bool aw] 35 (0, 0)))) := bel_on HBo.out bo
      have HMa : Hid (MT Try.prog 9 nilP (wo.alloc (.cells #[.string nm, .slice ra rn rc, .int .i64 lim, .string fr, .bool aw] 35 (0, 0))) (w.heap.size + 1) k (mapF c bl k)) := HH.out.2.2.1.block (bo.block _ HH.out.2.2.1.lt)
      have HTa := hid (HT.out.below bo)
      have hnz : nm.size ≤ maxLen := HSZ.out.2.2.1
      have HNZ := hid hnz
      clear bo hnz
      obtain ⟨mv, hmv⟩ : ∃ x, mapF c bl k nm = x := ⟨_, rfl⟩
      have HMV : Hid (mapF c bl k nm = mv) := hmv
      by_cases hdup : ∃ j, j < k ∧ (c j).nm = nm
      · obtain ⟨j, hj, hjn⟩ := hdup
        have HV : Hid (peB len c = false) := peB_one hlt fun G => G.2.1 j hj (by rw [HX.out]; exact hjn)
        have hsome : mv = some (.pointer (some ⟨bl j, 0, none⟩)) := by rw [← hmv, ← hjn]; exact mapF_some hj (fun i hi m hm => (HH.out.1 i (by omega)).2.1 m hm)
        subst hsome
        clear hmv hjn
        go_wp2_with (first
          | (at_lookup; refine wpList_look_mt _ rfl _ _ 49 rfl 9 50 key9 Try.underlying9 Try.underlying49 nilP (zeroCol _) (w.heap.size + 1) k (mapF c bl k) rfl HMa.out nm rfl HNZ.out (.pointer (some ⟨bl j, 0, none⟩)) true (by rw [HMV.out]; rfl) (by rw [HMV.out]; rfl) ?_))
        go_returns
        exact stf_v HV.out HBa.out
      have HND : Hid (∀ j, j < k → ¬ (c j).nm = nm) := fun j hj e => hdup ⟨j, hj, e⟩
      have hnone : mv = none := by rw [← hmv]; exact mapF_none HND.out
      subst hnone
      clear hmv hdup
      have LK : True := trivial
      cases hpr : prB ⟨nm, rn, rz, lim, fr, aw⟩
      · have HPR := hid hpr
        have HV : Hid (peB len c = false) := peB_one hlt fun G => prB_not hpr (by have := (pOne_iff.1 G).1; rw [HX.out] at this; exact this)
        clear hpr
        go_wp2_with (first
          | (at_lookup; refine wpList_look_mt _ rfl _ _ 49 rfl 9 50 key9 Try.underlying9 Try.underlying49 nilP (zeroCol _) (w.heap.size + 1) k (mapF c bl k) rfl HMa.out nm rfl HNZ.out nilP false (by rw [HMV.out]; rfl) (by rw [HMV.out]; rfl) ?_)
          | (go_at_call 23; go_loud (refine (pRight_eq _ _ _ _ rz _ _ _ _ _ HSZ.out.2.2.1 HSZ.out.1 HSZ.out.2.1 HTa.out HPR.out).mono ?_; rintro e w1 ⟨rfl, b1⟩; have HB1 : Hid (Below w.heap.size w w1) := bel_on HBa.out b1; clear b1)))
        go_returns
        exact stf_v HV.out HB1.out
      have HPR := hid hpr
      have HONE : Hid (pOne c k) := pOne_iff.2 ⟨by rw [HX.out]; exact prB_of hpr, fun j hj => by rw [HX.out]; exact HND.out j hj⟩
      clear hpr
      go_wp2_with (first
        | (at_lookup; refine wpList_look_mt _ rfl _ _ 49 rfl 9 50 key9 Try.underlying9 Try.underlying49 nilP (zeroCol _) (w.heap.size + 1) k (mapF c bl k) rfl HMa.out nm rfl HNZ.out nilP false (by rw [HMV.out]; rfl) (by rw [HMV.out]; rfl) ?_)
        | (go_at_call 23; go_loud (refine (pRight_eq _ _ _ _ rz _ _ _ _ _ HSZ.out.2.2.1 HSZ.out.1 HSZ.out.2.1 HTa.out HPR.out).mono ?_; rintro e w1 ⟨rfl, b1⟩; have HB1 : Hid (Below w.heap.size w w1) := bel_on HBa.out b1; have HS1 := hid ((HH.out.2.1.below HBO.out).below b1); have HM1 : Hid (MT Try.prog 9 nilP w1 (w.heap.size + 1) k (mapF c bl k)) := HMa.out.block (b1.block _ HMa.out.lt); have HT1 := hid (HTa.out.below b1); have XP : CB w1 wo.heap.size #[.string nm, .slice ra rn rc, .int .i64 lim, .string fr, .bool aw] 35 := (CB.new _ _).below b1 (by simp); have p0 := (XP.cell 0).trans rfl; have p1 := (XP.cell 1).trans rfl; have p2 := (XP.cell 2).trans rfl; have p3 := (XP.cell 3).trans rfl; have p4 := (XP.cell 4).trans rfl; obtain ⟨cs, hcb, hcz, hcs⟩ := HS1.out.ppl; obtain ⟨v0, d0⟩ : ∃ v, cs[k]? = some v := ⟨cs[k]'(by omega), Array.getElem?_eq_getElem (by omega)⟩; have ya := ((hcb.alloc (.cells #[.string nm, .slice ra rn rc, .int .i64 lim, .string fr, .bool aw, .pointer none] 54 (0, 0))).cell k).trans d0; have fa := (hcb.alloc (.cells #[.string nm, .slice ra rn rc, .int .i64 lim, .string fr, .bool aw, .pointer none] 54 (0, 0))).fr k; have HCB := hid hcb; have HXP := hid XP; have hs1 : wo.heap.size < w1.heap.size := XP.lt; clear b1 XP hcb hcs d0)))
      have HS2 := hid (HS1.out.step (ra := ra) (rc := rc) hlt HX.out HT0.out)
      have hmlt : w.heap.size < w1.heap.size := HS1.out.lt
      have HM2 : Hid (MT Try.prog 9 nilP ((w1.alloc (.cells #[.string nm, .slice ra rn rc, .int .i64 lim, .string fr, .bool aw, .pointer none] 54 (0, 0))).setCell ⟨w.heap.size, k, none⟩ (.pointer (some ⟨w1.heap.size, 0, none⟩))) (w.heap.size + 1) k (mapF c bl k)) := (HM1.out.block (((Below.refl _ _).alloc (Nat.le_refl _) _).block _ HM1.out.lt)).block (Below.heap_setCell _ _ _ _ (by show w.heap.size + 1 ≠ w.heap.size; omega))
      have HB2 := hid ((HB1.out.alloc (by omega) (.cells #[.string nm, .slice ra rn rc, .int .i64 lim, .string fr, .bool aw, .pointer none] 54 (0, 0))).setCell (p := ⟨w.heap.size, k, none⟩) (by simp) (.pointer (some ⟨w1.heap.size, 0, none⟩)))
      have XP2 := ((HXP.out.alloc (.cells #[.string nm, .slice ra rn rc, .int .i64 lim, .string fr, .bool aw, .pointer none] 54 (0, 0))).other (c := w.heap.size) (o := k) (.pointer (some ⟨w1.heap.size, 0, none⟩)) (by have := HH.out.2.1.lt; omega))
      clear ya fa p0 p1 p2 p3 p4
      simp only [colC] at HS2
      generalize ((w1.alloc (.cells #[.string nm, .slice ra rn rc, .int .i64 lim, .string fr, .bool aw, .pointer none] 54 (0, 0))).setCell ⟨w.heap.size, k, none⟩ (.pointer (some ⟨w1.heap.size, 0, none⟩))) = WB at HS2 HM2 HB2 XP2 ⊢
      have p0 : WB.cell? ⟨wo.heap.size, 0, none⟩ = some (.string nm) := (XP2.cell 0).trans rfl
      have q0 : WB.cell? ⟨w.heap.size, k, none⟩ = some (.pointer (some ⟨w1.heap.size, 0, none⟩)) := by obtain ⟨cs', g1, g2, g3⟩ := HS2.out.ppl; have := g3 k (by omega); simp only [if_true] at this; rw [g1.cell]; exact this
      have hnw : wo.heap.size ≠ w.heap.size + 1 := XP2.notMap HM2.out.isMap
      clear XP2
      refine wp_region_noPanic ?_
      refine wp_region_held_drew (S := fun w' => w'.cell? ⟨wo.heap.size, 0, none⟩ = some (.string nm) ∧ w'.cell? ⟨w.heap.size, k, none⟩ = some (.pointer (some ⟨w1.heap.size, 0, none⟩))) (by kernel_rfl) (by exact ⟨p0, q0⟩) (fun hHeld => ?_)
      refine wpAnyH_take (i := 0) (oi := { dst := some 43, op := Go.Op.move (Go.Operand.tmp 5), type := 49, pos := "l11_papers.go:361", after := #[], guard := none }) (v := ?_) rfl (by kernel_rfl) (by kernel_rfl) (by kernel_rfl) (fun _ _ _ h => h) (Or.inl ⟨by rfl, ?_⟩) (by assumption) ?_
      rotate_left
      · (intro w hSw; (try dsimp only at hSw); go_simp <;> try with_reducible rfl)
      try simp only [Act.put, List.setIfInBounds_toArray, List.set_cons_zero, List.set_cons_succ]
      refine wpAnyH_take (i := 1) (oi := { dst := some 44, op := Go.Op.fieldAddr 35 (Go.Operand.tmp 7) 0, type := 0, pos := "l11_papers.go:361", after := #[], guard := none }) (v := ?_) rfl (by kernel_rfl) (by kernel_rfl) (by kernel_rfl) (fun _ _ _ h => h) (Or.inl ⟨by rfl, ?_⟩) (by assumption) ?_
      rotate_left
      · (intro w hSw; (try dsimp only at hSw); go_simp <;> try with_reducible rfl)
      try simp only [Act.put, List.setIfInBounds_toArray, List.set_cons_zero, List.set_cons_succ]
      refine wpAnyH_take (i := 2) (oi := { dst := some 45, op := Go.Op.load 9 (Go.Operand.tmp 44), type := 9, pos := "l11_papers.go:361", after := #[{ on := 1, ground := Go.Ground.data }], guard := none }) (v := ?_) rfl (by kernel_rfl) (by kernel_rfl) (by kernel_rfl) (fun _ _ _ h => h) (Or.inl ⟨by rfl, ?_⟩) (by assumption) ?_
      rotate_left
      · (intro w hSw; (try dsimp only at hSw); go_simp <;> try with_reducible rfl)
      try simp only [Act.put, List.setIfInBounds_toArray, List.set_cons_zero, List.set_cons_succ]
      refine wpAnyH_take (i := 3) (oi := { dst := some 46, op := Go.Op.move (Go.Operand.tmp 4), type := 41, pos := "l11_papers.go:361", after := #[], guard := none }) (v := ?_) rfl (by kernel_rfl) (by kernel_rfl) (by kernel_rfl) (fun _ _ _ h => h) (Or.inl ⟨by rfl, ?_⟩) (by assumption) ?_
      rotate_left
      · (intro w hSw; (try dsimp only at hSw); go_simp <;> try with_reducible rfl)
      try simp only [Act.put, List.setIfInBounds_toArray, List.set_cons_zero, List.set_cons_succ]
      refine wpAnyH_take (i := 4) (oi := { dst := some 47, op := Go.Op.move (Go.Operand.tmp 6), type := 3, pos := "l11_papers.go:361", after := #[], guard := none }) (v := ?_) rfl (by kernel_rfl) (by kernel_rfl) (by kernel_rfl) (fun _ _ _ h => h) (Or.inl ⟨by rfl, ?_⟩) (by assumption) ?_
      rotate_left
      · (intro w hSw; (try dsimp only at hSw); go_simp <;> try with_reducible rfl)
      try simp only [Act.put, List.setIfInBounds_toArray, List.set_cons_zero, List.set_cons_succ]
      refine wpAnyH_take (i := 5) (oi := { dst := some 48, op := Go.Op.indexAddr 41 (Go.Operand.tmp 46) (Go.Operand.tmp 47), type := 0, pos := "l11_papers.go:361", after := #[{ on := 3, ground := Go.Ground.data }, { on := 4, ground := Go.Ground.data }], guard := none }) (v := ?_) rfl (by kernel_rfl) (by kernel_rfl) (by kernel_rfl) (fun _ _ _ h => h) (Or.inl ⟨by rfl, ?_⟩) (by assumption) ?_
      rotate_left
      · (intro w hSw; (try dsimp only at hSw); go_simp <;> try with_reducible rfl)
      try simp only [Act.put, List.setIfInBounds_toArray, List.set_cons_zero, List.set_cons_succ]
      refine wpAnyH_take (i := 6) (oi := { dst := some 49, op := Go.Op.load 50 (Go.Operand.tmp 48), type := 50, pos := "l11_papers.go:361", after := #[{ on := 5, ground := Go.Ground.data }], guard := none }) (v := ?_) rfl (by kernel_rfl) (by kernel_rfl) (by kernel_rfl) (fun _ _ _ h => h) (Or.inl ⟨by rfl, ?_⟩) (by assumption) ?_
      rotate_left
      · (intro w hSw; (try dsimp only at hSw); go_simp <;> try with_reducible rfl)
      try simp only [Act.put, List.setIfInBounds_toArray, List.set_cons_zero, List.set_cons_succ]
      have hWd : ∀ y : Nat, WB.drew.heap[y]? = WB.heap[y]? := fun _ => rfl
      have hWs : WB.drew.heap.size = WB.heap.size := rfl
      replace HM2 : Hid (MT Try.prog 9 nilP WB.drew (w.heap.size + 1) k (mapF c bl k)) := HM2.out
      replace HS2 := hid (HS2.out.below ((Below.refl _ _).drew : Below WB.heap.size WB WB.drew))
      replace HB2 := hid HB2.out.drew
      generalize WB.drew = WC at HM2 HS2 HB2 hHeld ⊢
      refine wpAnyH_ready (rs := [7]) (by kernel_rfl) (by simp) ?_
      refine AllReadyH.cons (o := { dst := none, op := Go.Op.mapUpdate 49 (Go.Operand.tmp 43) (Go.Operand.tmp 45) (Go.Operand.tmp 49), type := 0, pos := "l11_papers.go:361", after := #[{ on := 0, ground := Go.Ground.data }, { on := 2, ground := Go.Ground.data }, { on := 6, ground := Go.Ground.data }, { on := 0, ground := Go.Ground.phase }, { on := 1, ground := Go.Ground.phase }, { on := 2, ground := Go.Ground.phase }, { on := 3, ground := Go.Ground.phase }, { on := 4, ground := Go.Ground.phase }, { on := 5, ground := Go.Ground.phase }, { on := 6, ground := Go.Ground.phase }], guard := none }) rfl (fun K hK => ?_) (AllReadyH.nil)
      rw [if_pos (by rfl)]
      refine oper_update_mt (Operand.tmp 43) (Operand.tmp 45) (Operand.tmp 49) 49 rfl 9 50 key9 Try.underlying9 Try.underlying49 nilP (w.heap.size + 1) k (mapF c bl k) rfl HM2.out (by unfold maxLen; omega) nm (.pointer (some ⟨w1.heap.size, 0, none⟩)) rfl rfl HNZ.out ?_
      intro w5 hm5 hg5
      have HS5 := hid (HS2.out.keepM HM2.out.isMap (fun y hy hne => hg5.block y hy (by simpa using hne)))
      have HM5 : Hid (MT Try.prog 9 nilP w5 (w.heap.size + 1) (k + 1) (mapF c (fun j => if j = k then w1.heap.size else bl j) (k + 1))) := by
        have e : (mapF c (fun j => if j = k then w1.heap.size else bl j) (k + 1)) = fun y => if y = nm then some (.pointer (some ⟨w1.heap.size, 0, none⟩)) else mapF c bl k y := by
          funext y
          show (if y = (c k).nm then some (.pointer (some ⟨(if k = k then w1.heap.size else bl k), 0, none⟩)) else mapF c _ k y) = _
          rw [HX.out, if_pos rfl, mapF_ext (bl := bl) (fun j hj => if_neg (by omega))]
        rw [e]; exact hm5
      have HB5 : Hid (Below w.heap.size w w5) := HB2.out.grown hg5 (by have := HB2.out.size; omega) (fun g e => by cases e; omega)
      have hs5 : w5.cell? ⟨wo.heap.size, 0, none⟩ = some (.string nm) ∧ w5.cell? ⟨w.heap.size, k, none⟩ = some (.pointer (some ⟨w1.heap.size, 0, none⟩)) := ⟨by rw [World.cell?_of_block (w := WC) (hg5.block _ (World.block_lt_of_cell? WC _ hHeld.1) (by simp; omega))]; exact hHeld.1, by rw [World.cell?_of_block (w := WC) (hg5.block _ (World.block_lt_of_cell? WC _ hHeld.2) (by simp))]; exact hHeld.2⟩
      refine hK.out _ _ (by exact hs5) (fun hHeld => ?_)
      clear hK K hm5 hg5
      try simp only [Act.put, List.setIfInBounds_toArray, List.set_cons_zero, List.set_cons_succ]
      refine wpAnyH_done (by kernel_rfl) ?_ _
      clear hHeld
      (try refine NoPanic.normal ?_)
      have HG : Hid (∀ j, j < k + 1 → pOne c j) := up_step HH.out.1 HONE.out
      go_wp2
      go_roundw
      case rel =>
        refine ⟨k + 1, fun j => if j = k then w1.heap.size else bl j, by omega, by go_num, HG.out, ?_, ?_, HB5.out⟩
        · exact HS5.out
        · exact HM5.out
      case measure => simp [intOf]; omega
    · obtain rfl : k = len := by omega
      have lkk : ¬ (k : Int) < (k : Int) := by omega
      have HPF : Hid (peB k c = forB k c) := pe_for (by omega) HH.out.1
      go_wp2_with (go_at_call 24; go_loud (refine (meet_any w.heap.size _ _ _ c bl (fun _ => none) w _ h4 HS.out HH.out.1 HH.out.2.1 HH.out.2.2.1 (Nat.le_refl _) (fun _ => rfl)).mono ?_; rintro e w2 ⟨rfl, b2, m2⟩; have HM2 := hid m2; have HB2 : Hid (Below w.heap.size w w2) := HH.out.2.2.2.trans b2; clear b2 m2))
      go_returns
      exact stf_m HPF.out HB2.out HM2.out
theorem implPeople_any (ad : Option Addr) (len cap : Nat) (c : Nat → PE) (w : World) (h : (len : Int) ≤ 1048576) (hs : PSz c) (hr : PEr w ad len c) :
    Calls Try.prog 8 #[.slice ad len cap] w fun e w' => e = .returned (.bool (peB len c)) ∧ Below w.heap.size w w' := by
  have HC := hid (staffOf_any ad len cap c w h hs hr)
  clear hs hr
  go_enter Try.func8, Try.ntmps8
  go_wp2_with (go_at_call 17; go_loud (refine HC.out.mono ?_; rintro e w1 ⟨v, rfl, b1, _⟩; have HB1 := hid b1; clear b1 HC))
  go_returns
  exact ⟨rfl, HB1.out⟩
end Go.Proofs.Ytdhpadcihlmhiaa
