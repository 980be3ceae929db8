/- What a rule hands on, in the program. -/
import Derived.Test.YtjlniinahfgakaaRu
namespace Go.Proofs.Ytjlniinahfgakaa
open Go.ChangeShapes Go.WideShapes Go.ChangeAt Go.RowKit
set_option linter.unusedVariables false
set_option linter.unusedSimpArgs false

/-- What is shared out by a rule. -/
def rsh (c : Nat → Int) (r : R3) : Nat → Int := shV (c r.frm.toNat) r.wn r.wt
/-- The costs behind k of the places. -/
def hdn (c : Nat → Int) (r : R3) : Nat → (Nat → Int)
  | 0 => upd c r.frm.toNat 0
  | k + 1 => upd (hdn c r k) (r.to k).toNat (hdn c r k (r.to k).toNat + rsh c r k)
/-- None of the costs leaves the amounts. -/
def HOk (c : Nat → Int) (r : R3) : Prop := ∀ k, k < r.tn → AmtP (hdn c r k (r.to k).toNat + rsh c r k)
open Classical in
noncomputable def hokB (c : Nat → Int) (r : R3) : Bool := decide (HOk c r)
open Classical in
theorem hokB_t {c : Nat → Int} {r : R3} (h : HOk c r) : hokB c r = true := decide_eq_true h
open Classical in
theorem hokB_f {c : Nat → Int} {r : R3} (h : ¬ HOk c r) : hokB c r = false := decide_eq_false h

theorem shV_bd {T : Int} {N : Nat} {z : Nat → Int} (hq : ShOk T N z) {j : Nat} (hj : j < N) : -200000000000 ≤ shV T N z j ∧ shV T N z j ≤ 200000000000 := by
  obtain ⟨K, k1, k2, _⟩ := lf_bd hq
  have := gst_bd (one := on1 (lf T N z)) (o := qv T N z) (r := rs T N z) (M := 100000000000) (by unfold on1; split <;> omega) (by omega) (fun j hj => qv_bd hq hj) K j hj
  have := hq.2.1
  unfold shV; rw [k2]; omega
/-- On the way every cost is an amount. -/
theorem hdn_amt {n : Nat} {c : Nat → Int} {r : R3} (hc : ∀ j, j < n → AmtP (c j)) (k : Nat) : (∀ i, i < k → AmtP (hdn c r i (r.to i).toNat + rsh c r i)) → ∀ j, j < n → AmtP (hdn c r k j) := by
  induction k with
  | zero =>
    intro _ j hj
    unfold hdn upd
    split
    · exact ⟨by omega, by omega⟩
    · exact hc j hj
  | succ k ih =>
    intro h j hj
    unfold hdn upd
    split
    · exact h k (by omega)
    · exact ih (fun i hi => h i (by omega)) j hj

theorem IR.low {w w' : World} {B : Nat} {ad : Option Addr} {len : Nat} {z : Nat → Int} (H : IR w ad len z) (hb : ∀ a, ad = some a → a.block < B) (t : Below B w w') : IR w' ad len z := by
  rcases H with h | ⟨k, off, e, hk, hc⟩
  · exact .inl h
  · have hkB := hb _ e
    refine .inr ⟨k, off, e, Nat.lt_of_lt_of_le hk t.size, fun j hj => ?_⟩
    rw [World.cell?_of_block (w := w) (t.block k hkB)]; exact hc j hj
theorem IR.oth {w : World} {ad : Option Addr} {len : Nat} {z : Nat → Int} (H : IR w ad len z) {c o : Nat} (u : Value) (h : ∀ a, ad = some a → a.block ≠ c) : IR (w.setCell ⟨c, o, none⟩ u) ad len z := by
  rcases H with h' | ⟨k, off, e, hk, hc⟩
  · exact .inl h'
  · subst e
    exact IR.other (.inr ⟨k, off, rfl, hk, hc⟩) u (h _ rfl)
/-- All blocks that were there, but for two. -/
def Kep (w : World) (C G : Nat) (w' : World) : Prop := ∀ y, y < w.heap.size → y ≠ C → y ≠ G → w'.heap[y]? = w.heap[y]?
theorem Kep.set {w w' : World} {C G : Nat} (h : Kep w C G w') (o : Nat) (v : Value) : Kep w C G (w'.setCell ⟨C, o, none⟩ v) := fun y h1 h2 h3 => (heap_set h2).trans (h y h1 h2 h3)
theorem Kep.set2 {w w' : World} {C G : Nat} (h : Kep w C G w') (o : Nat) (v : Value) : Kep w C G (w'.setCell ⟨G, o, none⟩ v) := fun y h1 h2 h3 => (heap_set h3).trans (h y h1 h2 h3)
theorem keep_c {W W' : World} {a : Addr} {v : Value} (h : Below W.heap.size W W') (hc : W.cell? a = some v) : W'.cell? a = some v := keep_cell' h hc

set_option maxRecDepth 20000 in
set_option maxHeartbeats 4000000 in
theorem handOn_any (C n cx cc Gb gc : Nat) (c : Nat → Int) (G : Nat → Bool) (ta : Option Addr) (tc : Nat) (wa : Option Addr) (wc : Nat) (r : R3) (w : World) (B : Nat) (hn : 0 < n) (hn2 : n ≤ 200) (hok : ROk n G r) (hc : ∀ j, j < n → AmtP (c j)) (HC : NB w C n cx c) (HG : FB w Gb n G) (hB1 : B ≤ C) (hB2 : B ≤ Gb) (hta : ∀ a, ta = some a → a.block < B) (HT : IR w ta r.tn r.to) (HW : IR w wa r.wn r.wt) :
    Calls Try.prog 58 #[.agg #[.slice (some ⟨C, 0, none⟩) n cc, .slice (some ⟨Gb, 0, none⟩) n gc], .agg #[.int .i64 r.frm, .slice ta r.tn tc, .slice wa r.wn wc]] w fun e w' => e = .returned (.bool (hokB c r)) ∧ (Below B w w' ∧ Kep w C Gb w') ∧ (hokB c r = true → NB w' C n cx (hdn c r r.tn) ∧ FB w' Gb n (updB G r.frm.toNat)) := by
  have hCG : C ≠ Gb := HC.ne HG
  have hGC : Gb ≠ C := fun q => hCG q.symm
  have hCw := HC.lt
  have hGw := HG.lt
  have HBA : Hid (Below w.heap.size w ((w.alloc (.cells #[.slice (some ⟨C, 0, none⟩) n cc, .slice (some ⟨Gb, 0, none⟩) n gc] 79 (0, 0))).alloc (.cells #[.int .i64 r.frm, .slice ta r.tn tc, .slice wa r.wn wc] 36 (0, 0)))) := ((Below.refl _ _).alloc (Nat.le_refl _) _).alloc (by simp) _
  have HOk : Hid (ROk n G r) := hok
  have HAm : Hid (∀ j, j < n → AmtP (c j)) := hc
  have HCo : Hid (NB w C n cx c) := HC
  have HGb : Hid (FB w Gb n G) := HG
  have HTo : Hid (IR w ta r.tn r.to) := HT
  have HWt : Hid (IR w wa r.wn r.wt) := HW
  have HTa : Hid (∀ a, ta = some a → a.block < B) := hta
  obtain ⟨⟨p1, p2⟩, _, hlen, hW, _⟩ := hok
  have hm200 : r.wn ≤ 200 := hW.1
  obtain ⟨i, hi⟩ : ∃ i : Nat, r.frm = (i : Int) := ⟨r.frm.toNat, by omega⟩
  obtain ⟨m, hm⟩ : ∃ m, r.wn = m := ⟨_, rfl⟩
  have hm2 : r.tn = m := by omega
  have Hi : Hid (r.frm = (i : Int)) := hi
  have Hm : Hid (r.wn = m) := hm
  have Hm2 : Hid (r.tn = m) := hm2
  have hin : i < n := by omega
  have hin2 : (i : Int) < (n : Int) := by omega
  have hfi : r.frm.toNat = i := by omega
  have Hfi : Hid (r.frm.toNat = i) := hfi
  have hsok : ShOk (c i) m r.wt := ⟨HAm.out i hin, by omega, by rw [← hm]; exact hW.2.1, by rw [← hm]; exact hW.2.2⟩
  obtain ⟨x, hx⟩ : ∃ x, c i = x := ⟨_, rfl⟩
  have Hx : Hid (c i = x) := hx
  have HSh : Hid (∀ W : World, IR W wa m r.wt → Calls Try.prog 14 #[.int .i64 x, .slice wa m wc] W (NewI m (intL (rsh c r) m) W)) := fun W h => by
    have := implShares_any (c i) wa m wc r.wt W (by omega) h
    rw [shM_ok hsok, hx] at this
    unfold rsh; rw [hfi, hm, hx]; exact this
  have HRb : Hid (∀ j, j < m → -200000000000 ≤ rsh c r j ∧ rsh c r j ≤ 200000000000) := fun j hj => by
    unfold rsh; rw [hfi, hm]; exact shV_bd hsok hj
  rw [hm2] at HTo
  rw [hm] at HWt
  rw [hi, hm, hm2] at HBA ⊢
  have hm3 : (m : Int) ≤ 200 := by omega
  clear HC HG HT HW hta hc hsok hx hW hlen hi hm hm2 hfi p1 p2 hm200
  have c1 : ((w.alloc (.cells #[.slice (some ⟨C, 0, none⟩) n cc, .slice (some ⟨Gb, 0, none⟩) n gc] 79 (0, 0))).alloc (.cells #[.int .i64 (i : Int), .slice ta m tc, .slice wa m wc] 36 (0, 0))).cell? ⟨C, i, none⟩ = some (.int .i64 x) := by rw [← Hx.out]; exact (HCo.out.on HBA.out).cell hin
  have c2 : ((w.alloc (.cells #[.slice (some ⟨C, 0, none⟩) n cc, .slice (some ⟨Gb, 0, none⟩) n gc] 79 (0, 0))).alloc (.cells #[.int .i64 (i : Int), .slice ta m tc, .slice wa m wc] 36 (0, 0))).cell? ⟨w.heap.size, 0, none⟩ = some (.slice (some ⟨C, 0, none⟩) n cc) := (((CB.new _ _).alloc _).cell 0).trans rfl
  have c3 : ((w.alloc (.cells #[.slice (some ⟨C, 0, none⟩) n cc, .slice (some ⟨Gb, 0, none⟩) n gc] 79 (0, 0))).alloc (.cells #[.int .i64 (i : Int), .slice ta m tc, .slice wa m wc] 36 (0, 0))).cell? ⟨w.heap.size + 1, 0, none⟩ = some (.int .i64 (i : Int)) := ((CB.newAt (by simp) _ _).cell 0).trans rfl
  have c4 : ((w.alloc (.cells #[.slice (some ⟨C, 0, none⟩) n cc, .slice (some ⟨Gb, 0, none⟩) n gc] 79 (0, 0))).alloc (.cells #[.int .i64 (i : Int), .slice ta m tc, .slice wa m wc] 36 (0, 0))).cell? ⟨w.heap.size + 1, 2, none⟩ = some (.slice wa m wc) := ((CB.newAt (by simp) _ _).cell 2).trans rfl
  have K1 : CB ((w.alloc (.cells #[.slice (some ⟨C, 0, none⟩) n cc, .slice (some ⟨Gb, 0, none⟩) n gc] 79 (0, 0))).alloc (.cells #[.int .i64 (i : Int), .slice ta m tc, .slice wa m wc] 36 (0, 0))) w.heap.size #[.slice (some ⟨C, 0, none⟩) n cc, .slice (some ⟨Gb, 0, none⟩) n gc] 79 := (CB.new _ _).alloc _
  have K2 : CB ((w.alloc (.cells #[.slice (some ⟨C, 0, none⟩) n cc, .slice (some ⟨Gb, 0, none⟩) n gc] 79 (0, 0))).alloc (.cells #[.int .i64 (i : Int), .slice ta m tc, .slice wa m wc] 36 (0, 0))) (w.heap.size + 1) #[.int .i64 (i : Int), .slice ta m tc, .slice wa m wc] 36 := CB.newAt (by simp) _ _
  have hsz : w.heap.size + 1 < ((w.alloc (.cells #[.slice (some ⟨C, 0, none⟩) n cc, .slice (some ⟨Gb, 0, none⟩) n gc] 79 (0, 0))).alloc (.cells #[.int .i64 (i : Int), .slice ta m tc, .slice wa m wc] 36 (0, 0))).heap.size := by simp
  go_enter Try.func58, Try.ntmps58
  go_wp2
  generalize (w.alloc (.cells #[.slice (some ⟨C, 0, none⟩) n cc, .slice (some ⟨Gb, 0, none⟩) n gc] 79 (0, 0))).alloc (.cells #[.int .i64 (i : Int), .slice ta m tc, .slice wa m wc] 36 (0, 0)) = W1 at *
  have hK1 : CB W1.drew w.heap.size #[.slice (some ⟨C, 0, none⟩) n cc, .slice (some ⟨Gb, 0, none⟩) n gc] 79 := K1
  have hK2 : CB W1.drew (w.heap.size + 1) #[.int .i64 (i : Int), .slice ta m tc, .slice wa m wc] 36 := K2
  have hBd : Below w.heap.size w W1.drew := HBA.out.drew
  have hIR : IR W1.drew wa m r.wt := HWt.out.below hBd
  go_region_held3 (fun w' => w'.cell? ⟨C, i, none⟩ = some (.int .i64 x) ∧ w'.cell? ⟨w.heap.size, 0, none⟩ = some (.slice (some ⟨C, 0, none⟩) n cc) ∧ w'.cell? ⟨w.heap.size + 1, 0, none⟩ = some (.int .i64 (i : Int)) ∧ w'.cell? ⟨w.heap.size + 1, 2, none⟩ = some (.slice wa m wc) ∧ CB w' w.heap.size #[.slice (some ⟨C, 0, none⟩) n cc, .slice (some ⟨Gb, 0, none⟩) n gc] 79 ∧ CB w' (w.heap.size + 1) #[.int .i64 (i : Int), .slice ta m tc, .slice wa m wc] 36 ∧ Below w.heap.size w w')
    (refine ⟨?_, ?_, ?_, ?_, ?_, ?_, ?_⟩ <;> first | assumption | (simp [*]; done))
    (first | (go_at_call 14; refine (HSh.out _ hIR).mono ?_; rintro e w2 ⟨adg, capg, rfl, o2, b2⟩; have q0 : w2.cell? ⟨C, i, none⟩ = some (.int .i64 x) := keep_cell' b2 (by simp [*]); have q1 : w2.cell? ⟨w.heap.size, 0, none⟩ = some (.slice (some ⟨C, 0, none⟩) n cc) := keep_cell' b2 (by simp [*]); have q2 : w2.cell? ⟨w.heap.size + 1, 0, none⟩ = some (.int .i64 (i : Int)) := keep_cell' b2 (by simp [*]); have q3 : w2.cell? ⟨w.heap.size + 1, 2, none⟩ = some (.slice wa m wc) := keep_cell' b2 (by simp [*]); have q4 : CB w2 w.heap.size #[.slice (some ⟨C, 0, none⟩) n cc, .slice (some ⟨Gb, 0, none⟩) n gc] 79 := CB.below hK1 b2 hK1.lt; have q5 : CB w2 (w.heap.size + 1) #[.int .i64 (i : Int), .slice ta m tc, .slice wa m wc] 36 := CB.below hK2 b2 hK2.lt; have q6 : Below w.heap.size w w2 := bel_on hBd b2; have HO2 : Hid (w2.ownsRow W1.heap.size 3 1 (.slice adg m capg) m (intL (rsh c r) m)) := o2))
  have HN2 : Hid (NB w2 C n cx c) := HCo.out.below q6 hCw
  have HG2 : Hid (FB w2 Gb n G) := HGb.out.below q6 hGw
  have hm0 : 0 < m := by
    have h5 := HOk.out.2.2.2.1.2.2
    rw [Hm.out] at h5
    rcases Nat.eq_zero_or_pos m with e | e
    · subst e; simp [sm] at h5
    · exact e
  obtain ⟨g, gcap, eg, hgl, hgb, _⟩ := row_get HO2.out (j := 0) hm0
  simp only [Value.slice.injEq] at eg
  obtain ⟨rfl, _, rfl⟩ := eg
  have HS2 : Hid (IR w2 (some ⟨g, 0, none⟩) m (rsh c r)) := row_IR HO2.out (fun j hj => intL_get hj)
  have HB2 : Hid (Below B w w2) := q6.mono (by omega)
  have HK2b : Hid (∀ y, y < w.heap.size → w2.heap[y]? = w.heap[y]?) := fun y hy => q6.block y hy
  have HK1 : Hid (CB w2 w.heap.size #[.slice (some ⟨C, 0, none⟩) n cc, .slice (some ⟨Gb, 0, none⟩) n gc] 79) := q4
  have HK2 : Hid (CB w2 (w.heap.size + 1) #[.int .i64 (i : Int), .slice ta m tc, .slice wa m wc] 36) := q5
  have n1 : C ≠ w.heap.size := by omega
  have n2 : w.heap.size ≠ C := by omega
  have n3 : C ≠ w.heap.size + 1 := by omega
  have n4 : w.heap.size + 1 ≠ C := by omega
  have n5 : Gb ≠ w.heap.size := by omega
  have n6 : w.heap.size ≠ Gb := by omega
  have n7 : Gb ≠ w.heap.size + 1 := by omega
  have n8 : w.heap.size + 1 ≠ Gb := by omega
  have n9 : g ≠ C := by omega
  have n10 : C ≠ g := by omega
  have HgG : Hid (g ≠ Gb) := by show g ≠ Gb; omega
  have y1 := HN2.out.fr i
  have y2 := HG2.out.cell hin
  have y3 := HG2.out.fr i
  have y4 : w2.cell? ⟨w.heap.size, 1, none⟩ = some (.slice (some ⟨Gb, 0, none⟩) n gc) := (q4.cell 1).trans rfl
  have y5 : w2.cell? ⟨w.heap.size + 1, 1, none⟩ = some (.slice ta m tc) := (q5.cell 1).trans rfl
  have HW3 : Hid (NB ((w2.setCell ⟨C, i, none⟩ (.int .i64 0)).setCell ⟨Gb, i, none⟩ (.bool true)) C n cx (hdn c r 0) ∧ FB ((w2.setCell ⟨C, i, none⟩ (.int .i64 0)).setCell ⟨Gb, i, none⟩ (.bool true)) Gb n (updB G i) ∧ IR ((w2.setCell ⟨C, i, none⟩ (.int .i64 0)).setCell ⟨Gb, i, none⟩ (.bool true)) (some ⟨g, 0, none⟩) m (rsh c r) ∧ CB ((w2.setCell ⟨C, i, none⟩ (.int .i64 0)).setCell ⟨Gb, i, none⟩ (.bool true)) w.heap.size #[.slice (some ⟨C, 0, none⟩) n cc, .slice (some ⟨Gb, 0, none⟩) n gc] 79 ∧ Below B w ((w2.setCell ⟨C, i, none⟩ (.int .i64 0)).setCell ⟨Gb, i, none⟩ (.bool true)) ∧ Kep w C Gb ((w2.setCell ⟨C, i, none⟩ (.int .i64 0)).setCell ⟨Gb, i, none⟩ (.bool true))) := by
    refine ⟨?_, (HG2.out.other _ hGC).set hin, (HS2.out.other _ n9).other _ HgG.out, (HK1.out.other _ n2).other _ n6, (HB2.out.setCell hB1 _).setCell hB2 _, (Kep.set (w := w) (w' := w2) (fun y h1 _ _ => HK2b.out y h1) i _).set2 i _⟩
    have := (HN2.out.set hin 0).other (c := Gb) (i := i) (.bool true) hCG
    unfold hdn; rw [Hfi.out]; exact this
  clear q3 q4 q5 q6 c1 c2 c3 c4 K1 K2 hK1 hK2 hBd hIR o2 b2 hgl
  go_wp2
  go_loopw [30] (fun v wr => ∃ (k : Nat), k ≤ m ∧ v = .int .i64 (k : Int) ∧ Hid (NB wr C n cx (hdn c r k) ∧ FB wr Gb n (updB G i) ∧ IR wr (some ⟨g, 0, none⟩) m (rsh c r) ∧ CB wr w.heap.size #[.slice (some ⟨C, 0, none⟩) n cc, .slice (some ⟨Gb, 0, none⟩) n gc] 79 ∧ Below B w wr ∧ Kep w C Gb wr) ∧ Hid (∀ j, j < k → AmtP (hdn c r j (r.to j).toNat + rsh c r j))) (fun v _ => m - (intOf v).toNat)
  case atStart => exact ⟨0, Nat.zero_le _, rfl, HW3, fun j hj => by omega⟩
  case round =>
    clear HW3 y2 y3 y4 y5 y1 q0 q1 q2
    obtain ⟨k, hk, rfl, HW, HA⟩ := hrel
    by_cases hlt : k < m
    · have hlt2 : (k : Int) < (m : Int) := by omega
      obtain ⟨tb, to, rfl, _⟩ := HTo.out.addr (by omega)
      have d1 := (HTo.out.low HTa.out HW.out.2.2.2.2.1).cell hlt
      have hty := HOk.out.2.2.2.2 k (by rw [Hm2.out]; exact hlt)
      obtain ⟨q, hq⟩ : ∃ q : Nat, r.to k = (q : Int) := ⟨(r.to k).toNat, by have := hty.1; omega⟩
      have hqn : q < n := by have := hty.1; omega
      rw [hq] at d1
      have Hq : Hid (r.to k = (q : Int)) := hq
      have Hq2 : Hid ((r.to k).toNat = q) := by show _ = _; omega
      have hqn2 : (q : Int) < (n : Int) := by omega
      have d2 := HW.out.1.cell hqn
      have d3 := HW.out.1.fr q
      have d4 := HW.out.2.2.1.cell hlt
      rw [Nat.zero_add] at d4
      have d5 : wr.cell? ⟨w.heap.size, 0, none⟩ = some (.slice (some ⟨C, 0, none⟩) n cc) := (HW.out.2.2.2.1.cell 0).trans rfl
      have hvb := hdn_amt HAm.out k HA.out q hqn
      have hsb := HRb.out k hlt
      obtain ⟨v, hv⟩ : ∃ v, hdn c r k q = v := ⟨_, rfl⟩
      obtain ⟨t, ht⟩ : ∃ t, rsh c r k = t := ⟨_, rfl⟩
      rw [hv] at d2 hvb
      rw [ht] at d4 hsb
      obtain ⟨v1, v2⟩ := hvb
      obtain ⟨t1, t2⟩ := hsb
      have HN : Hid (NB (wr.setCell ⟨C, q, none⟩ (.int .i64 (v + t))).drew C n cx (hdn c r (k + 1)) ∧ FB (wr.setCell ⟨C, q, none⟩ (.int .i64 (v + t))).drew Gb n (updB G i) ∧ IR (wr.setCell ⟨C, q, none⟩ (.int .i64 (v + t))).drew (some ⟨g, 0, none⟩) m (rsh c r) ∧ CB (wr.setCell ⟨C, q, none⟩ (.int .i64 (v + t))).drew w.heap.size #[.slice (some ⟨C, 0, none⟩) n cc, .slice (some ⟨Gb, 0, none⟩) n gc] 79 ∧ Below B w (wr.setCell ⟨C, q, none⟩ (.int .i64 (v + t))).drew ∧ Kep w C Gb (wr.setCell ⟨C, q, none⟩ (.int .i64 (v + t))).drew) := by
        refine ⟨?_, HW.out.2.1.other _ hGC, HW.out.2.2.1.other _ n9, HW.out.2.2.2.1.other _ n2, (HW.out.2.2.2.2.1.setCell hB1 _).drew, HW.out.2.2.2.2.2.set q _⟩
        have := HW.out.1.set hqn (v + t)
        unfold hdn; rw [Hq2.out, hv, ht]; exact this
      have HVT : Hid (hdn c r k (r.to k).toNat + rsh c r k = v + t) := by show _ = _; rw [Hq2.out, hv, ht]
      clear hv ht hq hty HW
      by_cases ham : AmtP (v + t)
      · have hb := inB_t ham.1 ham.2
        have HA2 : Hid (∀ j, j < k + 1 → AmtP (hdn c r j (r.to j).toNat + rsh c r j)) := fun j hj => by
          by_cases e : j = k
          · subst e; rw [HVT.out]; exact ham
          · exact HA.out j (by omega)
        clear ham
        go_wp2
        go_region
        go_wp2_with (go_at_call 47; refine (isAmount_eq _ hb).mono ?_; rintro e w' ⟨rfl, ew⟩; replace ew := ew.symm; subst ew)
        go_roundw
        case rel => exact ⟨k + 1, by omega, by go_num, HN, HA2⟩
        case measure => simp [intOf]; omega
      · have hb := inB_f ham
        have HF : Hid (hokB c r = false) := hokB_f (fun h => ham (by have := h k (by rw [Hm2.out]; exact hlt); rw [HVT.out] at this; exact this))
        clear ham
        go_wp2
        go_region
        go_wp2_with (go_at_call 47; refine (isAmount_eq _ hb).mono ?_; rintro e w' ⟨rfl, ew⟩; replace ew := ew.symm; subst ew)
        go_returns
        exact ⟨ret_bool HF.out.symm, HN.out.2.2.2.2, fun h => by rw [HF.out] at h; cases h⟩
    · obtain rfl : k = m := by omega
      have lkk : ¬ (k : Int) < (k : Int) := by omega
      have HF : Hid (hokB c r = true) := hokB_t (fun j hj => HA.out j (by rw [Hm2.out] at hj; exact hj))
      go_wp2
      go_returns
      refine ⟨ret_bool HF.out.symm, HW.out.2.2.2.2, fun _ => ?_⟩
      exact ⟨HW.out.1, HW.out.2.1⟩
end Go.Proofs.Ytjlniinahfgakaa
