/- The program's Shares, whole. -/
import Derived.Test.YtjlniinahfgakaaSi
namespace Go.Proofs.Ytjlniinahfgakaa
open Go.ChangeShapes Go.WideShapes Go.ChangeAt Go.RowKit
set_option linter.unusedVariables false
set_option linter.unusedSimpArgs false

def zeros2 (n : Nat) : Array Value := madeCells #[.int .i64 0, .int .i64 0] (n * 2)
theorem zeros2_size (n : Nat) : (zeros2 n).size = n * 2 := size_madeCells _ _
theorem zeros_get (n j : Nat) (h : j < n) : (zeros n)[j]? = some (.int .i64 0) := by
  simp [zeros, madeCells, h, Nat.mod_one]
theorem zeros2_get (n j : Nat) (h : j < n * 2) : (zeros2 n)[j]? = some (.int .i64 0) := by
  have : j % 2 = 0 ∨ j % 2 = 1 := by omega
  rcases this with e | e <;> simp [zeros2, madeCells, h, e]

set_option maxRecDepth 100000 in
theorem mkR (n : Nat) (h : (n : Int) ≤ 1048576) (w : World) : (Instr.makeSlice 68 (.int .i64 (n : Int)) (.int .i64 (n : Int))).run Try.prog w = .ok (.slice (some ⟨w.heap.size, 0, none⟩) n n) (w.alloc (.cells (zeros2 n) 73)) := by
  obtain ⟨i, hi⟩ : ∃ i, Try.prog.info? 73 = some i := ⟨_, rfl⟩
  have hz : i.zero = some (.agg #[.int .i64 0, .int .i64 0]) := by
    have : (Try.prog.info? 73).bind (·.zero) = some (.agg #[.int .i64 0, .int .i64 0]) := by kernel_rfl
    rw [hi] at this; exact this
  have hs : i.size = 2 := by
    have : (Try.prog.info? 73).map (·.size) = some 2 := by kernel_rfl
    rw [hi] at this; simpa using this
  have hb : i.bytes = 16 := by
    have : (Try.prog.info? 73).map (·.bytes) = some 16 := by kernel_rfl
    rw [hi] at this; simpa using this
  have hr := run_make (P := Try.prog) w 68 73 i (.agg #[.int .i64 0, .int .i64 0]) Try.underlying68 hi hz .i64 .i64 n n (by omega) (by omega) (by rw [hb]; omega) (by omega)
  simp only [Int.toNat_natCast, hs] at hr
  exact hr

theorem cutOf_eq (p q d r : Int) (b : Bool) (w : World) (h0 : -1000000000000000000 ≤ p) (h1 : p ≤ 1000000000000000000) (hq : 1 ≤ q) (hq1 : q ≤ 10000000000) (hd : p.tdiv q = d) (hr : cr p q = r) (hb : decide (p < 0) = b) :
    Calls Try.prog 50 #[.int .i64 p, .int .i64 q] w fun e w' => e = .returned (.agg #[.int .i64 d, .int .i64 r, .int .i64 q, .bool b]) ∧ Below w.heap.size w w' := by
  subst hd hr hb; exact cutOf_any p q w h0 h1 hq hq1

/-- The pair that the k-th rest is. -/
def rp (T : Int) (N : Nat) (z : Nat → Int) (j : Nat) : Int × Int := (rs T N z j, (j : Int))
def pq (q : Nat → Int) (k j : Nat) : Int := if j < k then q j else 0
def pr (f : Nat → Int × Int) (k j : Nat) : Int × Int := if j < k then f j else (0, 0)
theorem pq_step (q : Nat → Int) (k j : Nat) : pq q (k + 1) j = upd (pq q k) k (q k) j := by
  by_cases e : j = k
  · subst e; rw [upd_eq]; exact if_pos (by omega)
  · rw [upd_ne e]; unfold pq
    repeat' split
    all_goals first | omega | rfl
theorem pr_step (f : Nat → Int × Int) (k j : Nat) : pr f (k + 1) j = if j = k then ((f k).1, (f k).2) else pr f k j := by
  unfold pr
  repeat' split
  all_goals first | omega | rfl | (subst_vars; rfl)

theorem qv_bd {T : Int} {N : Nat} {z : Nat → Int} (h : ShOk T N z) {j : Nat} (hj : j < N) : -100000000000 ≤ qv T N z j ∧ qv T N z j ≤ 100000000000 := by
  obtain ⟨hT, hN, hz, hS⟩ := h
  have hzj := hz j hj
  have hle : z j ≤ sm z N := by
    have : ∀ n, n ≤ N → j < n → z j ≤ sm z n := by
      intro n
      induction n with
      | zero => intro _ h2; omega
      | succ n ih =>
        intro h1 h2
        rw [sm_succ]
        have h3 := (sm_le (a := z) (M := 10000000) (n := n) (fun i hi => hz i (by omega))).1
        by_cases e : j = n
        · subst e; omega
        · have := ih (by omega) (by omega); have := hz n (by omega); omega
    exact this N (Nat.le_refl _) hj
  obtain ⟨S, hSe⟩ : ∃ S, sm z N = S := ⟨_, rfl⟩
  unfold qv
  rw [hSe] at hle hS ⊢
  obtain ⟨P, hP⟩ : ∃ P, T * z j = P := ⟨_, rfl⟩
  have f := cut_facts P S (by omega)
  have m1 := mul_bd T (z j) 100000000000 (z j) hT.1 hT.2 hzj.1 (Int.le_refl _) (by omega)
  have m2 : 100000000000 * z j ≤ 100000000000 * S := Int.mul_le_mul_of_nonneg_left hle (by omega)
  rw [hP] at m1 ⊢
  obtain ⟨d, hd⟩ : ∃ d, P.tdiv S = d := ⟨_, rfl⟩
  rw [hd] at f ⊢
  by_cases p0 : P < 0
  · have := f.2.2.2 p0
    refine ⟨?_, by omega⟩
    rcases Int.lt_or_le d (-100000000000) with q | q
    · have : (d + 1) * S ≤ (-100000000000) * S := Int.mul_le_mul_of_nonneg_right (by omega) (by omega)
      rw [Int.add_mul, Int.one_mul] at this
      omega
    · exact q
  · have := f.2.2.1 (by omega)
    refine ⟨by omega, ?_⟩
    rcases Int.lt_or_le 100000000000 d with q | q
    · have : 100000000001 * S ≤ d * S := Int.mul_le_mul_of_nonneg_right (by omega) (by omega)
      omega
    · exact q

theorem gs_bd {one : Int} (p : Nat → Nat) {o : Nat → Int} {M : Int} (h1 : one = 1 ∨ one = -1) (h : ∀ j, -M ≤ o j ∧ o j ≤ M) : ∀ k j, -(M + k) ≤ gs one p o k j ∧ gs one p o k j ≤ M + k
  | 0, j => by have := h j; rw [gs]; simp; omega
  | k + 1, j => by
    have i1 := gs_bd p h1 h k (p k)
    have i2 := gs_bd p h1 h k j
    rw [gs]; unfold upd
    split <;> omega

theorem gs_congr {one : Int} {p : Nat → Nat} {o o' : Nat → Int} {n : Nat} (hp : ∀ i, i < n → p i < n) (h : ∀ j, j < n → o j = o' j) : ∀ k, k ≤ n → ∀ j, j < n → gs one p o k j = gs one p o' k j
  | 0, _, j, hj => h j hj
  | k + 1, hk, j, hj => by
    rw [gs, gs]
    by_cases e : j = p k
    · rw [e, upd_eq, upd_eq, gs_congr hp h k (by omega) (p k) (hp k (by omega))]
    · rw [upd_ne e, upd_ne e]; exact gs_congr hp h k (by omega) j hj

/-- What is handed out by the sorted row is what the model hands out. -/
theorem give_eq {T : Int} {N : Nat} {z : Nat → Int} {g : Nat → Int × Int} (h : ShOk T N z) (hp : PermOn 0 N (rp T N z) g) (hs : SortedOn ltR g 0 N) :
    ∃ p : Nat → Nat, (∀ i, i < N → p i < N ∧ (g i).2 = (p i : Int)) ∧ ∀ one o k, k ≤ N → (gst one N o (rs T N z) k).1 = gs one p o k := by
  obtain ⟨_, p, p1, p2⟩ := hp
  obtain ⟨K, _, _, _, hr, _⟩ := lf_bd h
  refine ⟨p, fun i hi => ⟨(p1 i (Nat.zero_le _) hi).2.1, by rw [(p1 i (Nat.zero_le _) hi).2.2]; rfl⟩, fun one o k hk => ?_⟩
  refine (gst_gs (one := one) (o := o) (fun j hj => (hr j hj).1) (fun i hi => (p1 i (Nat.zero_le _) hi).2.1) (fun i j hi hj q => p2 i j (Nat.zero_le _) hi (Nat.zero_le _) hj q) (fun i j hij hj => ?_) k hk).1
  have := hs i j (Nat.zero_le _) hij hj
  rw [(p1 i (Nat.zero_le _) (by omega)).2.2, (p1 j (Nat.zero_le _) hj).2.2] at this
  unfold ltR rp at this
  simp only at this
  omega

theorem none_own (w : World) : (w.alloc (.cells #[] 3 (0, 0))).ownsRow w.heap.size 3 1 (.slice (some ⟨w.heap.size, 0, none⟩) 0 0) 0 [] := World.ownsRow_made w #[] 0 (Nat.le_refl _) (Nat.zero_le _) rfl

set_option maxRecDepth 20000 in
set_option maxHeartbeats 4000000 in
theorem implShares_any (T : Int) (ad : Option Addr) (N cap : Nat) (z : Nat → Int) (w : World) (hN : (N : Int) ≤ 1048576) (hr : IR w ad N z) :
    Calls Try.prog 14 #[.int .i64 T, .slice ad N cap] w (NewI (shM T N z) (intL (shV T N z) (shM T N z)) w) := by
  have HR : Hid (IR w ad N z) := hr
  have HY1 : Hid (Below w.heap.size w (w.alloc (.cells #[] 3 (0, 0)))) := (Below.refl _ _).alloc (Nat.le_refl _) _
  clear hr
  by_cases hT : -100000000000 ≤ T ∧ T ≤ 100000000000
  case neg =>
    rw [shM_no (fun q => hT q.1)]
    have hb := inB_f hT
    clear hT
    go_enter Try.func14, Try.ntmps14
    go_wp2_with (go_at_call 47; refine (isAmount_eq _ hb).mono ?_; rintro e w' ⟨rfl, ew⟩; replace ew := ew.symm; subst ew)
    go_returns
    exact ⟨_, _, rfl, none_own w, HY1.out⟩
  have hb := inB_t hT.1 hT.2
  have HWO : Hid (∀ (v : Bool), wOkB N z = v → Calls Try.prog 48 #[.slice ad N cap] w fun e w' => e = .returned (.bool v) ∧ w' = w) := fun v hv => hv ▸ weightsOk_any ad N cap z w hN HR.out
  by_cases hW : WOk N z
  case neg =>
    rw [shM_no (fun q => hW ⟨q.2.1, q.2.2.1, q.2.2.2⟩)]
    have hb2 := wOkB_f hW
    clear hT hW
    go_enter Try.func14, Try.ntmps14
    go_wp2_with (first
      | (go_at_call 47; refine (isAmount_eq _ hb).mono ?_; rintro e w' ⟨rfl, ew⟩; replace ew := ew.symm; subst ew)
      | (go_at_call 48; refine (HWO.out _ hb2).mono ?_; rintro e w' ⟨rfl, ew⟩; replace ew := ew.symm; subst ew))
    go_returns
    exact ⟨_, _, rfl, none_own w, HY1.out⟩
  have hb2 := wOkB_t hW
  have hOk : ShOk T N z := ⟨hT, hW.1, hW.2.1, hW.2.2⟩
  have HOk : Hid (ShOk T N z) := hOk
  rw [shM_ok hOk]
  obtain ⟨K, hKN, hKa, hKs, hrs, _⟩ := lf_bd hOk
  have HK : Hid (K < N ∧ (lf T N z).natAbs = K ∧ ((lf T N z = (K : Int) ∧ 0 ≤ lf T N z) ∨ (lf T N z = -(K : Int) ∧ lf T N z < 0))) := ⟨hKN, hKa, hKs⟩
  have hN2 : (N : Int) ≤ 200 := by have := hW.1; omega
  have HSB : Hid (SmB z N) := fac_SmB hW.1 hW.2.1
  have hSb := fac_sum hW.1 hW.2.1 (Nat.le_refl N)
  have hS0 := hW.2.2
  obtain ⟨S, hS⟩ : ∃ S, sm z N = S := ⟨_, rfl⟩
  have HS : Hid (sm z N = S) := hS
  rw [hS] at hSb hS0
  obtain ⟨_, hSb2⟩ := hSb
  have HZ : Hid (∀ j, j < N → 0 ≤ z j ∧ z j ≤ 10000000) := hW.2.1
  obtain ⟨hT1, hT2⟩ := hT
  have HC : Hid (Calls Try.prog 49 #[.slice ad N cap] w fun e w' => e = .returned (.int .i64 S) ∧ w' = w) := by
    have := sum_any ad N cap z w hN HR.out HSB.out
    rw [hS] at this; exact this
  have hmk := mkI N hN
  have hmk2 := mkR N hN
  have tok1 : True := trivial
  clear hW hOk hKN hKa hKs hrs hS
  go_enter Try.func14, Try.ntmps14
  go_wp2_with (first
    | (go_at_call 47; refine (isAmount_eq _ hb).mono ?_; rintro e w' ⟨rfl, ew⟩; replace ew := ew.symm; subst ew)
    | (go_at_call 48; refine (HWO.out _ hb2).mono ?_; rintro e w' ⟨rfl, ew⟩; replace ew := ew.symm; subst ew)
    | (go_at_call 49; clear tok1; refine HC.out.mono ?_; rintro e w' ⟨rfl, ew⟩; replace ew := ew.symm; subst ew))
  go_loopw [30] (fun v wr => ∃ (k : Nat), k ≤ N ∧ v = .int .i64 (k : Int) ∧ Hid (IB wr w.heap.size N 3 (pq (qv T N z) k) ∧ RB wr (w.heap.size + 1) N 73 (pr (rp T N z) k) ∧ Below w.heap.size w wr)) (fun v _ => N - (intOf v).toNat)
  case atStart =>
    refine ⟨0, Nat.zero_le _, rfl, ⟨zeros N, (CB.new _ _).alloc _, zeros_size _, fun j hj => ?_⟩, ⟨zeros2 N, CB.newAt (by simp) _ _, zeros2_size _, fun j hj => ?_⟩, ((Below.refl _ _).alloc (Nat.le_refl _) _).alloc (by simp) _⟩
    · rw [zeros_get _ _ hj]; rfl
    · rw [zeros2_get _ _ (by omega), zeros2_get _ _ (by omega)]; exact ⟨rfl, rfl⟩
  case round =>
    obtain ⟨k, hk, rfl, HW⟩ := hrel
    by_cases hlt : k < N
    · have hlt2 : (k : Int) < (N : Int) := by omega
      obtain ⟨kb, off, rfl, _⟩ := HR.out.addr (by omega)
      have c1 := (HR.out.below HW.out.2.2).cell hlt
      obtain ⟨y, hy⟩ : ∃ y, z k = y := ⟨_, rfl⟩
      have hyb := HZ.out k hlt
      rw [hy] at c1 hyb
      obtain ⟨P, hP⟩ : ∃ P, T * y = P := ⟨_, rfl⟩
      have hPb := mul_bd T y 100000000000 10000000 hT1 hT2 hyb.1 hyb.2 (by omega)
      rw [hP] at hPb
      obtain ⟨hP1, hP2⟩ := hPb
      obtain ⟨d, hd⟩ : ∃ d, P.tdiv S = d := ⟨_, rfl⟩
      obtain ⟨r, hr⟩ : ∃ r, cr P S = r := ⟨_, rfl⟩
      obtain ⟨bb, hbb⟩ : ∃ bb, decide (P < 0) = bb := ⟨_, rfl⟩
      have HQ : Hid (qv T N z k = d ∧ rp T N z k = (r, (k : Int))) := by
        constructor
        · unfold qv; rw [hy, HS.out, hP, hd]
        · unfold rp rs; rw [hy, HS.out, hP, hr]
      have HCut : Hid (∀ w, Calls Try.prog 50 #[.int .i64 P, .int .i64 S] w fun e w' => e = .returned (.agg #[.int .i64 d, .int .i64 r, .int .i64 S, .bool bb]) ∧ Below w.heap.size w w') := fun w => cutOf_eq P S d r bb w (by omega) (by omega) (by omega) (by omega) hd hr hbb
      have hwl := HW.out.2.1.lt
      clear hy hd hr hbb hyb
      go_wp2_with (go_at_call 50; refine (HCut.out _).mono ?_; rintro e w1 ⟨rfl, b1⟩; have x1 := (HW.out.1.on b1).cell hlt; have x2 := ((HW.out.2.1.below b1 HW.out.2.1.lt).cell hlt).1; have x3 := ((HW.out.2.1.below b1 HW.out.2.1.lt).cell hlt).2; have f1 := (HW.out.1.on b1).fr k; have f2 := (HW.out.2.1.below b1 HW.out.2.1.lt).fr (k * 2); have f3 := (HW.out.2.1.below b1 HW.out.2.1.lt).fr (k * 2 + 1); have hws : w.heap.size + 1 < w1.heap.size := Nat.lt_of_lt_of_le hwl b1.size; have n1 : w.heap.size ≠ w1.heap.size := (by omega); have n2 : w1.heap.size ≠ w.heap.size := (by omega); have n3 : w.heap.size + 1 ≠ w1.heap.size := (by omega); have n4 : w1.heap.size ≠ w.heap.size + 1 := (by omega); have n0 : w.heap.size < w1.heap.size := (by omega); have HW1 : Hid (IB w1 w.heap.size N 3 (pq (qv T N z) k) ∧ RB w1 (w.heap.size + 1) N 73 (pr (rp T N z) k) ∧ Below w.heap.size w w1) := ⟨HW.out.1.on b1, HW.out.2.1.below b1 HW.out.2.1.lt, bel_on HW.out.2.2 b1⟩; clear b1)
      go_roundw
      case rel =>
        obtain ⟨a1, a2, a3⟩ := HW1.out
        have q1 := HQ.out.1
        have q2 := HQ.out.2
        refine ⟨k + 1, by omega, by go_num, ?_, ?_, ?_⟩
        · refine IB.congr (((((a1.set hlt d).other (c := w.heap.size + 1) _ (by omega)).other (c := w.heap.size + 1) _ (by omega)).alloc _)) (fun j _ => ?_)
          rw [pq_step, q1]
        · refine RB.congr ((((a2.other (c := w.heap.size) _ (by omega)).set hlt r (k : Int)).alloc _)) (fun j _ => ?_)
          rw [pr_step, q2]
        · exact (((a3.setCell (Nat.le_refl _) _).setCell (Nat.le_succ _) _).setCell (Nat.le_succ _) _).alloc (by simp; omega) _
      case measure => simp [intOf]; omega
    · obtain rfl : k = N := by omega
      have lkk : ¬ (k : Int) < (k : Int) := by omega
      obtain ⟨a1, a2, a3⟩ := HW.out
      have HA : Hid (IB wr w.heap.size k 3 (qv T k z)) := a1.congr (fun j hj => by unfold pq; rw [if_pos hj])
      have HG : Hid (RB wr (w.heap.size + 1) k 73 (rp T k z)) := a2.congr (fun j hj => by unfold pr; rw [if_pos hj])
      have HB : Hid (Below w.heap.size w wr) := a3
      have HD : Hid (∀ i j, i < k → j < k → i ≠ j → (rp T k z i).2 ≠ (rp T k z j).2) := fun i j _ _ h q => h (by unfold rp at q; simp only at q; omega)
      obtain ⟨Q, hQ⟩ : ∃ Q, sm (qv T k z) k = Q := ⟨_, rfl⟩
      obtain ⟨L, hL⟩ : ∃ L, T - Q = L := ⟨_, rfl⟩
      have hQb : SmB (qv T k z) k := fun e he => by
        have := sm_bound (z := qv T k z) (M := 100000000000) (by omega) (fun j hj => qv_bd HOk.out hj) 0 e (Nat.zero_le _) he
        rw [show sm (qv T k z) 0 = 0 from rfl] at this
        omega
      have HQB : Hid (SmB (qv T k z) k) := hQb
      have hQ2 := hQb k (Nat.le_refl _)
      rw [hQ] at hQ2
      obtain ⟨hQ3, hQ4⟩ := hQ2
      have hLe : lf T k z = L := by unfold lf; rw [hQ, hL]
      have HQ : Hid (sm (qv T k z) k = Q) := hQ
      have HL : Hid (lf T k z = L) := hLe
      have hLb : -200 ≤ L ∧ L ≤ 200 := by have := HK.out; rw [hLe] at this; omega
      obtain ⟨hL1, hL2⟩ := hLb
      clear a1 a2 a3 HW hQb hQ hLe
      go_wp2_with (first
        | (go_at_call 51; refine (sortBy_any _ _ _ _ _ _ (by omega) HG.out HD.out).mono ?_; rintro e w2 ⟨rfl, g, ⟨g1, g2, g3⟩, g4⟩; have HG2 : Hid (RB w2 (w.heap.size + 1) k 73 g ∧ PermOn 0 k (rp T k z) g ∧ SortedOn ltR g 0 k) := ⟨g1, g2, g4⟩; have HA2 : Hid (IB w2 w.heap.size k 3 (qv T k z)) := HA.out.below g3 (Nat.lt_succ_self _); have HB2 : Hid (Below w.heap.size w w2) := HB.out.trans (g3.mono (Nat.le_succ _)); clear g1 g2 g3 g4)
        | (go_at_call 49; refine (sum_any _ _ _ (qv T k z) _ hN HA2.out.ir HQB.out).mono ?_; rintro e w' ⟨rfl, ew⟩; replace ew := ew.symm; subst ew; rw [HQ.out])
        | (go_at_call 53
           obtain ⟨p, p1, p2⟩ := give_eq HOk.out HG2.out.2.1 HG2.out.2.2
           obtain ⟨k1, k2, k3⟩ := HK.out
           have hx : (L = (K : Int) ∧ on1 L = 1) ∨ (L = -(K : Int) ∧ L < 0 ∧ on1 L = -1) := (by
             rw [HL.out] at k3
             rcases k3 with ⟨e1, e2⟩ | ⟨e1, e2⟩
             · exact .inl ⟨e1, by unfold on1; rw [if_neg (by omega)]⟩
             · exact .inr ⟨e1, e2, by unfold on1; rw [if_pos e2]⟩)
           have ho : ∀ i, i ≤ K → ∀ j, -200000000000 ≤ gs (on1 L) p (fun j => if j < k then qv T k z j else 0) i j ∧ gs (on1 L) p (fun j => if j < k then qv T k z j else 0) i j ≤ 200000000000 := (fun i hi j => by
             have h5 := gs_bd p (one := on1 L) (o := fun j => if j < k then qv T k z j else 0) (M := 100000000000) (by rcases hx with e | e; exact .inl e.2; exact .inr e.2.2) (fun j => by
               show _ ≤ (if j < k then qv T k z j else 0) ∧ (if j < k then qv T k z j else 0) ≤ _
               split
               · exact qv_bd HOk.out (by assumption)
               · omega) i j
             omega)
           refine (giveLeft_any w.heap.size (w.heap.size + 1) k _ 73 (fun j => if j < k then qv T k z j else 0) g p K L (on1 L) _ (by omega) (by omega) (Nat.lt_succ_self _) (HA2.out.congr (fun j hj => if_pos hj)) HG2.out.1 p1 ho hx).mono ?_
           rintro e w3 ⟨rfl, r1, r2⟩
           have HF : Hid (IB w3 w.heap.size k 3 (shV T k z) ∧ Below w.heap.size w w3) := ⟨r1.congr (fun j hj => by
             unfold shV
             rw [k2, HL.out, p2 _ _ K (by omega)]
             exact gs_congr (fun i hi => (p1 i (by omega)).1) (fun j hj => (if_pos hj).symm) K (by omega) j hj), HB2.out.trans r2⟩
           clear r1 r2 hx ho p1 p2 k1 k2 k3))
      go_returns
      exact ⟨_, _, rfl, HF.out.1.own (Nat.le_refl _) (by omega), HF.out.2⟩
end Go.Proofs.Ytjlniinahfgakaa
