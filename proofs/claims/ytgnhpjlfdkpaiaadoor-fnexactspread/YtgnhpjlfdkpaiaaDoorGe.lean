/- Ledgers, plain: one entry more, and its head. The model's Post, where the ledger and the entry are right and there is room. The model's Post, where it refuses; and all of it as one. -/
import Derived.Test.YtgnhpjlfdkpaiaaDoorLg
import Derived.Test.YtgnhpjlfdkpaiaaDoorGd2
import Derived.Test.YtgnhpjlfdkpaiaaDoorSg
import Derived.Test.YtgnhpjlfdkpaiaaDoorHt
import Derived.Deep.RegionLaw
namespace Go.Proofs.YtgnhpjlfdkpaiaaDoor
open Go.RowKit
set_option linter.unusedVariables false

/-- The entries es 0 .. es (n - 1), then e. -/
def snE (es : Nat → E4) (n : Nat) (e : E4) : Nat → E4 := fun j => if j = n then e else es j
theorem snE_old {es : Nat → E4} {n : Nat} {e : E4} {j : Nat} (h : j < n) : snE es n e j = es j := by unfold snE; rw [if_neg (by omega)]
theorem snE_new {es : Nat → E4} {n : Nat} {e : E4} : snE es n e n = e := by unfold snE; rw [if_pos rfl]
theorem hs_congr {es fs : Nat → E4} : ∀ {n : Nat}, (∀ i, i < n → es i = fs i) → hs es n = hs fs n
  | 0, h => rfl
  | n + 1, h => by simp only [hs]; rw [hs_congr (fun i hi => h i (by omega)), h n (by omega)]
theorem hs_snE (es : Nat → E4) (n : Nat) (e : E4) : hs (snE es n e) (n + 1) = lks (hs es n) e.nums := by
  show lks (hs (snE es n e) n) (snE es n e n).nums = _
  rw [snE_new, hs_congr (fun i hi => snE_old hi)]
def inR (x : Int) : Prop := -549755813888 ≤ x ∧ x ≤ 549755813887
theorem lks_sound : ∀ (l : List Int) (s : Int × Bool), (∀ x ∈ l, inR x) → (lks s l).2 = s.2
  | [], s, h => rfl
  | x :: l, s, h => by
    rw [lks_cons, lks_sound l _ (fun y hy => h y (by simp [hy]))]
    have := h x (by simp)
    unfold inR at this
    unfold lk; rw [if_neg (by omega)]
theorem txtN_in (s : ByteArray) : ∀ n, ∀ x ∈ txtN s n, inR x
  | 0, x, h => by simp [txtN] at h
  | n + 1, x, h => by
    simp only [txtN, List.mem_append, List.mem_singleton] at h
    rcases h with h | rfl
    · exact txtN_in s n x h
    · unfold byN inR
      have := (s.data[n]?.getD 0).toNat_lt
      omega
theorem lnsN_in {ls : Nat → L5} : ∀ n, (∀ i, i < n → LOk (ls i) ∧ inR (ls i).acc) → ∀ x ∈ lnsN ls n, inR x
  | 0, _, x, h => by simp [lnsN] at h
  | n + 1, hl, x, h => by
    simp only [lnsN, List.mem_append] at h
    rcases h with h | h
    · exact lnsN_in n (fun i hi => hl i (by omega)) x h
    · obtain ⟨h1, h2⟩ := hl n (by omega)
      unfold LOk at h1
      simp only [L5.nums, List.mem_cons, List.not_mem_nil, or_false] at h
      unfold inR at *
      rcases h with rfl | rfl | rfl | rfl | rfl <;> omega
theorem lnB_acc {len : Nat} {c : Nat → C3} {d u : Int} {l : L5} (h : lnB len c d u l = true) : leafB len c l.acc = true := by
  unfold lnB at h; simp only [Bool.and_eq_true] at h; exact h.1

theorem enB_out {len : Nat} {c : Nat → C3} {d u : Int} {e : E4} (h : enB len c d u e = true) : frB len c d u = true ∧ (0 ≤ e.day ∧ e.day ≤ 40000) ∧ (0 ≤ e.ref ∧ e.ref ≤ 1000) ∧ txB e.text = true ∧ lsB len c d u e.n e.ls = true := by
  unfold enB at h
  simp only [Bool.and_eq_true] at h
  exact ⟨h.1, inB_iff.1 h.2.1, inB_iff.1 h.2.2.1, h.2.2.2.1, h.2.2.2.2⟩
theorem frB_out {len : Nat} {c : Nat → C3} {d u : Int} (h : frB len c d u = true) : chartB len c = true ∧ (1 ≤ d ∧ d ≤ 20) ∧ (1 ≤ u ∧ u ≤ 20) := by
  unfold frB at h
  simp only [Bool.and_eq_true] at h
  exact ⟨h.1, inB_iff.1 h.2.1, inB_iff.1 h.2.2⟩
theorem txB_out {s : ByteArray} (h : txB s = true) : s.size ≤ 40 ∧ ∀ i, i < s.size → 32 ≤ byN s i := @of_decide_eq_true _ (Classical.propDecidable _) h
theorem lsB_out {len : Nat} {c : Nat → C3} {d u : Int} {n : Nat} {ls : Nat → L5} (h : lsB len c d u n ls = true) : 2 ≤ n ∧ n ≤ 60 ∧ (∀ i, i < n → lnB len c d u (ls i) = true) ∧ evB n ls = true := @of_decide_eq_true _ (Classical.propDecidable _) h
theorem leB_out {len : Nat} {c : Nat → C3} {d u : Int} {n : Nat} {es : Nat → E4} {hd : Int} (h : leB len c d u n es hd = true) : frB len c d u = true ∧ n ≤ 1000 ∧ (∀ i, i < n → enB len c d u (es i) = true) ∧ hd = headV n es := @of_decide_eq_true _ (Classical.propDecidable _) h
theorem leaf_in {len : Nat} {c : Nat → C3} {x : Int} (h : leafB len c x = true) : 0 ≤ x ∧ x < (len : Int) := by
  unfold leafB at h
  have h2 := of_decide_eq_true h
  have := (tn_le len c).1
  omega

theorem enB_nums {len : Nat} {c : Nat → C3} {d u : Int} {e : E4} (hl : (len : Int) ≤ 1048576) (h : enB len c d u e = true) : smallE e ∧ ∀ x ∈ e.nums, inR x := by
  obtain ⟨hf, hd, hr, ht, hs⟩ := enB_out h
  obtain ⟨_, f1, f2⟩ := frB_out hf
  obtain ⟨t1, _⟩ := txB_out ht
  obtain ⟨s1, s2, s3, _⟩ := lsB_out hs
  refine ⟨⟨t1, s2⟩, fun x hx => ?_⟩
  simp only [E4.nums, List.mem_append, List.mem_cons, List.not_mem_nil, or_false] at hx
  have key : ∀ i, i < e.n → LOk (e.ls i) ∧ inR (e.ls i).acc := fun i hi => by
    have g := s3 i hi
    have a := leaf_in (lnB_acc g)
    exact ⟨lnB_ok (by omega) (by omega) g, by unfold inR; omega⟩
  rcases hx with (rfl | rfl | rfl) | hx | rfl | hx
  · unfold inR; omega
  · unfold inR; omega
  · unfold inR; omega
  · exact txtN_in _ _ x hx
  · unfold inR; omega
  · exact lnsN_in _ key x hx
theorem hs_sound {es : Nat → E4} : ∀ {n : Nat}, (∀ i, i < n → ∀ x ∈ (es i).nums, inR x) → (hs es n).2 = false
  | 0, _ => rfl
  | n + 1, h => by
    show (lks (hs es n) (es n).nums).2 = false
    rw [lks_sound _ _ (h n (by omega))]
    exact hs_sound (fun i hi => h i (by omega))
theorem leB_head {len : Nat} {c : Nat → C3} {d u : Int} {n : Nat} {es : Nat → E4} {hd : Int} (hl : (len : Int) ≤ 1048576) (h : leB len c d u n es hd = true) : hs es n = (hd, false) := by
  obtain ⟨h1, h2, h3, h4⟩ := leB_out h
  have hb : (hs es n).2 = false := hs_sound (fun i hi => (enB_nums hl (h3 i hi)).2)
  have := headV_done h2 (fun i hi => (enB_nums hl (h3 i hi)).1) hb
  rw [h4, this, ← hb]
theorem headV_sn {len : Nat} {c : Nat → C3} {d u : Int} {n : Nat} {es : Nat → E4} {hd : Int} {e : E4} (hl : (len : Int) ≤ 1048576) (h : leB len c d u n es hd = true) (he : enB len c d u e = true) (hn : n < 1000) :
    headV (n + 1) (snE es n e) = (lks (hd, false) e.nums).1 ∧ leB len c d u (n + 1) (snE es n e) (lks (hd, false) e.nums).1 = true := by
  obtain ⟨h1, h2, h3, h4⟩ := leB_out h
  have hh := leB_head hl h
  have key : ∀ i, i < n + 1 → enB len c d u (snE es n e i) = true := fun i hi => by
    by_cases hi2 : i = n
    · rw [hi2, snE_new]; exact he
    · rw [snE_old (by omega)]; exact h3 i (by omega)
  have hb : (hs (snE es n e) (n + 1)).2 = false := hs_sound (fun i hi => (enB_nums hl (key i hi)).2)
  have e1 := headV_done (len := n + 1) (by omega) (fun i hi => (enB_nums hl (key i hi)).1) hb
  rw [hs_snE, hh] at e1
  exact ⟨e1, leB_t ⟨h1, by omega, key, e1.symm⟩⟩

end Go.Proofs.YtgnhpjlfdkpaiaaDoor


namespace Go.Proofs.YtgnhpjlfdkpaiaaDoor
open Go Go.ChangeShapes Go.WideShapes Go.ChangeAt Go.RowKit
set_option linter.unusedVariables false
set_option linter.unusedSimpArgs false

/-- An append at one operation of a region that draws. -/
theorem oper_append {P : Program} {w : World} {o : Oper} {a : Act} {K : Act → World → Prop} {Q : Exit → Act → World → Prop} (s x : Operand) (t : TypeId)
    (ho : o.op = .call { callee := .builtin .append, args := #[s, x], argTypes := #[t, t] })
    (base : Nat) (e : TypeId) (i : TypeInfo) (z : Value) (size bytes : Nat) (ht : P.underlying t = some (.slice e)) (hi : P.info? e = some i) (hz : i.zero = some z)
    (hsize : i.size = size) (hby : i.bytes = bytes) (hzs : z.cells.size = size) (hsz : 0 < size)
    (v : Value) (n : Nat) (xs : List Value) (hs : a.eval s = v) (hown : w.ownsRow base e size v n xs)
    (ad : Addr) (m c : Nat) (news : List Value) (hx : a.eval x = .slice (some ad) m c) (hl : news.length = m * size) (hnews : ∀ j u, news[j]? = some u → w.cell? (ad.add j) = some u) (h1 : ∀ u ∈ news, u.oneCell' = true)
    (h63 : n + m ≤ maxLen) (hbytes : (n + m) * bytes ≤ 140737488355328) (hbase : base ≤ w.heap.size)
    (h : ∀ v' w', w'.ownsRow base e size v' (n + m) (xs ++ news) → w.grownBy w' v.ownBlock → (v'.ownBlock = v.ownBlock ∨ v'.ownBlock = some w.heap.size) → K (a.put o.dst v') w') :
    Oper.wp P o a w K Q := by
  obtain ⟨v', w', hr, h2, h3, h4, h5⟩ := run_append_own_at (P := P) w base t o.type e i z size bytes ht hi hz hsize hby hzs hsz v n xs hown ad m c news hl hnews h1 h63 hbytes hbase
  unfold Oper.wp execOp
  simp only [ho, resolve, invoke, builtin, Sem.run_bind, Sem.run_pure, Result.andThen_ok, List.map_toArray, List.map_cons, List.map_nil, hs, hx, hr]
  exact h v' w' h2 h3 h5

theorem step_append {P : Program} {ops : Array Oper} {w : World} {o : Oper} {a : Act} {K : Act → World → Prop} {Q : Exit → Act → World → Prop} {E : Prop} (hgd : o.guard = none) (s x : Operand) (t : TypeId)
    (ho : o.op = .call { callee := .builtin .append, args := #[s, x], argTypes := #[t, t] })
    (base : Nat) (e : TypeId) (i : TypeInfo) (z : Value) (size bytes : Nat) (ht : P.underlying t = some (.slice e)) (hi : P.info? e = some i) (hz : i.zero = some z)
    (hsize : i.size = size) (hby : i.bytes = bytes) (hzs : z.cells.size = size) (hsz : 0 < size)
    (v : Value) (n : Nat) (xs : List Value) (hs : a.eval s = v) (hown : w.ownsRow base e size v n xs)
    (ad : Addr) (m c : Nat) (news : List Value) (hx : a.eval x = .slice (some ad) m c) (hl : news.length = m * size) (hnews : ∀ j u, news[j]? = some u → w.cell? (ad.add j) = some u) (h1 : ∀ u ∈ news, u.oneCell' = true)
    (h63 : n + m ≤ maxLen) (hbytes : (n + m) * bytes ≤ 140737488355328) (hbase : base ≤ w.heap.size)
    (h : ∀ v' w', w'.ownsRow base e size v' (n + m) (xs ++ news) → w.grownBy w' v.ownBlock → (v'.ownBlock = v.ownBlock ∨ v'.ownBlock = some w.heap.size) → K (a.put o.dst v') w') :
    if Region.wanted o (yielded ops a.tmps) = true then Oper.wp P o a w K Q else E := by
  have hw : Region.wanted o (yielded ops a.tmps) = true := by simp [Region.wanted, hgd]
  rw [if_pos hw]
  exact oper_append s x t ho base e i z size bytes ht hi hz hsize hby hzs hsz v n xs hs hown ad m c news hx hl hnews h1 h63 hbytes hbase h

theorem sn_lt (es : Nat → E4) (n : Nat) (e : E4) : ∀ j, j < n → snE es n e j = es j := fun j hj => snE_old hj
theorem SE.congr {w : World} {base : Nat} {t : TypeId} {v : Value} {k : Nat} {es fs : Nat → E4} {A : Nat → Option Addr} {C : Nat → Nat} (h : SE w base t v k es A C) (hf : ∀ j, j < k → es j = fs j) : SE w base t v k fs A C := by
  refine ⟨?_, fun j hj => by rw [← hf j hj]; exact h.2 j hj⟩
  rw [← flE_congr (es := es) (A := A) (C := C) (fun j hj => ⟨hf j hj, rfl, rfl⟩)]; exact h.1

theorem SE.setAt {w : World} {base c o : Nat} {u : Value} {t : TypeId} {v : Value} {k : Nat} {es : Nat → E4} {A : Nat → Option Addr} {C : Nat → Nat} (h : SE w base t v k es A C) (hv : some c ≠ v.ownBlock) (hA : ∀ j, j < k → (es j).n = 0 ∨ ∀ b o q, A j = some ⟨b, o, q⟩ → b ≠ c) : SE (w.setCell ⟨c, o, none⟩ u) base t v k es A C := by
  refine ⟨⟨h.1.1, ?_⟩, fun j hj => ⟨(h.2 j hj).1.grown grown_set ?_, (h.2 j hj).2⟩⟩
  · rcases h.1.2 with h2 | ⟨g, cap, cur, e, hb, hg, rest⟩
    · exact .inl h2
    · exact .inr ⟨g, cap, cur, e, hb, by rw [grown_set.block g (lt_of_block hg) (fun e2 => by cases e2; exact hv (by rw [e]; rfl))]; exact hg, rest⟩
  · rcases hA j hj with h2 | h2
    · exact .inl h2
    · exact .inr fun b o q e e2 => h2 b o q e (Option.some.inj e2)
theorem SE.under {w : World} {base : Nat} {t : TypeId} {v : Value} {k : Nat} {es : Nat → E4} {A : Nat → Option Addr} {C : Nat → Nat} (h : SE w base t v k es A C) : ∀ j, j < k → (es j).n = 0 ∨ ∀ b o q, A j = some ⟨b, o, q⟩ → b ≠ w.heap.size := fun j hj => by
  rcases (h.2 j hj).1 with h1 | ⟨kb, off, e, hk, _⟩
  · exact .inl h1
  · refine .inr fun b o q e2 => ?_
    rw [e] at e2
    cases e2; omega
theorem own_ne {c sz : Nat} {v v' : Value} (hat : v'.ownBlock = v.ownBlock ∨ v'.ownBlock = some sz) (h1 : some c ≠ v.ownBlock) (h2 : c ≠ sz) : some c ≠ v'.ownBlock := by
  rcases hat with q | q
  · rw [q]; exact h1
  · rw [q]; exact fun e => h2 (Option.some.inj e)
theorem avoid_sn {es : Nat → E4} {n c b : Nat} {e : E4} {A : Nat → Option Addr} (h : ∀ j, j < n → (es j).n = 0 ∨ ∀ b o q, A j = some ⟨b, o, q⟩ → b ≠ c) (hb : b ≠ c) : ∀ j, j < n + 1 → (snE es n e j).n = 0 ∨ ∀ b2 o q, (if j = n then some ⟨b, 0, none⟩ else A j) = some ⟨b2, o, q⟩ → b2 ≠ c := fun j hj => by
  by_cases hjn : j = n
  · refine .inr fun b2 o q e2 => ?_
    rw [if_pos hjn] at e2
    cases e2; exact hb
  · rw [snE_old (by omega), if_neg hjn]; exact h j (by omega)

set_option maxRecDepth 20000 in
set_option maxHeartbeats 8000000 in
theorem specPost_ok (fa : Option Addr) (len cap : Nat) (c : Nat → C3) (d u : Int) (B m n lcap : Nat) (es : Nat → E4) (bl : Nat → Nat) (hd : Int) (ed er : Int) (et : ByteArray) (ea : Addr) (en ecap : Nat) (els : Nat → L5) (w : World)
    (hl : (len : Int) ≤ 1048576) (hc : ∀ j, (c j).code.size ≤ maxLen) (hr : CR w fa len c) (hO : OwnE w B m n es bl 32 56) (ht : ∀ j, ((es j).text.size : Int) ≤ 9223372036854775807) (hnn : ∀ j, j < n → ((es j).n : Int) ≤ 1048576)
    (hL : LR w (some ea) en els) (het : (et.size : Int) ≤ 9223372036854775807) (hn1 : (en : Int) ≤ 1048576)
    (h1 : leB len c d u n es hd = true) (h2 : enB len c d u ⟨ed, er, et, en, els⟩ = true) (h3 : n < 1000) :
    Calls Tryd.prog 15 #[.agg #[.slice fa len cap, .int .i64 d, .int .i64 u], .agg #[.slice (some ⟨B, 0, none⟩) n lcap, .int .i64 hd], .agg #[.int .i64 ed, .int .i64 er, .string et, .slice (some ea) en ecap]] w fun e w' =>
      ∃ ad cc A C, e = .returned (.tuple #[.agg #[.slice ad (n + 1) cc, .int .i64 (headV (n + 1) (snE es n ⟨ed, er, et, en, els⟩))], .int .i64 0]) ∧ SE w' w.heap.size 32 (.slice ad (n + 1) cc) (n + 1) (snE es n ⟨ed, er, et, en, els⟩) A C ∧ Below w.heap.size w w' := by
  have HC : Hid (∀ j, (c j).code.size ≤ maxLen) := hc
  have HTX : Hid (∀ j, ((es j).text.size : Int) ≤ 9223372036854775807) := ht
  have HNN : Hid (∀ j, j < n → ((es j).n : Int) ≤ 1048576) := hnn
  have HR : Hid (CR w fa len c) := hr
  have HO : Hid (OwnE w B m n es bl 32 56) := hO
  have HL : Hid (LR w (some ea) en els) := hL
  have HBA : Hid (Below w.heap.size w ((((w.alloc (.cells #[.slice fa len cap, .int .i64 d, .int .i64 u] 26 (0, 0))).alloc (.cells #[.slice (some ⟨B, 0, none⟩) n lcap, .int .i64 hd] 29 (0, 0))).alloc (.cells #[.int .i64 ed, .int .i64 er, .string et, .slice (some ea) en ecap] 32 (0, 0))).alloc (.cells #[.slice none 0 0, .int .i64 0] 29 (0, 0)))) := ((((Below.refl _ _).alloc (Nat.le_refl _) _).alloc (by simp) _).alloc (by simp; omega) _).alloc (by simp; omega) _
  clear hc ht hnn hr hO hL
  have hn32 : (n : Int) ≤ 1048576 := by omega
  have hne : ((n : Int) == 1000) = false := by simp; omega
  obtain ⟨i0, hi, hz0, hz1, hz2⟩ := infoE
  go_enter Tryd.func15, Tryd.ntmps15
  go_wp2_with (first
    | (go_at_call 39; go_loud ((refine (specLedger_any _ _ _ c _ _ _ _ _ es _ _ hl HC.out (HR.out.below HBA.out) (HO.out.row.below HBA.out) HTX.out HNN.out).mono ?_); rintro e w1 ⟨rfl, b1⟩; rw [h1]; have X0 : CB w1 w.heap.size #[.slice fa len cap, .int .i64 d, .int .i64 u] 26 := ((((CB.new _ _).alloc _).alloc _).alloc _).below b1 (by first | (simp; done) | (simp; omega)); have X1 : CB w1 (w.heap.size + 1) #[.slice (some ⟨B, 0, none⟩) n lcap, .int .i64 hd] 29 := (((CB.newAt (by simp) _ _).alloc _).alloc _).below b1 (by first | (simp; done) | (simp; omega)); have X2 : CB w1 (w.heap.size + 1 + 1) #[.int .i64 ed, .int .i64 er, .string et, .slice (some ea) en ecap] 32 := ((CB.newAt (by simp) _ _).alloc _).below b1 (by first | (simp; done) | (simp; omega)); have X3 : CB w1 (w.heap.size + 1 + 1 + 1) #[.slice none 0 0, .int .i64 0] 29 := (CB.newAt (by simp) _ _).below b1 (by simp); have x10 := (X1.cell 0).trans rfl; have x11 := (X1.cell 1).trans rfl; have B1 : Below w.heap.size w w1 := bel_on HBA.out b1; have H0 : Hid (CB w1 w.heap.size _ _) := X0; have H1 : Hid (CB w1 (w.heap.size + 1) _ _) := X1; have H2 : Hid (CB w1 (w.heap.size + 1 + 1) _ _) := X2; have H3 : Hid (CB w1 (w.heap.size + 1 + 1 + 1) _ _) := X3; have HB1 : Hid (Below w.heap.size w w1) := B1; clear b1 B1 X0 X1 X2 X3))
    | (go_at_call 65; go_loud ((refine (l5Ledger_any _ m _ _ es bl _ _ hn32 HNN.out (HO.out.keep HB1.out)).mono ?_); rintro e w2 ⟨ad, c2, A, C, rfl, hS, b2⟩; have HA : Hid (Below w2.heap.size w2 (w2.alloc (.cells #[.slice ad n c2, .int .i64 hd] 29 (0, 0)))) := (Below.refl _ _).alloc (Nat.le_refl _) _; have b3 := bel_on b2 HA.out; have x00 := ((H0.out.below b3 H0.out.lt).cell 0).trans rfl; have x01 := ((H0.out.below b3 H0.out.lt).cell 1).trans rfl; have x02 := ((H0.out.below b3 H0.out.lt).cell 2).trans rfl; have x20 := ((H2.out.below b3 H2.out.lt).cell 0).trans rfl; have x21 := ((H2.out.below b3 H2.out.lt).cell 1).trans rfl; have x22 := ((H2.out.below b3 H2.out.lt).cell 2).trans rfl; have x23 := ((H2.out.below b3 H2.out.lt).cell 3).trans rfl; have HB2 : Hid (Below w.heap.size w w2) := bel_on HB1.out b2; have HLE : Hid (w1.heap.size ≤ w2.heap.size) := b2.size; have HB12 : Hid (Below w1.heap.size w1 (w2.alloc (.cells #[.slice ad n c2, .int .i64 hd] 29 (0, 0)))) := b3; have HS : Hid (SE w2 w1.heap.size 32 (.slice ad n c2) n es A C) := hS; clear b2 b3 hS))
    | (go_at_call 35; go_loud ((refine (specEntry_any _ _ _ c _ _ _ _ _ _ _ _ els _ hl HC.out (HR.out.below (bel_on HB1.out HB12.out)) (HL.out.below (bel_on HB1.out HB12.out)) het hn1).mono ?_); rintro e w3 ⟨rfl, b3⟩; rw [h2]; have b4 : Below w1.heap.size w1 w3 := bel_on HB12.out b3; have x10 := ((H1.out.below b4 H1.out.lt).cell 0).trans rfl; have Y8 : CB w3 w2.heap.size #[.slice ad n c2, .int .i64 hd] 29 := (CB.new _ _).below b3 (by simp); have HS3 : Hid (SE w3 w1.heap.size 32 (.slice ad n c2) n es A C) := (HS.out.below HA.out).below b3; have HY8 : Hid (CB w3 w2.heap.size #[.slice ad n c2, .int .i64 hd] 29) := Y8; have HB13 : Hid (Below w1.heap.size w1 w3) := b4; clear b3 b4 Y8)))
  have k0 : w3.cell? ⟨w2.heap.size, 0, none⟩ = some (.slice ad n c2) := (HY8.out.cell 0).trans rfl
  have x20 : w3.cell? ⟨w.heap.size + 1 + 1, 0, none⟩ = some (.int .i64 ed) := ((H2.out.below HB13.out H2.out.lt).cell 0).trans rfl
  have x21 : w3.cell? ⟨w.heap.size + 1 + 1, 1, none⟩ = some (.int .i64 er) := ((H2.out.below HB13.out H2.out.lt).cell 1).trans rfl
  have x22 : w3.cell? ⟨w.heap.size + 1 + 1, 2, none⟩ = some (.string et) := ((H2.out.below HB13.out H2.out.lt).cell 2).trans rfl
  have x23 : w3.cell? ⟨w.heap.size + 1 + 1, 3, none⟩ = some (.slice (some ea) en ecap) := ((H2.out.below HB13.out H2.out.lt).cell 3).trans rfl
  have HL3 : Hid (LR w3.drew (some ea) en els) := HL.out.below ((bel_on HB1.out HB13.out).drew)
  go_region_law (first
    | (go_simp; go_at_call 66; go_loud (refine (l5Entry_any _ _ _ _ _ _ els _ hn1 HL3.out).mono ?_; rintro e w4 ⟨b, c4, rfl, hb, hl4, b40⟩; have b4 : Below w3.heap.size w3 w4 := ⟨b40.os, b40.tape, b40.output, b40.size, b40.block⟩; have j0 : w4.cell? ⟨w2.heap.size, 0, none⟩ = some (.slice ad n c2) := keep_cell b4 k0; have W4a : Hid (Below w4.heap.size w4 (w4.alloc (.cells #[.int .i64 ed, .int .i64 er, .string et, .slice (some ⟨b, 0, none⟩) en c4] 32 (0, 0)))) := (Below.refl _ _).alloc (Nat.le_refl _) _; have HB4 : Hid (Below w3.heap.size w3 (w4.alloc (.cells #[.int .i64 ed, .int .i64 er, .string et, .slice (some ⟨b, 0, none⟩) en c4] 32 (0, 0)))) := bel_on b4 W4a.out; have j1 : (w4.alloc (.cells #[.int .i64 ed, .int .i64 er, .string et, .slice (some ⟨b, 0, none⟩) en c4] 32 (0, 0))).cell? ⟨w2.heap.size, 0, none⟩ = some (.slice ad n c2) := keep_cell W4a.out j0; have HL4 : Hid (LR (w4.alloc (.cells #[.int .i64 ed, .int .i64 er, .string et, .slice (some ⟨b, 0, none⟩) en c4] 32 (0, 0))) (some ⟨b, 0, none⟩) en els) := hl4.below W4a.out; have HPB : Hid (w3.heap.size ≤ b) := hb; clear b4 b40 hl4 hb; (try dsimp only)))
    | (go_loud (refine step_append rfl (Operand.tmp 27) (Operand.tmp 30) 27 rfl w1.heap.size 32 i0 (.agg #[.int .i64 0, .int .i64 0, .string ByteArray.empty, .slice none 0 0]) 4 56 Tryd.underlying27 hi hz0 hz1 hz2 rfl (by decide) (.slice ad n c2) n (flE es A C n) rfl (HS3.out.below HB4.out).1 ⟨w4.heap.size, 0, none⟩ 1 1 (cellsE ⟨ed, er, et, en, els⟩ (some ⟨b, 0, none⟩) c4) rfl rfl (acells_at rfl) (cellsE_one _ _ _) (by unfold maxLen; omega) (by omega) (by have := HB4.out.size; have := HB13.out.size; omega) ?_; intro v5 w5 hown hgrow hat; have hlt8 : ∀ g, Value.ownBlock (.slice ad n c2) = some g → w1.heap.size ≤ g ∧ g < w2.heap.size := (fun g hg => HS.out.lt g hg); have Y5 : CB w5 w2.heap.size #[.slice ad n c2, .int .i64 hd] 29 := CB.grownB (HY8.out.below HB4.out HY8.out.lt) hgrow (fun e => by have := (hlt8 _ e.symm).2; omega); have y50 := (Y5.cell 0).trans rfl; have y51 := (Y5.cell 1).trans rfl; have f50 := Y5.fr 0; have f51 := Y5.fr 1; have HY5 : Hid (CB w5 w2.heap.size #[.slice ad n c2, .int .i64 hd] 29) := Y5; have hS5 : SE w5 w1.heap.size 32 v5 (n + 1) (snE es n ⟨ed, er, et, en, els⟩) _ _ := SE.snoc (es := snE es n ⟨ed, er, et, en, els⟩) (((HS3.out.below HB4.out).congr (fun j hj => (snE_old hj).symm))) (by rw [snE_new]; exact HL4.out) (by rw [snE_new]; exact .inr (fun b2 o q e => by cases e; exact ⟨fun e2 => by have := (hlt8 _ e2.symm).2; have := HPB.out; have := HY8.out.lt; omega, by have := HPB.out; have := HB13.out.size; omega⟩)) (by rw [snE_new, flE_congr (fun j hj => ⟨snE_old hj, rfl, rfl⟩)]; exact hown) hgrow hat; obtain ⟨ad5, c5, rfl⟩ := SE.form hS5; have HS5 : Hid (SE w5 w1.heap.size 32 (.slice ad5 (n + 1) c5) (n + 1) (snE es n ⟨ed, er, et, en, els⟩) _ _) := hS5; have HB5 : Hid (Below w1.heap.size w1 w5) := below_grown (bel_on HB13.out HB4.out) (Nat.le_refl _) hgrow (fun r e => (hlt8 r e).1); have HVB : Hid (some w2.heap.size ≠ Value.ownBlock (.slice ad5 (n + 1) c5)) := own_ne hat (fun q2 => by have := (hlt8 _ q2.symm).2; omega) (by have := HB4.out.size; have := HY8.out.lt; omega); have HAV : Hid (∀ j, j < n + 1 → (snE es n ⟨ed, er, et, en, els⟩ j).n = 0 ∨ ∀ b2 o q, (if j = n then some ⟨b, 0, none⟩ else A j) = some ⟨b2, o, q⟩ → b2 ≠ w2.heap.size) := avoid_sn HS.out.under (by have := HPB.out; have := HY8.out.lt; omega); clear hown hgrow hat hlt8 Y5 hS5)))
  all_goals
    have Y6 : CB (w5.setCell ⟨w2.heap.size, 0, none⟩ (.slice ad5 (n + 1) c5)) w2.heap.size #[.slice ad5 (n + 1) c5, .int .i64 hd] 29 := HY5.out.set 0 _
    have hlt5 : w1.heap.size ≤ w2.heap.size := HLE.out
    have S6 := HS5.out.setAt (c := w2.heap.size) (o := 0) (u := .slice ad5 (n + 1) c5) HVB.out HAV.out
    have R6 : ER (w5.setCell ⟨w2.heap.size, 0, none⟩ (.slice ad5 (n + 1) c5)) ad5 (n + 1) (snE es n ⟨ed, er, et, en, els⟩) := S6.row
    have X6 : CB (w5.setCell ⟨w2.heap.size, 0, none⟩ (.slice ad5 (n + 1) c5)) (w.heap.size + 1 + 1 + 1) #[.slice none 0 0, .int .i64 0] 29 := (H3.out.below HB5.out H3.out.lt).other _ (by have := H3.out.lt; omega)
    have B6 : Below w.heap.size w (w5.setCell ⟨w2.heap.size, 0, none⟩ (.slice ad5 (n + 1) c5)) := (bel_on HB1.out HB5.out).setCell (by have := HB1.out.size; simp; omega) _
    obtain ⟨W6n, hW6⟩ : ∃ W6n, W6n = (w5.setCell ⟨w2.heap.size, 0, none⟩ (.slice ad5 (n + 1) c5)) := ⟨_, rfl⟩
    rw [← hW6] at Y6 S6 R6 X6 B6 ⊢
    have y60 : W6n.cell? ⟨w2.heap.size, 0, none⟩ = some (.slice ad5 (n + 1) c5) := (Y6.cell 0).trans rfl
    obtain ⟨HVn, hHV⟩ : ∃ HVn, HVn = headV (n + 1) (snE es n ⟨ed, er, et, en, els⟩) := ⟨_, rfl⟩
    have HHV : Hid (HVn = headV (n + 1) (snE es n ⟨ed, er, et, en, els⟩)) := hHV
    have HS6 : Hid (SE W6n w1.heap.size 32 (.slice ad5 (n + 1) c5) (n + 1) (snE es n ⟨ed, er, et, en, els⟩) _ _) := S6
    have HY6 : Hid (CB W6n w2.heap.size #[.slice ad5 (n + 1) c5, .int .i64 hd] 29) := Y6
    have HX6 : Hid (CB W6n (w.heap.size + 1 + 1 + 1) #[.slice none 0 0, .int .i64 0] 29) := X6
    have HB6 : Hid (Below w.heap.size w W6n) := B6
    have HR6 : Hid (ER W6n ad5 (n + 1) (snE es n ⟨ed, er, et, en, els⟩)) := R6
    clear hW6 hHV Y6 S6 R6 X6 B6
    have n1 : ¬ (w2.heap.size = w.heap.size + 1 + 1 + 1) := by have := H3.out.lt; omega
    have n2 : ¬ (w.heap.size + 1 + 1 + 1 = w2.heap.size) := by have := H3.out.lt; omega
    go_wp2_with (go_at_call 67; go_loud (refine (specHead_any _ _ _ (snE es n ⟨ed, er, et, en, els⟩) _ HR6.out).mono ?_; rintro e w7 ⟨rfl, b7⟩; rw [← HHV.out]; have Y7 := HY6.out.below b7 HY6.out.lt; have X7 := HX6.out.below b7 HX6.out.lt; have y70 := (Y7.cell 0).trans rfl; have y71 := (Y7.cell 1).trans rfl; have fy := Y7.fr 1; have x70 := (X7.cell 0).trans rfl; have x71 := (X7.cell 1).trans rfl; have fx0 := X7.fr 0; have fx1 := X7.fr 1; have HS7 : Hid (SE w7 w1.heap.size 32 (.slice ad5 (n + 1) c5) (n + 1) (snE es n ⟨ed, er, et, en, els⟩) _ _) := HS6.out.below b7; have HX7 : Hid (CB w7 (w.heap.size + 1 + 1 + 1) #[.slice none 0 0, .int .i64 0] 29) := X7; have HB7 : Hid (Below w.heap.size w w7) := bel_on HB6.out b7; clear b7 Y7 X7))
    have hX := ((HX7.out.other (c := w2.heap.size) (o := 1) (.int .i64 HVn) n2).set 0 (.slice ad5 (n + 1) c5)).set 1 (.int .i64 HVn)
    have hY := ((HS7.out.setAt (c := w2.heap.size) (o := 1) (u := .int .i64 HVn) HVB.out HAV.out).set (c := w.heap.size + 1 + 1 + 1) (o := 0) (u := .slice ad5 (n + 1) c5) H3.out.lt).set (c := w.heap.size + 1 + 1 + 1) (o := 1) (u := .int .i64 HVn) H3.out.lt
    have hY := hY.mono (base' := w.heap.size) HB1.out.size
    have hZ := ((HB7.out.setCell (p := ⟨w2.heap.size, 1, none⟩) (by have := HB1.out.size; simp; omega) (.int .i64 HVn)).setCell (p := ⟨w.heap.size + 1 + 1 + 1, 0, none⟩) (by simp; omega) (.slice ad5 (n + 1) c5)).setCell (p := ⟨w.heap.size + 1 + 1 + 1, 1, none⟩) (by simp; omega) (.int .i64 HVn)
    have e0 := hX.cell 0
    have e1 := hX.cell 1
    simp at e0 e1
    clear hX
    generalize (World.setCell _ _ _) = W9 at e0 e1 hY hZ ⊢
    refine bodyPost_ret (by simp [results, Tryd.results15, go_sem, e0, e1]; try rfl) rfl ?_
    exact ⟨ad5, c5, _, _, by rw [← HHV.out], hY, hZ⟩

end Go.Proofs.YtgnhpjlfdkpaiaaDoor


namespace Go.Proofs.YtgnhpjlfdkpaiaaDoor
open Go Go.ChangeShapes Go.WideShapes Go.ChangeAt Go.RowKit
set_option linter.unusedVariables false
set_option linter.unusedSimpArgs false

set_option maxRecDepth 20000 in
set_option maxHeartbeats 8000000 in
theorem specPost_bad (fa : Option Addr) (len cap : Nat) (c : Nat → C3) (d u : Int) (B m n lcap : Nat) (es : Nat → E4) (bl : Nat → Nat) (hd : Int) (ed er : Int) (et : ByteArray) (ea : Addr) (en ecap : Nat) (els : Nat → L5) (w : World)
    (hl : (len : Int) ≤ 1048576) (hc : ∀ j, (c j).code.size ≤ maxLen) (hr : CR w fa len c) (hO : OwnE w B m n es bl 32 56) (ht : ∀ j, ((es j).text.size : Int) ≤ 9223372036854775807) (hnn : ∀ j, j < n → ((es j).n : Int) ≤ 1048576)
    (hL : LR w (some ea) en els) (het : (et.size : Int) ≤ 9223372036854775807) (hn1 : (en : Int) ≤ 1048576)
    (h1 : leB len c d u n es hd = false) :
    Calls Tryd.prog 15 #[.agg #[.slice fa len cap, .int .i64 d, .int .i64 u], .agg #[.slice (some ⟨B, 0, none⟩) n lcap, .int .i64 hd], .agg #[.int .i64 ed, .int .i64 er, .string et, .slice (some ea) en ecap]] w fun e w' =>
      e = .returned (.tuple #[.agg #[.slice none 0 0, .int .i64 0], .int .i64 1]) ∧ Below w.heap.size w w' := by
  have HC : Hid (∀ j, (c j).code.size ≤ maxLen) := hc
  have HTX : Hid (∀ j, ((es j).text.size : Int) ≤ 9223372036854775807) := ht
  have HNN : Hid (∀ j, j < n → ((es j).n : Int) ≤ 1048576) := hnn
  have HR : Hid (CR w fa len c) := hr
  have HO : Hid (OwnE w B m n es bl 32 56) := hO
  have HL : Hid (LR w (some ea) en els) := hL
  have HBA : Hid (Below w.heap.size w ((((w.alloc (.cells #[.slice fa len cap, .int .i64 d, .int .i64 u] 26 (0, 0))).alloc (.cells #[.slice (some ⟨B, 0, none⟩) n lcap, .int .i64 hd] 29 (0, 0))).alloc (.cells #[.int .i64 ed, .int .i64 er, .string et, .slice (some ea) en ecap] 32 (0, 0))).alloc (.cells #[.slice none 0 0, .int .i64 0] 29 (0, 0)))) := ((((Below.refl _ _).alloc (Nat.le_refl _) _).alloc (by simp) _).alloc (by simp; omega) _).alloc (by simp; omega) _
  clear hc ht hnn hr hO hL
  go_enter Tryd.func15, Tryd.ntmps15
  go_wp2_with (go_at_call 39; go_loud ((refine (specLedger_any _ _ _ c _ _ _ _ _ es _ _ hl HC.out (HR.out.below HBA.out) (HO.out.row.below HBA.out) HTX.out HNN.out).mono ?_); rintro e w1 ⟨rfl, b1⟩; rw [h1]; have X0 : CB w1 w.heap.size #[.slice fa len cap, .int .i64 d, .int .i64 u] 26 := ((((CB.new _ _).alloc _).alloc _).alloc _).below b1 (by first | (simp; done) | (simp; omega)); have X1 : CB w1 (w.heap.size + 1) #[.slice (some ⟨B, 0, none⟩) n lcap, .int .i64 hd] 29 := (((CB.newAt (by simp) _ _).alloc _).alloc _).below b1 (by first | (simp; done) | (simp; omega)); have X2 : CB w1 (w.heap.size + 1 + 1) #[.int .i64 ed, .int .i64 er, .string et, .slice (some ea) en ecap] 32 := ((CB.newAt (by simp) _ _).alloc _).below b1 (by first | (simp; done) | (simp; omega)); have X3 : CB w1 (w.heap.size + 1 + 1 + 1) #[.slice none 0 0, .int .i64 0] 29 := (CB.newAt (by simp) _ _).below b1 (by simp); have x30 := (X3.cell 0).trans rfl; have x31 := (X3.cell 1).trans rfl; have fx0 := X3.fr 0; have fx1 := X3.fr 1; have B1 : Below w.heap.size w w1 := bel_on HBA.out b1; have H0 : Hid (CB w1 w.heap.size _ _) := X0; have H1 : Hid (CB w1 (w.heap.size + 1) _ _) := X1; have H2 : Hid (CB w1 (w.heap.size + 1 + 1) _ _) := X2; have H3 : Hid (CB w1 (w.heap.size + 1 + 1 + 1) _ _) := X3; have HB1 : Hid (Below w.heap.size w w1) := B1; clear b1 B1 X0 X1 X2 X3))
  have hZ := (HB1.out.setCell (p := ⟨w.heap.size + 1 + 1 + 1, 0, none⟩) (by simp; omega) (.slice none 0 0)).setCell (p := ⟨w.heap.size + 1 + 1 + 1, 1, none⟩) (by simp; omega) (.int .i64 0)
  have hX := (H3.out.set 0 (.slice none 0 0)).set 1 (.int .i64 0)
  have e0 := hX.cell 0
  have e1 := hX.cell 1
  simp at e0 e1
  clear hX
  generalize (World.setCell _ _ _) = W9 at e0 e1 hZ ⊢
  refine bodyPost_ret (by simp [results, Tryd.results15, go_sem, e0, e1]; try rfl) rfl ?_
  exact ⟨rfl, hZ⟩

set_option maxRecDepth 20000 in
set_option maxHeartbeats 8000000 in
theorem specPost_entry (fa : Option Addr) (len cap : Nat) (c : Nat → C3) (d u : Int) (B m n lcap : Nat) (es : Nat → E4) (bl : Nat → Nat) (hd : Int) (ed er : Int) (et : ByteArray) (ea : Addr) (en ecap : Nat) (els : Nat → L5) (w : World)
    (hl : (len : Int) ≤ 1048576) (hc : ∀ j, (c j).code.size ≤ maxLen) (hr : CR w fa len c) (hO : OwnE w B m n es bl 32 56) (ht : ∀ j, ((es j).text.size : Int) ≤ 9223372036854775807) (hnn : ∀ j, j < n → ((es j).n : Int) ≤ 1048576)
    (hL : LR w (some ea) en els) (het : (et.size : Int) ≤ 9223372036854775807) (hn1 : (en : Int) ≤ 1048576)
    (h1 : leB len c d u n es hd = true) (h2 : enB len c d u ⟨ed, er, et, en, els⟩ = false) :
    Calls Tryd.prog 15 #[.agg #[.slice fa len cap, .int .i64 d, .int .i64 u], .agg #[.slice (some ⟨B, 0, none⟩) n lcap, .int .i64 hd], .agg #[.int .i64 ed, .int .i64 er, .string et, .slice (some ea) en ecap]] w fun e w' =>
      ∃ ad cc A C, e = .returned (.tuple #[.agg #[.slice ad n cc, .int .i64 hd], .int .i64 2]) ∧ SE w' w.heap.size 32 (.slice ad n cc) n es A C ∧ Below w.heap.size w w' := by
  have HC : Hid (∀ j, (c j).code.size ≤ maxLen) := hc
  have HTX : Hid (∀ j, ((es j).text.size : Int) ≤ 9223372036854775807) := ht
  have HNN : Hid (∀ j, j < n → ((es j).n : Int) ≤ 1048576) := hnn
  have HR : Hid (CR w fa len c) := hr
  have HO : Hid (OwnE w B m n es bl 32 56) := hO
  have HL : Hid (LR w (some ea) en els) := hL
  have HBA : Hid (Below w.heap.size w ((((w.alloc (.cells #[.slice fa len cap, .int .i64 d, .int .i64 u] 26 (0, 0))).alloc (.cells #[.slice (some ⟨B, 0, none⟩) n lcap, .int .i64 hd] 29 (0, 0))).alloc (.cells #[.int .i64 ed, .int .i64 er, .string et, .slice (some ea) en ecap] 32 (0, 0))).alloc (.cells #[.slice none 0 0, .int .i64 0] 29 (0, 0)))) := ((((Below.refl _ _).alloc (Nat.le_refl _) _).alloc (by simp) _).alloc (by simp; omega) _).alloc (by simp; omega) _
  clear hc ht hnn hr hO hL
  have hn32 : (n : Int) ≤ 1048576 := by have := (leB_out h1).2.1; omega
  go_enter Tryd.func15, Tryd.ntmps15
  go_wp2_with (first
    | (go_at_call 39; go_loud ((refine (specLedger_any _ _ _ c _ _ _ _ _ es _ _ hl HC.out (HR.out.below HBA.out) (HO.out.row.below HBA.out) HTX.out HNN.out).mono ?_); rintro e w1 ⟨rfl, b1⟩; rw [h1]; have X0 : CB w1 w.heap.size #[.slice fa len cap, .int .i64 d, .int .i64 u] 26 := ((((CB.new _ _).alloc _).alloc _).alloc _).below b1 (by first | (simp; done) | (simp; omega)); have X1 : CB w1 (w.heap.size + 1) #[.slice (some ⟨B, 0, none⟩) n lcap, .int .i64 hd] 29 := (((CB.newAt (by simp) _ _).alloc _).alloc _).below b1 (by first | (simp; done) | (simp; omega)); have X2 : CB w1 (w.heap.size + 1 + 1) #[.int .i64 ed, .int .i64 er, .string et, .slice (some ea) en ecap] 32 := ((CB.newAt (by simp) _ _).alloc _).below b1 (by first | (simp; done) | (simp; omega)); have X3 : CB w1 (w.heap.size + 1 + 1 + 1) #[.slice none 0 0, .int .i64 0] 29 := (CB.newAt (by simp) _ _).below b1 (by simp); have x10 := (X1.cell 0).trans rfl; have x11 := (X1.cell 1).trans rfl; have B1 : Below w.heap.size w w1 := bel_on HBA.out b1; have H0 : Hid (CB w1 w.heap.size _ _) := X0; have H1 : Hid (CB w1 (w.heap.size + 1) _ _) := X1; have H2 : Hid (CB w1 (w.heap.size + 1 + 1) _ _) := X2; have H3 : Hid (CB w1 (w.heap.size + 1 + 1 + 1) _ _) := X3; have HB1 : Hid (Below w.heap.size w w1) := B1; clear b1 B1 X0 X1 X2 X3))
    | (go_at_call 65; go_loud ((refine (l5Ledger_any _ m _ _ es bl _ _ hn32 HNN.out (HO.out.keep HB1.out)).mono ?_); rintro e w2 ⟨ad, c2, A, C, rfl, hS, b2⟩; have HA : Hid (Below w2.heap.size w2 (w2.alloc (.cells #[.slice ad n c2, .int .i64 hd] 29 (0, 0)))) := (Below.refl _ _).alloc (Nat.le_refl _) _; have b3 := bel_on b2 HA.out; have x00 := ((H0.out.below b3 H0.out.lt).cell 0).trans rfl; have x01 := ((H0.out.below b3 H0.out.lt).cell 1).trans rfl; have x02 := ((H0.out.below b3 H0.out.lt).cell 2).trans rfl; have x20 := ((H2.out.below b3 H2.out.lt).cell 0).trans rfl; have x21 := ((H2.out.below b3 H2.out.lt).cell 1).trans rfl; have x22 := ((H2.out.below b3 H2.out.lt).cell 2).trans rfl; have x23 := ((H2.out.below b3 H2.out.lt).cell 3).trans rfl; have HB2 : Hid (Below w.heap.size w w2) := bel_on HB1.out b2; have HLE : Hid (w1.heap.size ≤ w2.heap.size) := b2.size; have HB12 : Hid (Below w1.heap.size w1 (w2.alloc (.cells #[.slice ad n c2, .int .i64 hd] 29 (0, 0)))) := b3; have HS : Hid (SE w2 w1.heap.size 32 (.slice ad n c2) n es A C) := hS; clear b2 b3 hS))
    | (go_at_call 35; go_loud ((refine (specEntry_any _ _ _ c _ _ _ _ _ _ _ _ els _ hl HC.out (HR.out.below (bel_on HB1.out HB12.out)) (HL.out.below (bel_on HB1.out HB12.out)) het hn1).mono ?_); rintro e w3 ⟨rfl, b3⟩; rw [h2]; have b4 : Below w1.heap.size w1 w3 := bel_on HB12.out b3; have x10 := ((H1.out.below b4 H1.out.lt).cell 0).trans rfl; have X3 := H3.out.below b4 H3.out.lt; have x30 := (X3.cell 0).trans rfl; have x31 := (X3.cell 1).trans rfl; have fx0 := X3.fr 0; have fx1 := X3.fr 1; have y80 : w3.cell? ⟨w2.heap.size, 0, none⟩ = some (.slice ad n c2) := (((CB.new _ _).below b3 (by simp)).cell 0).trans rfl; have y81 : w3.cell? ⟨w2.heap.size, 1, none⟩ = some (.int .i64 hd) := (((CB.new _ _).below b3 (by simp)).cell 1).trans rfl; have HX3 : Hid (CB w3 (w.heap.size + 1 + 1 + 1) #[.slice none 0 0, .int .i64 0] 29) := X3; have Y8 : CB w3 w2.heap.size #[.slice ad n c2, .int .i64 hd] 29 := (CB.new _ _).below b3 (by simp); have HS3 : Hid (SE w3 w1.heap.size 32 (.slice ad n c2) n es A C) := (HS.out.below HA.out).below b3; have HY8 : Hid (CB w3 w2.heap.size #[.slice ad n c2, .int .i64 hd] 29) := Y8; have HB13 : Hid (Below w1.heap.size w1 w3) := b4; clear b3 b4 Y8 X3)))
  have hlt3 := H3.out.lt
  have hY := ((HS3.out.set (c := w.heap.size + 1 + 1 + 1) (o := 0) (u := .slice ad n c2) H3.out.lt).set (c := w.heap.size + 1 + 1 + 1) (o := 1) (u := .int .i64 hd) H3.out.lt).mono (base' := w.heap.size) HB1.out.size
  have hZ := ((bel_on HB1.out HB13.out).setCell (p := ⟨w.heap.size + 1 + 1 + 1, 0, none⟩) (by simp; omega) (.slice ad n c2)).setCell (p := ⟨w.heap.size + 1 + 1 + 1, 1, none⟩) (by simp; omega) (.int .i64 hd)
  have hX := (HX3.out.set 0 (.slice ad n c2)).set 1 (.int .i64 hd)
  have e0 := hX.cell 0
  have e1 := hX.cell 1
  simp at e0 e1
  clear hX
  generalize (World.setCell _ _ _) = W9 at e0 e1 hY hZ ⊢
  refine bodyPost_ret (by simp [results, Tryd.results15, go_sem, e0, e1]; try rfl) rfl ?_
  exact ⟨ad, c2, _, _, rfl, hY, hZ⟩

set_option maxRecDepth 20000 in
set_option maxHeartbeats 8000000 in
theorem specPost_full (fa : Option Addr) (len cap : Nat) (c : Nat → C3) (d u : Int) (B m n lcap : Nat) (es : Nat → E4) (bl : Nat → Nat) (hd : Int) (ed er : Int) (et : ByteArray) (ea : Addr) (en ecap : Nat) (els : Nat → L5) (w : World)
    (hl : (len : Int) ≤ 1048576) (hc : ∀ j, (c j).code.size ≤ maxLen) (hr : CR w fa len c) (hO : OwnE w B m n es bl 32 56) (ht : ∀ j, ((es j).text.size : Int) ≤ 9223372036854775807) (hnn : ∀ j, j < n → ((es j).n : Int) ≤ 1048576)
    (hL : LR w (some ea) en els) (het : (et.size : Int) ≤ 9223372036854775807) (hn1 : (en : Int) ≤ 1048576)
    (h1 : leB len c d u n es hd = true) (h2 : enB len c d u ⟨ed, er, et, en, els⟩ = true) (h3 : n = 1000) :
    Calls Tryd.prog 15 #[.agg #[.slice fa len cap, .int .i64 d, .int .i64 u], .agg #[.slice (some ⟨B, 0, none⟩) n lcap, .int .i64 hd], .agg #[.int .i64 ed, .int .i64 er, .string et, .slice (some ea) en ecap]] w fun e w' =>
      ∃ ad cc A C, e = .returned (.tuple #[.agg #[.slice ad n cc, .int .i64 hd], .int .i64 3]) ∧ SE w' w.heap.size 32 (.slice ad n cc) n es A C ∧ Below w.heap.size w w' := by
  have HC : Hid (∀ j, (c j).code.size ≤ maxLen) := hc
  have HTX : Hid (∀ j, ((es j).text.size : Int) ≤ 9223372036854775807) := ht
  have HNN : Hid (∀ j, j < n → ((es j).n : Int) ≤ 1048576) := hnn
  have HR : Hid (CR w fa len c) := hr
  have HO : Hid (OwnE w B m n es bl 32 56) := hO
  have HL : Hid (LR w (some ea) en els) := hL
  have HBA : Hid (Below w.heap.size w ((((w.alloc (.cells #[.slice fa len cap, .int .i64 d, .int .i64 u] 26 (0, 0))).alloc (.cells #[.slice (some ⟨B, 0, none⟩) n lcap, .int .i64 hd] 29 (0, 0))).alloc (.cells #[.int .i64 ed, .int .i64 er, .string et, .slice (some ea) en ecap] 32 (0, 0))).alloc (.cells #[.slice none 0 0, .int .i64 0] 29 (0, 0)))) := ((((Below.refl _ _).alloc (Nat.le_refl _) _).alloc (by simp) _).alloc (by simp; omega) _).alloc (by simp; omega) _
  clear hc ht hnn hr hO hL
  have hn32 : (n : Int) ≤ 1048576 := by have := (leB_out h1).2.1; omega
  have hne : ((n : Int) == 1000) = true := by simp; omega
  clear h3
  go_enter Tryd.func15, Tryd.ntmps15
  go_wp2_with (first
    | (go_at_call 39; go_loud ((refine (specLedger_any _ _ _ c _ _ _ _ _ es _ _ hl HC.out (HR.out.below HBA.out) (HO.out.row.below HBA.out) HTX.out HNN.out).mono ?_); rintro e w1 ⟨rfl, b1⟩; rw [h1]; have X0 : CB w1 w.heap.size #[.slice fa len cap, .int .i64 d, .int .i64 u] 26 := ((((CB.new _ _).alloc _).alloc _).alloc _).below b1 (by first | (simp; done) | (simp; omega)); have X1 : CB w1 (w.heap.size + 1) #[.slice (some ⟨B, 0, none⟩) n lcap, .int .i64 hd] 29 := (((CB.newAt (by simp) _ _).alloc _).alloc _).below b1 (by first | (simp; done) | (simp; omega)); have X2 : CB w1 (w.heap.size + 1 + 1) #[.int .i64 ed, .int .i64 er, .string et, .slice (some ea) en ecap] 32 := ((CB.newAt (by simp) _ _).alloc _).below b1 (by first | (simp; done) | (simp; omega)); have X3 : CB w1 (w.heap.size + 1 + 1 + 1) #[.slice none 0 0, .int .i64 0] 29 := (CB.newAt (by simp) _ _).below b1 (by simp); have x10 := (X1.cell 0).trans rfl; have x11 := (X1.cell 1).trans rfl; have B1 : Below w.heap.size w w1 := bel_on HBA.out b1; have H0 : Hid (CB w1 w.heap.size _ _) := X0; have H1 : Hid (CB w1 (w.heap.size + 1) _ _) := X1; have H2 : Hid (CB w1 (w.heap.size + 1 + 1) _ _) := X2; have H3 : Hid (CB w1 (w.heap.size + 1 + 1 + 1) _ _) := X3; have HB1 : Hid (Below w.heap.size w w1) := B1; clear b1 B1 X0 X1 X2 X3))
    | (go_at_call 65; go_loud ((refine (l5Ledger_any _ m _ _ es bl _ _ hn32 HNN.out (HO.out.keep HB1.out)).mono ?_); rintro e w2 ⟨ad, c2, A, C, rfl, hS, b2⟩; have HA : Hid (Below w2.heap.size w2 (w2.alloc (.cells #[.slice ad n c2, .int .i64 hd] 29 (0, 0)))) := (Below.refl _ _).alloc (Nat.le_refl _) _; have b3 := bel_on b2 HA.out; have x00 := ((H0.out.below b3 H0.out.lt).cell 0).trans rfl; have x01 := ((H0.out.below b3 H0.out.lt).cell 1).trans rfl; have x02 := ((H0.out.below b3 H0.out.lt).cell 2).trans rfl; have x20 := ((H2.out.below b3 H2.out.lt).cell 0).trans rfl; have x21 := ((H2.out.below b3 H2.out.lt).cell 1).trans rfl; have x22 := ((H2.out.below b3 H2.out.lt).cell 2).trans rfl; have x23 := ((H2.out.below b3 H2.out.lt).cell 3).trans rfl; have HB2 : Hid (Below w.heap.size w w2) := bel_on HB1.out b2; have HLE : Hid (w1.heap.size ≤ w2.heap.size) := b2.size; have HB12 : Hid (Below w1.heap.size w1 (w2.alloc (.cells #[.slice ad n c2, .int .i64 hd] 29 (0, 0)))) := b3; have HS : Hid (SE w2 w1.heap.size 32 (.slice ad n c2) n es A C) := hS; clear b2 b3 hS))
    | (go_at_call 35; go_loud ((refine (specEntry_any _ _ _ c _ _ _ _ _ _ _ _ els _ hl HC.out (HR.out.below (bel_on HB1.out HB12.out)) (HL.out.below (bel_on HB1.out HB12.out)) het hn1).mono ?_); rintro e w3 ⟨rfl, b3⟩; rw [h2]; have b4 : Below w1.heap.size w1 w3 := bel_on HB12.out b3; have x10 := ((H1.out.below b4 H1.out.lt).cell 0).trans rfl; have X3 := H3.out.below b4 H3.out.lt; have x30 := (X3.cell 0).trans rfl; have x31 := (X3.cell 1).trans rfl; have fx0 := X3.fr 0; have fx1 := X3.fr 1; have y80 : w3.cell? ⟨w2.heap.size, 0, none⟩ = some (.slice ad n c2) := (((CB.new _ _).below b3 (by simp)).cell 0).trans rfl; have y81 : w3.cell? ⟨w2.heap.size, 1, none⟩ = some (.int .i64 hd) := (((CB.new _ _).below b3 (by simp)).cell 1).trans rfl; have HX3 : Hid (CB w3 (w.heap.size + 1 + 1 + 1) #[.slice none 0 0, .int .i64 0] 29) := X3; have Y8 : CB w3 w2.heap.size #[.slice ad n c2, .int .i64 hd] 29 := (CB.new _ _).below b3 (by simp); have HS3 : Hid (SE w3 w1.heap.size 32 (.slice ad n c2) n es A C) := (HS.out.below HA.out).below b3; have HY8 : Hid (CB w3 w2.heap.size #[.slice ad n c2, .int .i64 hd] 29) := Y8; have HB13 : Hid (Below w1.heap.size w1 w3) := b4; clear b3 b4 Y8 X3)))
  have hlt3 := H3.out.lt
  have hY := ((HS3.out.set (c := w.heap.size + 1 + 1 + 1) (o := 0) (u := .slice ad n c2) H3.out.lt).set (c := w.heap.size + 1 + 1 + 1) (o := 1) (u := .int .i64 hd) H3.out.lt).mono (base' := w.heap.size) HB1.out.size
  have hZ := ((bel_on HB1.out HB13.out).setCell (p := ⟨w.heap.size + 1 + 1 + 1, 0, none⟩) (by simp; omega) (.slice ad n c2)).setCell (p := ⟨w.heap.size + 1 + 1 + 1, 1, none⟩) (by simp; omega) (.int .i64 hd)
  have hX := (HX3.out.set 0 (.slice ad n c2)).set 1 (.int .i64 hd)
  have e0 := hX.cell 0
  have e1 := hX.cell 1
  simp at e0 e1
  clear hX
  generalize (World.setCell _ _ _) = W9 at e0 e1 hY hZ ⊢
  refine bodyPost_ret (by simp [results, Tryd.results15, go_sem, e0, e1]; try rfl) rfl ?_
  exact ⟨ad, c2, _, _, rfl, hY, hZ⟩

/-- What Post leaves: how many entries, which, the head, and the answer. -/
noncomputable def poN (len : Nat) (c : Nat → C3) (d u : Int) (n : Nat) (es : Nat → E4) (hd : Int) (e : E4) : Nat := if leB len c d u n es hd = true then (if enB len c d u e = true ∧ n < 1000 then n + 1 else n) else 0
noncomputable def poE (len : Nat) (c : Nat → C3) (d u : Int) (n : Nat) (es : Nat → E4) (hd : Int) (e : E4) : Nat → E4 := if leB len c d u n es hd = true then (if enB len c d u e = true ∧ n < 1000 then snE es n e else es) else es
noncomputable def poH (len : Nat) (c : Nat → C3) (d u : Int) (n : Nat) (es : Nat → E4) (hd : Int) (e : E4) : Int := if leB len c d u n es hd = true then (if enB len c d u e = true ∧ n < 1000 then headV (n + 1) (snE es n e) else hd) else 0
noncomputable def poK (len : Nat) (c : Nat → C3) (d u : Int) (n : Nat) (es : Nat → E4) (hd : Int) (e : E4) : Int := if leB len c d u n es hd = true then (if enB len c d u e = true then (if n < 1000 then 0 else 3) else 2) else 1

set_option maxRecDepth 20000 in
set_option maxHeartbeats 8000000 in
theorem specPost_any (fa : Option Addr) (len cap : Nat) (c : Nat → C3) (d u : Int) (B m n lcap : Nat) (es : Nat → E4) (bl : Nat → Nat) (hd : Int) (ed er : Int) (et : ByteArray) (ea : Addr) (en ecap : Nat) (els : Nat → L5) (w : World)
    (hl : (len : Int) ≤ 1048576) (hc : ∀ j, (c j).code.size ≤ maxLen) (hr : CR w fa len c) (hO : OwnE w B m n es bl 32 56) (ht : ∀ j, ((es j).text.size : Int) ≤ 9223372036854775807) (hnn : ∀ j, j < n → ((es j).n : Int) ≤ 1048576)
    (hL : LR w (some ea) en els) (het : (et.size : Int) ≤ 9223372036854775807) (hn1 : (en : Int) ≤ 1048576) :
    Calls Tryd.prog 15 #[.agg #[.slice fa len cap, .int .i64 d, .int .i64 u], .agg #[.slice (some ⟨B, 0, none⟩) n lcap, .int .i64 hd], .agg #[.int .i64 ed, .int .i64 er, .string et, .slice (some ea) en ecap]] w fun e w' =>
      ∃ ad cc A C, e = .returned (.tuple #[.agg #[.slice ad (poN len c d u n es hd ⟨ed, er, et, en, els⟩) cc, .int .i64 (poH len c d u n es hd ⟨ed, er, et, en, els⟩)], .int .i64 (poK len c d u n es hd ⟨ed, er, et, en, els⟩)]) ∧ SE w' w.heap.size 32 (.slice ad (poN len c d u n es hd ⟨ed, er, et, en, els⟩) cc) (poN len c d u n es hd ⟨ed, er, et, en, els⟩) (poE len c d u n es hd ⟨ed, er, et, en, els⟩) A C ∧ Below w.heap.size w w' := by
  cases h1 : leB len c d u n es hd with
  | false =>
    refine (specPost_bad fa len cap c d u B m n lcap es bl hd ed er et ea en ecap els w hl hc hr hO ht hnn hL het hn1 h1).mono ?_
    rintro e w' ⟨rfl, b⟩
    exact ⟨none, 0, _, _, by simp [poN, poH, poK, h1], by simp only [poN, h1]; exact SE.nil _ _ _ _, b⟩
  | true =>
  cases h2 : enB len c d u ⟨ed, er, et, en, els⟩ with
  | false =>
    refine (specPost_entry fa len cap c d u B m n lcap es bl hd ed er et ea en ecap els w hl hc hr hO ht hnn hL het hn1 h1 h2).mono ?_
    rintro e w' ⟨ad, cc, A, C, rfl, r, b⟩
    exact ⟨ad, cc, A, C, by simp [poN, poH, poK, h1, h2], by simp [poN, poE, h1, h2]; exact r, b⟩
  | true =>
  by_cases h3 : n < 1000
  · refine (specPost_ok fa len cap c d u B m n lcap es bl hd ed er et ea en ecap els w hl hc hr hO ht hnn hL het hn1 h1 h2 h3).mono ?_
    rintro e w' ⟨ad, cc, A, C, rfl, r, b⟩
    exact ⟨ad, cc, A, C, by simp [poN, poH, poK, h1, h2, h3], by simp [poN, poE, h1, h2, h3]; exact r, b⟩
  · refine (specPost_full fa len cap c d u B m n lcap es bl hd ed er et ea en ecap els w hl hc hr hO ht hnn hL het hn1 h1 h2 (by have := (leB_out h1).2.1; omega)).mono ?_
    rintro e w' ⟨ad, cc, A, C, rfl, r, b⟩
    exact ⟨ad, cc, A, C, by simp [poN, poH, poK, h1, h2, h3], by simp [poN, poE, h1, h2, h3]; exact r, b⟩

end Go.Proofs.YtgnhpjlfdkpaiaaDoor

