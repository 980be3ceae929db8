/- The model's least lots: the ways. -/
import Derived.Test.YtmbdeafpfdeigaaQr
import Derived.Deep.LoopGhost
import Derived.Deep.Cut
import Derived.Deep.CutRange
namespace Go.Proofs.Ytmbdeafpfdeigaa
open Go Go.ChangeShapes Go.WideShapes Go.ChangeAt Go.RowKit
set_option linter.unusedVariables false
set_option linter.unusedSimpArgs false

set_option maxRecDepth 20000 in
theorem infoWY : ∃ i, Try.prog.info? 120 = some i ∧ i.zero = some (.agg #[.int .i64 0, .slice none 0 0]) ∧ i.size = 2 ∧ i.bytes = 32 := by
  obtain ⟨i0, hi⟩ : ∃ i, Try.prog.info? 120 = some i := ⟨_, rfl⟩
  have hz0 : i0.zero = some (.agg #[.int .i64 0, .slice none 0 0]) := by
    have : (Try.prog.info? 120).bind (·.zero) = some (.agg #[.int .i64 0, .slice none 0 0]) := by kernel_rfl
    rw [hi] at this; exact this
  have hz1 : i0.size = 2 := by
    have : (Try.prog.info? 120).map (·.size) = some 2 := by kernel_rfl
    rw [hi] at this; simpa using this
  have hz2 : i0.bytes = 32 := by
    have : (Try.prog.info? 120).map (·.bytes) = some 32 := by kernel_rfl
    rw [hi] at this; simpa using this
  exact ⟨i0, hi, hz0, hz1, hz2⟩
theorem oper_marks {P : Program} {w : World} {o : Oper} {a : Act} {K : Act → World → Prop} {Q : Exit → Act → World → Prop} (s x : Operand) (t : TypeId)
    (ho : o.op = .call { callee := .builtin .append, args := #[s, x], argTypes := #[t, t] })
    (base : Nat) (i : TypeInfo) (ht : P.underlying t = some (.slice 3)) (hi : P.info? 3 = some i) (hz : i.zero = some (.int .i64 0))
    (hsize : i.size = 1) (hby : i.bytes = 8) (v : Value) (hs : a.eval s = v) (hown : w.ownsRow base 3 1 v 0 [])
    {lo l p : Nat} {ad : Option Addr} {mk : Nat → Nat} (hx : a.eval x = .slice ad l p) (hm : MkR w lo ad l p mk) (hl : l ≤ 40) (hbase : base ≤ w.heap.size)
    (h : ∀ v' w', w'.ownsRow base 3 1 v' l (intR (fun j => (mk j : Int)) l) → w.grownBy w' v.ownBlock → K (a.put o.dst v') w') :
    Oper.wp P o a w K Q := by
  have hr := hm.row
  rcases hm with ⟨rfl, rfl, rfl⟩ | ⟨g, cs, rfl, h0, h1, h2, h3, h4⟩
  · exact oper_app0 s x t ho base 3 i 1 ht hi v 0 [] hs hown hx (h v w hown ⟨rfl, rfl, rfl, Nat.le_refl _, fun _ _ _ => rfl⟩)
  · refine oper_app s x t ho base 3 i (.int .i64 0) 1 8 ht hi hz hsize hby rfl (by decide) v 0 [] hs hown ⟨g, 0, none⟩ l p (intR (fun j => (mk j : Int)) l) hx (by rw [intR_len]; omega) (int_src hr) (intR_one _ l) (by unfold maxLen; omega) (by omega) hbase ?_
    intro v' w' q1 q2
    rw [Nat.zero_add, List.nil_append] at q1
    exact h v' w' q1 q2
theorem marks_add (mk : Nat → Nat) (l F : Nat) : intR (fun j => (mk j : Int)) l ++ [.int .i64 (F : Int)] = intR (fun j => (((if j = l then F else mk j) : Nat) : Int)) (l + 1) := by
  simp only [intR, if_pos]
  rw [intR_congr (n := l) (c := fun j => (((if j = l then F else mk j) : Nat) : Int)) (d := fun j => (mk j : Int)) (fun j hj => by show (((if j = l then F else mk j) : Nat) : Int) = _; rw [if_neg (by omega)])]
theorem cb_grown3 {W W' : World} {base n b sz : Nat} {v : Value} {xs : List Value} {cs : Array Value} {t t' : TypeId} (h : CB W b cs t) (ht : t ≠ t') (ho : W.ownsRow base t' sz v n xs) (g : W.grownBy W' v.ownBlock) : CB W' b cs t := by
  refine h.keep (g.block b h.lt fun e => ?_)
  rcases ho.2 with ⟨q, _⟩ | ⟨g', cap, cur, q, _, hg', _⟩
  · rw [q] at e; simp [Value.ownBlock] at e
  · rw [q] at e
    simp [Value.ownBlock] at e
    subst e
    have hc : CB W b cur t' := hg'
    exact cb_ne h hc ht rfl
theorem bel_grownO {B base n sz : Nat} {A W W' : World} {v : Value} {xs : List Value} {t : TypeId} (h : Below B A W) (hA : B ≤ A.heap.size) (ho : W.ownsRow base t sz v n xs) (hb : B ≤ base) (g : W.grownBy W' v.ownBlock) : Below B A W' := by
  refine ⟨g.os.trans h.os, g.tape.trans h.tape, g.output.trans h.output, Nat.le_trans h.size g.size, fun k hk => (g.block k (by have := h.size; omega) (fun e => ?_)).trans (h.block k hk)⟩
  rcases ho.2 with ⟨q, _⟩ | ⟨g', cap, cur, q, h1, hg', _⟩
  · rw [q] at e; simp [Value.ownBlock] at e
  · rw [q] at e
    simp [Value.ownBlock] at e
    omega
theorem BS.le {S H : Int} {m : Nat → Int} {F e l : Nat} {c : Int} {mk : Nat → Nat} (h : BS S H m F e c l mk) : l ≤ e := by
  unfold BS at h
  rcases h with ⟨_, rfl, _⟩ | ⟨f, l', h1, _, rfl, _, h5⟩
  · omega
  · have := h5.le
    unfold tT at h1
    split at h1
    · rcases wT_last S H m e e with q | ⟨f', q1, _, q3, _⟩ <;> omega
    · rcases wT_last S H m F e with q | ⟨f', q1, _, q3, _⟩ <;> omega
/-- The cost of a way, with what was kept for so far. -/
def xP (S H : Int) (m : Nat → Int) (CF : Int) (F E t : Nat) : Int := CF + S + H * (kF m F t + ((t : Int) - (F : Int)) * (smQ m E - smQ m t))
theorem xP_0 (S H : Int) (m : Nat → Int) (CF : Int) (F E : Nat) : xP S H m CF F E F = CF + S := by
  unfold xP
  rw [kF_z m F (Nat.le_refl _)]; simp
theorem xP_s (S H : Int) (m : Nat → Int) (CF : Int) {F E t : Nat} (h : F ≤ t) : xP S H m CF F E (t + 1) = xP S H m CF F E t + H * (smQ m E - smQ m (t + 1)) := by
  unfold xP
  rw [← kP_step m E h, Int.mul_add]; omega
theorem xP_e (S H : Int) (m : Nat → Int) (CF : Int) (F E : Nat) : xP S H m CF F E E = CF + S + H * kF m F E := by
  unfold xP
  rw [Int.sub_self]; simp
/-- How far the orders are laid behind the first k marks. -/
def limM (l n : Nat) (mk : Nat → Nat) (k : Nat) : Nat := if k < l then mk k else n
theorem lim_0 {S H : Int} {m : Nat → Int} {l n : Nat} {mk : Nat → Nat} (h : IsCh S H m l n mk) : ∀ j, j < n → (0 : Int) = if j < limM l n mk 0 then orL S H m n j else 0 := fun j hj => by
  by_cases q : j < limM l n mk 0
  · rw [if_pos q, h.between (k := 0) (fun i hi => by omega) (fun hl => by unfold limM at q; rw [if_pos hl] at q; exact q)]
  · rw [if_neg q]
theorem lim_s {S H : Int} {m : Nat → Int} {l n k : Nat} {mk : Nat → Nat} (h : IsCh S H m l n mk) (hk : k < l) {V : Int} (hV : orL S H m n (mk k) = V) : ∀ j, j < n → (if j = mk k then V else if j < limM l n mk k then orL S H m n j else 0) = if j < limM l n mk (k + 1) then orL S H m n j else 0 := fun j hj => by
  have h1 := h.lt k hk
  have e1 : limM l n mk k = mk k := if_pos hk
  have h2 : mk k < limM l n mk (k + 1) := by
    unfold limM
    split
    · exact h.asc k (k + 1) (by omega) (by omega)
    · exact h1.1
  rw [e1]
  by_cases q : j = mk k
  · subst q; rw [if_pos rfl, if_pos h2, hV]
  · rw [if_neg q]
    by_cases q2 : j < mk k
    · rw [if_pos q2, if_pos (by omega)]
    · rw [if_neg q2]
      by_cases q3 : j < limM l n mk (k + 1)
      · rw [if_pos q3, h.between (k := k + 1) (fun i hi hil => by
          by_cases q4 : i = k
          · subst q4; omega
          · have := h.asc i k (by omega) hk; omega) (fun hl => by unfold limM at q3; rw [if_pos hl] at q3; exact q3)]
      · rw [if_neg q3]
theorem rsV_in (m : Nat → Int) {n a b : Nat} (h : a ≤ b) (hb : b ≤ n) : rsV m n a b = smQ m b - smQ m a := by
  unfold rsV
  rw [show min b n = b by omega]
  by_cases g : a < b
  · rw [if_pos g]
  · rw [if_neg g]
    obtain rfl : a = b := by omega
    omega
theorem madeI_cb {w : World} {g base : Nat} (h : w.ownsRow base 3 1 (.slice (some ⟨g, 0, none⟩) 0 0) 0 []) : g < w.heap.size := by
  rcases h.2 with ⟨q, _⟩ | ⟨g', cap, cur, q, _, hg', _⟩
  · cases q
  · simp only [Value.slice.injEq, Option.some.injEq, Addr.mk.injEq] at q
    have hc : CB w g' cur 3 := hg'
    have := hc.lt
    omega
/-- What stands at an end's head. -/
structure WA (w : World) (cs : Array Value) (S H : Int) (m : Nat → Int) (wa : Option Addr) (e wc : Nat) (a : Nat → Option Addr) (l p : Nat → Nat) (mk : Nat → Nat → Nat) (W : World) : Prop where
  bel : Below w.heap.size w W
  box : CB W w.heap.size cs 48
  ws : WYs S H m W w.heap.size wa e wc a l p mk
/-- What stands while the places ahead of an end are gone through: the best way lies in V's next block. -/
structure WB (V : World) (S H : Int) (m : Nat → Int) (lo F e : Nat) (c : Int) (ab : Option Addr) (lb pb : Nat) (mb : Nat → Nat) (W : World) : Prop where
  b : Below V.heap.size V W
  bt : CB W V.heap.size #[.int .i64 c, .slice ab lb pb] 120
  mr : MkR W lo ab lb pb mb
  bs : BS S H m F e c lb mb
theorem ch0 (S H : Int) (m : Nat → Int) (mk : Nat → Nat) : IsCh S H m 0 0 mk := rfl
section
variable {w W W' : World} {cs : Array Value} {S H : Int} {m : Nat → Int} {wa : Option Addr} {e wc : Nat} {a : Nat → Option Addr} {l p : Nat → Nat} {mk : Nat → Nat → Nat} {V : World} {lo F : Nat} {c : Int} {ab : Option Addr} {lb pb : Nat} {mb : Nat → Nat}
theorem WA.below (h : WA w cs S H m wa e wc a l p mk W) (b : Below W.heap.size W W') : WA w cs S H m wa e wc a l p mk W' := ⟨bel_on h.bel b, h.box.below b h.box.lt, h.ws.below b⟩
theorem WB.below (h : WB V S H m lo F e c ab lb pb mb W) (b : Below W.heap.size W W') : WB V S H m lo F e c ab lb pb mb W' := ⟨bel_on h.b b, h.bt.below b h.bt.lt, h.mr.below b, h.bs⟩
end
set_option maxRecDepth 20000 in
set_option maxHeartbeats 8000000 in
theorem l18Least_any (ki sz su ho : Int) (ad : Option Addr) (n cap : Nat) (m : Nat → Int) (w : World) (hl : ltB ⟨ki, sz, su, ho⟩ = true) (hN : nqB m n = true) (hr : IR w ad n m) :
    Calls Try.prog 84 #[.agg #[.int .i64 ki, .int .i64 sz, .int .i64 su, .int .i64 ho], .slice ad n cap] w (OrP w n (orL su ho m n)) := by
  have HR : Hid (IR w ad n m) := hr
  obtain ⟨hn0, hn40, hm⟩ := nqB_p hN
  obtain ⟨_, _, hS, hH⟩ := ltB_p hl
  have HQ : Hid (∀ j, j < n → 0 ≤ m j ∧ m j ≤ 1000000) := hm
  have HSH : Hid ((0 ≤ su ∧ su ≤ 10000000) ∧ (0 ≤ ho ∧ ho ≤ 1000)) := ⟨hS, hH⟩
  have hn : (n : Int) ≤ 1048576 := by omega
  have hn4 : (n : Int) ≤ 40 := by omega
  have hn1 : (1 : Int) ≤ (n : Int) := by omega
  obtain ⟨i0, hi, hz0, hz1, hz2⟩ := info3
  obtain ⟨i1, hi1, hz10, hz11, hz12⟩ := infoWY
  have hmk := mkI n hn
  obtain ⟨kb, off, rfl, _⟩ := hr.addr (by omega)
  have HST : Hid (WA w #[.int .i64 ki, .int .i64 sz, .int .i64 su, .int .i64 ho] su ho m (some ⟨w.heap.size + 1, 0, none⟩) 1 1 (fun _ => none) (fun _ => 0) (fun _ => 0) (fun _ _ => 0) ((w.alloc (.cells #[.int .i64 ki, .int .i64 sz, .int .i64 su, .int .i64 ho] 48 (0, 0))).alloc (.cells #[.int .i64 0, .slice none 0 0] 120 (0, 0)))) := hid
    ⟨((Below.refl _ _).alloc (Nat.le_refl _) _).alloc (by simp) _, (CB.new _ _).alloc _, ⟨by
      have := World.ownsRow_lit (base := w.heap.size) (e := 120) (size := 2) (w.alloc (.cells #[.int .i64 ki, .int .i64 sz, .int .i64 su, .int .i64 ho] 48 (0, 0))) #[.int .i64 0, .slice none 0 0] 1 (by simp) (by unfold maxLen; omega) rfl
      simpa [wyL, show (wT su ho m 0 0).1 = 0 from rfl] using this, fun j hj => ⟨.inl ⟨rfl, rfl, rfl⟩, by obtain rfl : j = 0 := (by omega); exact ch0 _ _ _ _⟩⟩⟩
  clear hr hl hN hS hH hm
  go_enter Try.func84, Try.ntmps84
  go_wp2
  generalize hWV : (w.alloc (.cells #[.int .i64 ki, .int .i64 sz, .int .i64 su, .int .i64 ho] 48 (0, 0))).alloc (.cells #[.int .i64 0, .slice none 0 0] 120 (0, 0)) = WV at HST ⊢
  clear hWV
  go_loopw [5, 6] (fun v u wr => ∃ (e : Nat) (wa : Option Addr) (wc : Nat) (a : Nat → Option Addr) (l p : Nat → Nat) (mk : Nat → Nat → Nat), e ≤ n ∧ v = .slice wa (e + 1) wc ∧ u = .int .i64 ((e : Int) + 1) ∧ Hid (WA w #[.int .i64 ki, .int .i64 sz, .int .i64 su, .int .i64 ho] su ho m wa (e + 1) wc a l p mk wr)) (fun _ u _ => n + 2 - (intOf u).toNat)
  case atStart => exact ⟨0, _, _, _, _, _, _, Nat.zero_le _, rfl, by first | rfl | go_num, HST⟩
  case round =>
    clear HST
    obtain ⟨e, wa, wc, a, l, p, mk, he, rfl, rfl, HA⟩ := hrel
    obtain ⟨wo, rfl⟩ : ∃ x, x = wr := ⟨wr, rfl⟩
    by_cases hlt : e < n
    · have hlt2 : (e : Int) + 1 ≤ (n : Int) := by omega
      have hwe : IntKind.i64.wrap ((e : Int) + 1 - 1) = (e : Int) := by rw [show (e : Int) + 1 - 1 = (e : Int) by omega]; exact IntWalk.i64_in _ ⟨by omega, by omega⟩
      have hen : (e : Int) < (n : Int) := by omega
      obtain ⟨g, hwa, hg1, hg2, hg3, ⟨wcs, hwcs⟩, hwc⟩ := HA.out.ws.at (j := e) (by omega)
      subst hwa
      have HWC : Hid (∀ W, Below wo.heap.size wo W → ∀ j, j < e + 1 → W.cell? ⟨g, j * 2, none⟩ = some (.int .i64 (wT su ho m j j).1) ∧ W.cell? ⟨g, j * 2 + 1, none⟩ = some (.slice (a j) (l j) (p j))) := hid (fun W b j hj => by
        have hb := b.block g hg1
        obtain ⟨q1, q2⟩ := hwc j hj
        exact ⟨(World.cell?_of_block hb).trans q1, (World.cell?_of_block hb).trans q2⟩)
      have HME : Hid (MkR wo w.heap.size (a e) (l e) (p e) (mk e) ∧ IsCh su ho m (l e) e (mk e)) := hid (HA.out.ws.mks e (by omega))
      have hge1 : (e : Int) < (e : Int) + 1 := by omega
      clear hwc hwcs hg2 hg3
      by_cases hz : m e = 0
      · have hzb : (m e == 0) = true := by simp [hz]
        have b1 : Below wo.heap.size wo (wo.alloc (.cells #[.int .i64 (-1), .slice none 0 0] 120 (0, 0))) := (Below.refl _ _).alloc (Nat.le_refl _) _
        have c1 : (wo.alloc (.cells #[.int .i64 (-1), .slice none 0 0] 120 (0, 0))).cell? ⟨kb, off + e, none⟩ = some (.int .i64 (m e)) := (HR.out.below (bel_on HA.out.bel b1)).cell hlt
        obtain ⟨d1, d2⟩ := HWC.out _ b1 e (by omega)
        go_wp2
        have HW0 : Hid (WB wo su ho m w.heap.size 0 (e + 1) (wT su ho m e e).1 (a e) (l e) (p e) (mk e) (wo.alloc (.cells #[.int .i64 (wT su ho m e e).1, .slice (a e) (l e) (p e)] 120 (0, 0)))) := hid ⟨(Below.refl _ _).alloc (Nat.le_refl _) _, CB.new _ _, HME.out.1.below ((Below.refl _ _).alloc (Nat.le_refl _) _), best_keep (e := e + 1) (by omega) hz HME.out.2⟩
        generalize (wo.alloc (.cells #[.int .i64 (wT su ho m e e).1, .slice (a e) (l e) (p e)] 120 (0, 0))) = WI at HW0 ⊢
        clear b1 c1 d1 d2 HME hz
        go_loopg [8] (e + 2) (fun k u wr => ∃ (F : Nat) (c : Int) (ab : Option Addr) (lb pb : Nat) (mb : Nat → Nat), F ≤ e + 1 ∧ k + F = e + 2 ∧ u = .int .i64 (F : Int) ∧ Hid (WB wo su ho m w.heap.size F (e + 1) c ab lb pb mb wr))
        case atStart => exact ⟨0, _, _, _, _, _, by omega, by omega, rfl, HW0⟩
        case round =>
          clear HW0
          obtain ⟨F, c, ab, lb, pb, mb, hF, hgk, rfl, HB⟩ := hrel
          obtain ⟨wi, rfl⟩ : ∃ x, x = wr := ⟨wr, rfl⟩
          by_cases hFe : F < e + 1
          · have hlt3 : (F : Int) < (e : Int) + 1 := by omega
            have hFn : (F : Int) < (n : Int) := by omega
            have cF := (HR.out.below (bel_on HA.out.bel HB.out.b)).cell (j := F) (by omega)
            by_cases hz2 : m F = 0
            · have hzb2 : (m F == 0) = true := by simp [hz2]
              have HN : Hid (WB wo su ho m w.heap.size (F + 1) (e + 1) c ab lb pb mb wi) := hid ⟨HB.out.b, HB.out.bt, HB.out.mr, best_skip hz2 HB.out.bs⟩
              clear hz2
              go_wp2
              go_roundg (gk - 1)
              case measure => omega
              case rel => exact ⟨F + 1, _, _, _, _, _, by omega, by omega, by go_num, HN⟩
            · have hzb2 : (m F == 0) = false := by simp [hz2]
              have HZ2 : Hid (m F ≠ 0) := hz2
              have HMF : Hid (MkR wi w.heap.size (a F) (l F) (p F) (mk F) ∧ l F ≤ 40) := hid ⟨((HA.out.ws.mks F hFe).1.below HB.out.b), by have := (HA.out.ws.mks F hFe).2.le; omega⟩
              have HCF : Hid (IsCh su ho m (l F) F (mk F)) := hid (HA.out.ws.mks F hFe).2
              have SX : Hid (∀ W, Below wi.heap.size wi W → W.cell? ⟨g, F * 2, none⟩ = some (.int .i64 (wT su ho m F F).1) ∧ W.cell? ⟨g, F * 2 + 1, none⟩ = some (.slice (a F) (l F) (p F)) ∧ W.cell? ⟨w.heap.size, 2, none⟩ = some (.int .i64 su)) := hid (fun W b => by
                obtain ⟨q1, q2⟩ := HWC.out W (bel_on HB.out.b b) F hFe
                exact ⟨q1, q2, ((HA.out.below (bel_on HB.out.b b)).box.cell 2).trans rfl⟩)
              have HWF : Hid (0 ≤ (wT su ho m F F).1 ∧ (wT su ho m F F).1 ≤ 2000000000000 * (F : Int)) := hid (wT_bd hn40 HSH.out.1 HSH.out.2 HQ.out F F (by omega) (by omega))
              have hwf1 : IntKind.i64.wrap ((wT su ho m F F).1 + su) = (wT su ho m F F).1 + su := IntWalk.i64_in _ (by have := HWF.out; have := HSH.out.1; constructor <;> omega)
              obtain ⟨CF, hCF⟩ : ∃ x, (wT su ho m F F).1 = x := ⟨_, rfl⟩
              obtain ⟨AF, hAF⟩ : ∃ x, a F = x := ⟨_, rfl⟩
              obtain ⟨LF, hLF⟩ : ∃ x, l F = x := ⟨_, rfl⟩
              obtain ⟨PF, hPF⟩ : ∃ x, p F = x := ⟨_, rfl⟩
              obtain ⟨MF, hMF⟩ : ∃ x, mk F = x := ⟨_, rfl⟩
              rw [hCF, hAF, hLF, hPF] at SX
              rw [hAF, hLF, hPF, hMF] at HMF
              rw [hLF, hMF] at HCF
              rw [hCF] at HWF hwf1
              have HCE : Hid ((wT su ho m F F).1 = CF) := hCF
              clear hCF hAF hLF hPF hMF hz2
              go_upto_region 12 with fail
              go_cut [9] from 35 to 90 (fun s9 wx => ∃ g9 a9 p9, s9 = .pointer (some ⟨g9, 0, none⟩) ∧ wi.heap.size ≤ g9 ∧ Below wi.heap.size wi wx ∧ CB wx g9 #[.int .i64 (CF + su), .slice a9 (LF + 1) p9] 120 ∧ MkR wx wi.heap.size a9 (LF + 1) p9 (fun j => if j = LF then F else MF j))
              case first =>
                refine wp_region_noPanic ?_
                refine wp_region_held_drew (S := fun w' => w'.cell? ⟨g, F * 2, none⟩ = some (.int .i64 CF) ∧ w'.cell? ⟨g, F * 2 + 1, none⟩ = some (.slice AF LF PF) ∧ w'.cell? ⟨w.heap.size, 2, none⟩ = some (.int .i64 su)) (by kernel_rfl) (by exact SX.out _ (Below.refl _ _).drew) (fun hHeld => ?_)
                have TD : Hid (Below wi.heap.size wi wi.drew) := hid (Below.refl _ _).drew
                generalize hVD : wi.drew = VD at TD hHeld ⊢
                clear hVD
                refine wpAnyH_take (i := 0) (oi := { dst := some 45, op := Go.Op.move (Go.Operand.tmp 5), type := 121, pos := "l18_plan.go:101", after := #[], guard := none }) (v := ?_) rfl (by kernel_rfl) (by kernel_rfl) (by kernel_rfl) (fun _ _ _ h => h) (Or.inl ⟨by rfl, ?_⟩) (by assumption) ?_
                rotate_left
                · (intro w hSw; (try dsimp only at hSw); go_simp <;> try with_reducible rfl)
                try simp only [Act.put, List.setIfInBounds_toArray, List.set_cons_zero, List.set_cons_succ]
                refine wpAnyH_take (i := 1) (oi := { dst := some 46, op := Go.Op.move (Go.Operand.tmp 8), type := 3, pos := "l18_plan.go:101", after := #[], guard := none }) (v := ?_) rfl (by kernel_rfl) (by kernel_rfl) (by kernel_rfl) (fun _ _ _ h => h) (Or.inl ⟨by rfl, ?_⟩) (by assumption) ?_
                rotate_left
                · (intro w hSw; (try dsimp only at hSw); go_simp <;> try with_reducible rfl)
                try simp only [Act.put, List.setIfInBounds_toArray, List.set_cons_zero, List.set_cons_succ]
                refine wpAnyH_take (i := 2) (oi := { dst := some 47, op := Go.Op.indexAddr 121 (Go.Operand.tmp 45) (Go.Operand.tmp 46), type := 0, pos := "l18_plan.go:101", after := #[{ on := 0, ground := Go.Ground.data }, { on := 1, ground := Go.Ground.data }], guard := none }) (v := ?_) rfl (by kernel_rfl) (by kernel_rfl) (by kernel_rfl) (fun _ _ _ h => h) (Or.inl ⟨by rfl, ?_⟩) (by assumption) ?_
                rotate_left
                · (intro w hSw; (try dsimp only at hSw); go_simp <;> try with_reducible rfl)
                try simp only [Act.put, List.setIfInBounds_toArray, List.set_cons_zero, List.set_cons_succ]
                refine wpAnyH_take (i := 3) (oi := { dst := some 48, op := Go.Op.fieldAddr 120 (Go.Operand.tmp 47) 0, type := 0, pos := "l18_plan.go:101", after := #[{ on := 2, ground := Go.Ground.data }], guard := none }) (v := ?_) rfl (by kernel_rfl) (by kernel_rfl) (by kernel_rfl) (fun _ _ _ h => h) (Or.inl ⟨by rfl, ?_⟩) (by assumption) ?_
                rotate_left
                · (intro w hSw; (try dsimp only at hSw); go_simp <;> try with_reducible rfl)
                try simp only [Act.put, List.setIfInBounds_toArray, List.set_cons_zero, List.set_cons_succ]
                refine wpAnyH_take (i := 4) (oi := { dst := some 49, op := Go.Op.load 3 (Go.Operand.tmp 48), type := 3, pos := "l18_plan.go:101", after := #[{ on := 3, ground := Go.Ground.data }], guard := none }) (v := ?_) rfl (by kernel_rfl) (by kernel_rfl) (by kernel_rfl) (fun _ _ _ h => h) (Or.inl ⟨by rfl, ?_⟩) (by assumption) ?_
                rotate_left
                · (intro w hSw; (try dsimp only at hSw); go_simp <;> try with_reducible rfl)
                try simp only [Act.put, List.setIfInBounds_toArray, List.set_cons_zero, List.set_cons_succ]
                refine wpAnyH_take (i := 5) (oi := { dst := some 50, op := Go.Op.fieldAddr 48 (Go.Operand.tmp 2) 2, type := 0, pos := "l18_plan.go:101", after := #[], guard := none }) (v := ?_) rfl (by kernel_rfl) (by kernel_rfl) (by kernel_rfl) (fun _ _ _ h => h) (Or.inl ⟨by rfl, ?_⟩) (by assumption) ?_
                rotate_left
                · (intro w hSw; (try dsimp only at hSw); go_simp <;> try with_reducible rfl)
                try simp only [Act.put, List.setIfInBounds_toArray, List.set_cons_zero, List.set_cons_succ]
                refine wpAnyH_take (i := 6) (oi := { dst := some 51, op := Go.Op.load 3 (Go.Operand.tmp 50), type := 3, pos := "l18_plan.go:101", after := #[{ on := 5, ground := Go.Ground.data }], guard := none }) (v := ?_) rfl (by kernel_rfl) (by kernel_rfl) (by kernel_rfl) (fun _ _ _ h => h) (Or.inl ⟨by rfl, ?_⟩) (by assumption) ?_
                rotate_left
                · (intro w hSw; (try dsimp only at hSw); go_simp <;> try with_reducible rfl)
                try simp only [Act.put, List.setIfInBounds_toArray, List.set_cons_zero, List.set_cons_succ]
                refine wpAnyH_take (i := 7) (oi := { dst := some 52, op := Go.Op.binOp Go.BinOp.add 3 (Go.Operand.tmp 49) (Go.Operand.tmp 51) 3, type := 3, pos := "l18_plan.go:101", after := #[{ on := 4, ground := Go.Ground.data }, { on := 6, ground := Go.Ground.data }], guard := none }) (v := ?_) rfl (by kernel_rfl) (by kernel_rfl) (by kernel_rfl) (fun _ _ _ h => h) (Or.inl ⟨by rfl, ?_⟩) (by assumption) ?_
                rotate_left
                · (intro w hSw; (try dsimp only at hSw); go_simp <;> try with_reducible rfl)
                try simp only [Act.put, List.setIfInBounds_toArray, List.set_cons_zero, List.set_cons_succ]
                refine wpAnyH_take (i := 9) (oi := { dst := some 54, op := Go.Op.move (Go.Operand.tmp 5), type := 121, pos := "l18_plan.go:101", after := #[], guard := none }) (v := ?_) rfl (by kernel_rfl) (by kernel_rfl) (by kernel_rfl) (fun _ _ _ h => h) (Or.inl ⟨by rfl, ?_⟩) (by assumption) ?_
                rotate_left
                · (intro w hSw; (try dsimp only at hSw); go_simp <;> try with_reducible rfl)
                try simp only [Act.put, List.setIfInBounds_toArray, List.set_cons_zero, List.set_cons_succ]
                refine wpAnyH_take (i := 10) (oi := { dst := some 55, op := Go.Op.move (Go.Operand.tmp 8), type := 3, pos := "l18_plan.go:101", after := #[], guard := none }) (v := ?_) rfl (by kernel_rfl) (by kernel_rfl) (by kernel_rfl) (fun _ _ _ h => h) (Or.inl ⟨by rfl, ?_⟩) (by assumption) ?_
                rotate_left
                · (intro w hSw; (try dsimp only at hSw); go_simp <;> try with_reducible rfl)
                try simp only [Act.put, List.setIfInBounds_toArray, List.set_cons_zero, List.set_cons_succ]
                refine wpAnyH_take (i := 11) (oi := { dst := some 56, op := Go.Op.indexAddr 121 (Go.Operand.tmp 54) (Go.Operand.tmp 55), type := 0, pos := "l18_plan.go:101", after := #[{ on := 9, ground := Go.Ground.data }, { on := 10, ground := Go.Ground.data }], guard := none }) (v := ?_) rfl (by kernel_rfl) (by kernel_rfl) (by kernel_rfl) (fun _ _ _ h => h) (Or.inl ⟨by rfl, ?_⟩) (by assumption) ?_
                rotate_left
                · (intro w hSw; (try dsimp only at hSw); go_simp <;> try with_reducible rfl)
                try simp only [Act.put, List.setIfInBounds_toArray, List.set_cons_zero, List.set_cons_succ]
                refine wpAnyH_take (i := 12) (oi := { dst := some 57, op := Go.Op.fieldAddr 120 (Go.Operand.tmp 56) 1, type := 0, pos := "l18_plan.go:101", after := #[{ on := 11, ground := Go.Ground.data }], guard := none }) (v := ?_) rfl (by kernel_rfl) (by kernel_rfl) (by kernel_rfl) (fun _ _ _ h => h) (Or.inl ⟨by rfl, ?_⟩) (by assumption) ?_
                rotate_left
                · (intro w hSw; (try dsimp only at hSw); go_simp <;> try with_reducible rfl)
                try simp only [Act.put, List.setIfInBounds_toArray, List.set_cons_zero, List.set_cons_succ]
                refine wpAnyH_take (i := 13) (oi := { dst := some 58, op := Go.Op.load 24 (Go.Operand.tmp 57), type := 24, pos := "l18_plan.go:101", after := #[{ on := 12, ground := Go.Ground.data }], guard := none }) (v := ?_) rfl (by kernel_rfl) (by kernel_rfl) (by kernel_rfl) (fun _ _ _ h => h) (Or.inl ⟨by rfl, ?_⟩) (by assumption) ?_
                rotate_left
                · (intro w hSw; (try dsimp only at hSw); go_simp <;> try with_reducible rfl)
                try simp only [Act.put, List.setIfInBounds_toArray, List.set_cons_zero, List.set_cons_succ]
                refine wpAnyH_take (i := 15) (oi := { dst := some 60, op := Go.Op.move (Go.Operand.tmp 8), type := 3, pos := "l18_plan.go:101", after := #[], guard := none }) (v := ?_) rfl (by kernel_rfl) (by kernel_rfl) (by kernel_rfl) (fun _ _ _ h => h) (Or.inl ⟨by rfl, ?_⟩) (by assumption) ?_
                rotate_left
                · (intro w hSw; (try dsimp only at hSw); go_simp <;> try with_reducible rfl)
                try simp only [Act.put, List.setIfInBounds_toArray, List.set_cons_zero, List.set_cons_succ]
                refine wpAnyH_ready (rs := [8, 16, 19]) (by kernel_rfl) (by simp) ?_
                refine AllReadyH.cons (o := { dst := some 53, op := Go.Op.buildSlice 24 0 #[], type := 24, pos := "l18_plan.go:101", after := #[], guard := none }) rfl (fun K hK => ?_) (AllReadyH.cons (o := { dst := some 61, op := Go.Op.buildSlice 24 1 #[(0, Go.Operand.tmp 60)], type := 24, pos := "l18_plan.go:101", after := #[{ on := 15, ground := Go.Ground.data }], guard := none }) rfl (fun K hK => ?_) (AllReadyH.cons (o := { dst := some 9, op := Go.Op.alloc 120, type := 0, pos := "l18_plan.go:101", after := #[], guard := none }) rfl (fun K hK => ?_) (AllReadyH.nil)))
                · go_simp
                  have T2 := hid (TD.out.alloc TD.out.size (.cells #[] 3 (0, 0)))
                  have bb : Below VD.heap.size VD (VD.alloc (.cells #[] 3 (0, 0))) := (Below.refl _ _).alloc (Nat.le_refl _) _
                  have E3 : Hid ((VD.alloc (.cells #[] 3 (0, 0))).ownsRow wi.heap.size 3 1 (.slice (some ⟨VD.heap.size, 0, none⟩) 0 0) 0 []) := hid (madeI (CB.new _ _) TD.out.size)
                  clear bb
                  refine hK.out _ _ (by exact SX.out _ T2.out) (fun hHeld => ?_)
                  clear hK K
                  try simp only [Act.put, List.setIfInBounds_toArray, List.set_cons_zero, List.set_cons_succ]
                  generalize (VD.alloc (.cells #[] 3 (0, 0))) = V1 at T2 E3 ⊢
                  generalize VD.heap.size = ea at T2 E3 ⊢
                  refine wpAnyH_ready (rs := [14, 16, 19]) (by kernel_rfl) (by simp) ?_
                  refine AllReadyH.cons (o := { dst := some 59, op := Go.Op.call { callee := Go.Callee.builtin Go.Builtin.append, args := #[Go.Operand.tmp 53, Go.Operand.tmp 58], argTypes := #[24, 24] }, type := 24, pos := "l18_plan.go:101", after := #[{ on := 8, ground := Go.Ground.data }, { on := 13, ground := Go.Ground.data }], guard := none }) rfl (fun K hK => ?_) (AllReadyH.cons (o := { dst := some 61, op := Go.Op.buildSlice 24 1 #[(0, Go.Operand.tmp 60)], type := 24, pos := "l18_plan.go:101", after := #[{ on := 15, ground := Go.Ground.data }], guard := none }) rfl (fun K hK => ?_) (AllReadyH.cons (o := { dst := some 9, op := Go.Op.alloc 120, type := 0, pos := "l18_plan.go:101", after := #[], guard := none }) rfl (fun K hK => ?_) (AllReadyH.nil)))
                  · rw [if_pos (by rfl)]
                    refine oper_marks (Operand.tmp 53) (Operand.tmp 58) 24 rfl wi.heap.size i0 Try.underlying24 hi hz0 hz1 hz2 (.slice (some ⟨ea, 0, none⟩) 0 0) rfl E3.out rfl (HMF.out.1.below T2.out) HMF.out.2 T2.out.size ?_
                    intro v7 V4 hown hgr
                    have T5 := hid (bel_grownO T2.out (Nat.le_refl _) E3.out (Nat.le_refl _) hgr)
                    have E6 := hid hown
                    clear hown hgr
                    refine hK.out _ _ (by exact SX.out _ T5.out) (fun hHeld => ?_)
                    clear hK K
                    try simp only [Act.put, List.setIfInBounds_toArray, List.set_cons_zero, List.set_cons_succ]
                    refine wpAnyH_ready (rs := [16, 19]) (by kernel_rfl) (by simp) ?_
                    refine AllReadyH.cons (o := { dst := some 61, op := Go.Op.buildSlice 24 1 #[(0, Go.Operand.tmp 60)], type := 24, pos := "l18_plan.go:101", after := #[{ on := 15, ground := Go.Ground.data }], guard := none }) rfl (fun K hK => ?_) (AllReadyH.cons (o := { dst := some 9, op := Go.Op.alloc 120, type := 0, pos := "l18_plan.go:101", after := #[], guard := none }) rfl (fun K hK => ?_) (AllReadyH.nil))
                    · go_simp
                      have T8 := hid (T5.out.alloc T5.out.size (.cells #[.int .i64 (F : Int)] 3 (0, 0)))
                      have bb : Below V4.heap.size V4 (V4.alloc (.cells #[.int .i64 (F : Int)] 3 (0, 0))) := (Below.refl _ _).alloc (Nat.le_refl _) _
                      have E9 : Hid (CB (V4.alloc (.cells #[.int .i64 (F : Int)] 3 (0, 0))) V4.heap.size #[.int .i64 (F : Int)] 3) := hid (CB.new _ _)
                      have E10 := hid (ownsRow_below E6.out bb)
                      clear bb
                      refine hK.out _ _ (by exact SX.out _ T8.out) (fun hHeld => ?_)
                      clear hK K
                      try simp only [Act.put, List.setIfInBounds_toArray, List.set_cons_zero, List.set_cons_succ]
                      generalize (V4.alloc (.cells #[.int .i64 (F : Int)] 3 (0, 0))) = V7 at T8 E9 E10 ⊢
                      generalize V4.heap.size = eb at T8 E9 E10 ⊢
                      refine wpAnyH_ready (rs := [17, 19]) (by kernel_rfl) (by simp) ?_
                      refine AllReadyH.cons (o := { dst := some 62, op := Go.Op.call { callee := Go.Callee.builtin Go.Builtin.append, args := #[Go.Operand.tmp 59, Go.Operand.tmp 61], argTypes := #[24, 24] }, type := 24, pos := "l18_plan.go:101", after := #[{ on := 14, ground := Go.Ground.data }, { on := 16, ground := Go.Ground.data }, { on := 14, ground := Go.Ground.chain }], guard := none }) rfl (fun K hK => ?_) (AllReadyH.cons (o := { dst := some 9, op := Go.Op.alloc 120, type := 0, pos := "l18_plan.go:101", after := #[], guard := none }) rfl (fun K hK => ?_) (AllReadyH.nil))
                      · rw [if_pos (by rfl)]
                        refine oper_app (Operand.tmp 59) (Operand.tmp 61) 24 rfl wi.heap.size 3 i0 (.int .i64 0) 1 8 Try.underlying24 hi hz0 hz1 hz2 rfl (by decide) v7 LF (intR (fun j => (MF j : Int)) LF) rfl E10.out ⟨eb, 0, none⟩ 1 1 [.int .i64 (F : Int)] rfl rfl (cb_srcM E9.out) (fun u hu => by simp at hu; subst hu; rfl) (by have := HMF.out.2; unfold maxLen; omega) (by have := HMF.out.2; omega) T8.out.size ?_
                        intro v8 V11 hown hgr
                        have T12 := hid (bel_grownO T8.out (Nat.le_refl _) E10.out (Nat.le_refl _) hgr)
                        obtain ⟨a9, p9, rfl, hm9⟩ := MkR.of (mk := fun j => if j = LF then F else MF j) hown (marks_add MF LF F)
                        have E13 := hid hm9
                        clear hown hgr hm9
                        refine hK.out _ _ (by exact SX.out _ T12.out) (fun hHeld => ?_)
                        clear hK K
                        try simp only [Act.put, List.setIfInBounds_toArray, List.set_cons_zero, List.set_cons_succ]
                        refine wpAnyH_take (i := 18) (oi := { dst := some 63, op := Go.Op.build 120 #[(0, Go.Operand.tmp 52), (1, Go.Operand.tmp 62)], type := 120, pos := "l18_plan.go:101", after := #[{ on := 7, ground := Go.Ground.data }, { on := 17, ground := Go.Ground.data }], guard := none }) (v := ?_) rfl (by kernel_rfl) (by kernel_rfl) (by kernel_rfl) (fun _ _ _ h => h) (Or.inl ⟨by rfl, ?_⟩) (by assumption) ?_
                        rotate_left
                        · (intro w hSw; (try dsimp only at hSw); go_simp <;> try with_reducible rfl)
                        try simp only [Act.put, List.setIfInBounds_toArray, List.set_cons_zero, List.set_cons_succ]
                        refine wpAnyH_ready (rs := [19]) (by kernel_rfl) (by simp) ?_
                        refine AllReadyH.cons (o := { dst := some 9, op := Go.Op.alloc 120, type := 0, pos := "l18_plan.go:101", after := #[], guard := none }) rfl (fun K hK => ?_) (AllReadyH.nil)
                        · go_simp
                          have T15 := hid (T12.out.alloc T12.out.size (.cells #[.int .i64 0, .slice none 0 0] 120 (0, 0)))
                          have bb : Below V11.heap.size V11 (V11.alloc (.cells #[.int .i64 0, .slice none 0 0] 120 (0, 0))) := (Below.refl _ _).alloc (Nat.le_refl _) _
                          have E16 : Hid (CB (V11.alloc (.cells #[.int .i64 0, .slice none 0 0] 120 (0, 0))) V11.heap.size #[.int .i64 0, .slice none 0 0] 120) := hid (CB.new _ _)
                          have E17 := hid (E13.out.below bb)
                          have G18 : Hid (wi.heap.size ≤ V11.heap.size) := hid T12.out.size
                          clear bb
                          refine hK.out _ _ (by exact SX.out _ T15.out) (fun hHeld => ?_)
                          clear hK K
                          try simp only [Act.put, List.setIfInBounds_toArray, List.set_cons_zero, List.set_cons_succ]
                          generalize (V11.alloc (.cells #[.int .i64 0, .slice none 0 0] 120 (0, 0))) = V14 at T15 E16 E17 ⊢
                          generalize V11.heap.size = ec at T15 E16 E17 G18 ⊢
                          have y0 : V14.cell? ⟨ec, 0, none⟩ = some (.int .i64 0) := (E16.out.cell 0).trans rfl
                          have y1 : V14.cell? ⟨ec, 1, none⟩ = some (.slice none 0 0) := (E16.out.cell 1).trans rfl
                          have f0 := E16.out.fr 0
                          have f1 := E16.out.fr 1
                          have hE : Hid (CB ((V14.setCell ⟨ec, 0, none⟩ (.int .i64 (CF + su))).setCell ⟨ec, 1, none⟩ (.slice a9 (LF + 1) p9)) ec #[.int .i64 (CF + su), .slice a9 (LF + 1) p9] 120 ∧ MkR ((V14.setCell ⟨ec, 0, none⟩ (.int .i64 (CF + su))).setCell ⟨ec, 1, none⟩ (.slice a9 (LF + 1) p9)) wi.heap.size a9 (LF + 1) p9 (fun j => if j = LF then F else MF j)) := hid ⟨(E16.out.set 0 _).set 1 _, (E17.out.set E16.out (by decide) _).set (E16.out.set 0 _) (by decide) _⟩
                          have TF : Hid (Below wi.heap.size wi ((V14.setCell ⟨ec, 0, none⟩ (.int .i64 (CF + su))).setCell ⟨ec, 1, none⟩ (.slice a9 (LF + 1) p9)) ∧ wi.heap.size ≤ ec) := hid ⟨(T15.out.setCell (by show _ ≤ ec; exact G18.out) _).setCell (by show _ ≤ ec; exact G18.out) _, G18.out⟩
                          refine wpAnyH_ready (rs := [20]) (by kernel_rfl) (by simp) ?_
                          refine AllReadyH.cons (o := { dst := none, op := Go.Op.store 120 (Go.Operand.tmp 9) (Go.Operand.tmp 63), type := 0, pos := "l18_plan.go:101", after := #[{ on := 19, ground := Go.Ground.data }, { on := 18, ground := Go.Ground.data }, { on := 17, ground := Go.Ground.chain }, { on := 0, ground := Go.Ground.phase }, { on := 1, ground := Go.Ground.phase }, { on := 2, ground := Go.Ground.phase }, { on := 3, ground := Go.Ground.phase }, { on := 4, ground := Go.Ground.phase }, { on := 5, ground := Go.Ground.phase }, { on := 6, ground := Go.Ground.phase }, { on := 7, ground := Go.Ground.phase }, { on := 8, ground := Go.Ground.phase }, { on := 9, ground := Go.Ground.phase }, { on := 10, ground := Go.Ground.phase }, { on := 11, ground := Go.Ground.phase }, { on := 12, ground := Go.Ground.phase }, { on := 13, ground := Go.Ground.phase }, { on := 14, ground := Go.Ground.phase }, { on := 15, ground := Go.Ground.phase }, { on := 16, ground := Go.Ground.phase }, { on := 17, ground := Go.Ground.phase }, { on := 18, ground := Go.Ground.phase }, { on := 19, ground := Go.Ground.phase }], guard := none }) rfl (fun K hK => ?_) (AllReadyH.nil)
                          go_simp
                          refine hK.out _ _ (by exact SX.out _ TF.out.1) (fun hHeld => ?_)
                          clear hK K y0 y1 f0 f1
                          try simp only [Act.put, List.setIfInBounds_toArray, List.set_cons_zero, List.set_cons_succ]
                          refine wpAnyH_done (by kernel_rfl) ?_ _
                          refine NoPanic.normal ?_
                          clear hHeld
                          go_wp2_with fail
                          go_meet
                          exact ⟨ec, a9, p9, rfl, TF.out.2, TF.out.1, hE.out.1, hE.out.2⟩
                      · go_simp
                        have T20 := hid (T8.out.alloc T8.out.size (.cells #[.int .i64 0, .slice none 0 0] 120 (0, 0)))
                        have bb : Below V7.heap.size V7 (V7.alloc (.cells #[.int .i64 0, .slice none 0 0] 120 (0, 0))) := (Below.refl _ _).alloc (Nat.le_refl _) _
                        have E21 : Hid (CB (V7.alloc (.cells #[.int .i64 0, .slice none 0 0] 120 (0, 0))) V7.heap.size #[.int .i64 0, .slice none 0 0] 120) := hid (CB.new _ _)
                        have E22 := hid (ownsRow_below E10.out bb)
                        have E23 := hid (E9.out.below bb E9.out.lt)
                        have G24 : Hid (wi.heap.size ≤ V7.heap.size) := hid T8.out.size
                        clear bb
                        refine hK.out _ _ (by exact SX.out _ T20.out) (fun hHeld => ?_)
                        clear hK K
                        try simp only [Act.put, List.setIfInBounds_toArray, List.set_cons_zero, List.set_cons_succ]
                        generalize (V7.alloc (.cells #[.int .i64 0, .slice none 0 0] 120 (0, 0))) = V19 at T20 E21 E22 E23 ⊢
                        generalize V7.heap.size = ec at T20 E21 E22 E23 G24 ⊢
                        refine wpAnyH_ready (rs := [17]) (by kernel_rfl) (by simp) ?_
                        refine AllReadyH.cons (o := { dst := some 62, op := Go.Op.call { callee := Go.Callee.builtin Go.Builtin.append, args := #[Go.Operand.tmp 59, Go.Operand.tmp 61], argTypes := #[24, 24] }, type := 24, pos := "l18_plan.go:101", after := #[{ on := 14, ground := Go.Ground.data }, { on := 16, ground := Go.Ground.data }, { on := 14, ground := Go.Ground.chain }], guard := none }) rfl (fun K hK => ?_) (AllReadyH.nil)
                        · rw [if_pos (by rfl)]
                          refine oper_app (Operand.tmp 59) (Operand.tmp 61) 24 rfl wi.heap.size 3 i0 (.int .i64 0) 1 8 Try.underlying24 hi hz0 hz1 hz2 rfl (by decide) v7 LF (intR (fun j => (MF j : Int)) LF) rfl E22.out ⟨eb, 0, none⟩ 1 1 [.int .i64 (F : Int)] rfl rfl (cb_srcM E23.out) (fun u hu => by simp at hu; subst hu; rfl) (by have := HMF.out.2; unfold maxLen; omega) (by have := HMF.out.2; omega) T20.out.size ?_
                          intro v8 V25 hown hgr
                          have T26 := hid (bel_grownO T20.out (Nat.le_refl _) E22.out (Nat.le_refl _) hgr)
                          have E27 := hid (cb_grown3 E21.out (by decide) E22.out hgr)
                          obtain ⟨a9, p9, rfl, hm9⟩ := MkR.of (mk := fun j => if j = LF then F else MF j) hown (marks_add MF LF F)
                          have E28 := hid hm9
                          clear hown hgr hm9
                          refine hK.out _ _ (by exact SX.out _ T26.out) (fun hHeld => ?_)
                          clear hK K
                          try simp only [Act.put, List.setIfInBounds_toArray, List.set_cons_zero, List.set_cons_succ]
                          refine wpAnyH_take (i := 18) (oi := { dst := some 63, op := Go.Op.build 120 #[(0, Go.Operand.tmp 52), (1, Go.Operand.tmp 62)], type := 120, pos := "l18_plan.go:101", after := #[{ on := 7, ground := Go.Ground.data }, { on := 17, ground := Go.Ground.data }], guard := none }) (v := ?_) rfl (by kernel_rfl) (by kernel_rfl) (by kernel_rfl) (fun _ _ _ h => h) (Or.inl ⟨by rfl, ?_⟩) (by assumption) ?_
                          rotate_left
                          · (intro w hSw; (try dsimp only at hSw); go_simp <;> try with_reducible rfl)
                          try simp only [Act.put, List.setIfInBounds_toArray, List.set_cons_zero, List.set_cons_succ]
                          have y0 : V25.cell? ⟨ec, 0, none⟩ = some (.int .i64 0) := (E27.out.cell 0).trans rfl
                          have y1 : V25.cell? ⟨ec, 1, none⟩ = some (.slice none 0 0) := (E27.out.cell 1).trans rfl
                          have f0 := E27.out.fr 0
                          have f1 := E27.out.fr 1
                          have hE : Hid (CB ((V25.setCell ⟨ec, 0, none⟩ (.int .i64 (CF + su))).setCell ⟨ec, 1, none⟩ (.slice a9 (LF + 1) p9)) ec #[.int .i64 (CF + su), .slice a9 (LF + 1) p9] 120 ∧ MkR ((V25.setCell ⟨ec, 0, none⟩ (.int .i64 (CF + su))).setCell ⟨ec, 1, none⟩ (.slice a9 (LF + 1) p9)) wi.heap.size a9 (LF + 1) p9 (fun j => if j = LF then F else MF j)) := hid ⟨(E27.out.set 0 _).set 1 _, (E28.out.set E27.out (by decide) _).set (E27.out.set 0 _) (by decide) _⟩
                          have TF : Hid (Below wi.heap.size wi ((V25.setCell ⟨ec, 0, none⟩ (.int .i64 (CF + su))).setCell ⟨ec, 1, none⟩ (.slice a9 (LF + 1) p9)) ∧ wi.heap.size ≤ ec) := hid ⟨(T26.out.setCell (by show _ ≤ ec; exact G24.out) _).setCell (by show _ ≤ ec; exact G24.out) _, G24.out⟩
                          refine wpAnyH_ready (rs := [20]) (by kernel_rfl) (by simp) ?_
                          refine AllReadyH.cons (o := { dst := none, op := Go.Op.store 120 (Go.Operand.tmp 9) (Go.Operand.tmp 63), type := 0, pos := "l18_plan.go:101", after := #[{ on := 19, ground := Go.Ground.data }, { on := 18, ground := Go.Ground.data }, { on := 17, ground := Go.Ground.chain }, { on := 0, ground := Go.Ground.phase }, { on := 1, ground := Go.Ground.phase }, { on := 2, ground := Go.Ground.phase }, { on := 3, ground := Go.Ground.phase }, { on := 4, ground := Go.Ground.phase }, { on := 5, ground := Go.Ground.phase }, { on := 6, ground := Go.Ground.phase }, { on := 7, ground := Go.Ground.phase }, { on := 8, ground := Go.Ground.phase }, { on := 9, ground := Go.Ground.phase }, { on := 10, ground := Go.Ground.phase }, { on := 11, ground := Go.Ground.phase }, { on := 12, ground := Go.Ground.phase }, { on := 13, ground := Go.Ground.phase }, { on := 14, ground := Go.Ground.phase }, { on := 15, ground := Go.Ground.phase }, { on := 16, ground := Go.Ground.phase }, { on := 17, ground := Go.Ground.phase }, { on := 18, ground := Go.Ground.phase }, { on := 19, ground := Go.Ground.phase }], guard := none }) rfl (fun K hK => ?_) (AllReadyH.nil)
                          go_simp
                          refine hK.out _ _ (by exact SX.out _ TF.out.1) (fun hHeld => ?_)
                          clear hK K y0 y1 f0 f1
                          try simp only [Act.put, List.setIfInBounds_toArray, List.set_cons_zero, List.set_cons_succ]
                          refine wpAnyH_done (by kernel_rfl) ?_ _
                          refine NoPanic.normal ?_
                          clear hHeld
                          go_wp2_with fail
                          go_meet
                          exact ⟨ec, a9, p9, rfl, TF.out.2, TF.out.1, hE.out.1, hE.out.2⟩
                    · go_simp
                      have T30 := hid (T5.out.alloc T5.out.size (.cells #[.int .i64 0, .slice none 0 0] 120 (0, 0)))
                      have bb : Below V4.heap.size V4 (V4.alloc (.cells #[.int .i64 0, .slice none 0 0] 120 (0, 0))) := (Below.refl _ _).alloc (Nat.le_refl _) _
                      have E31 : Hid (CB (V4.alloc (.cells #[.int .i64 0, .slice none 0 0] 120 (0, 0))) V4.heap.size #[.int .i64 0, .slice none 0 0] 120) := hid (CB.new _ _)
                      have E32 := hid (ownsRow_below E6.out bb)
                      have G33 : Hid (wi.heap.size ≤ V4.heap.size) := hid T5.out.size
                      clear bb
                      refine hK.out _ _ (by exact SX.out _ T30.out) (fun hHeld => ?_)
                      clear hK K
                      try simp only [Act.put, List.setIfInBounds_toArray, List.set_cons_zero, List.set_cons_succ]
                      generalize (V4.alloc (.cells #[.int .i64 0, .slice none 0 0] 120 (0, 0))) = V29 at T30 E31 E32 ⊢
                      generalize V4.heap.size = ec at T30 E31 E32 G33 ⊢
                      refine wpAnyH_ready (rs := [16]) (by kernel_rfl) (by simp) ?_
                      refine AllReadyH.cons (o := { dst := some 61, op := Go.Op.buildSlice 24 1 #[(0, Go.Operand.tmp 60)], type := 24, pos := "l18_plan.go:101", after := #[{ on := 15, ground := Go.Ground.data }], guard := none }) rfl (fun K hK => ?_) (AllReadyH.nil)
                      · go_simp
                        have T35 := hid (T30.out.alloc T30.out.size (.cells #[.int .i64 (F : Int)] 3 (0, 0)))
                        have bb : Below V29.heap.size V29 (V29.alloc (.cells #[.int .i64 (F : Int)] 3 (0, 0))) := (Below.refl _ _).alloc (Nat.le_refl _) _
                        have E36 : Hid (CB (V29.alloc (.cells #[.int .i64 (F : Int)] 3 (0, 0))) V29.heap.size #[.int .i64 (F : Int)] 3) := hid (CB.new _ _)
                        have E37 := hid (ownsRow_below E32.out bb)
                        have E38 := hid (E31.out.below bb E31.out.lt)
                        clear bb
                        refine hK.out _ _ (by exact SX.out _ T35.out) (fun hHeld => ?_)
                        clear hK K
                        try simp only [Act.put, List.setIfInBounds_toArray, List.set_cons_zero, List.set_cons_succ]
                        generalize (V29.alloc (.cells #[.int .i64 (F : Int)] 3 (0, 0))) = V34 at T35 E36 E37 E38 ⊢
                        generalize V29.heap.size = eb at T35 E36 E37 E38 ⊢
                        refine wpAnyH_ready (rs := [17]) (by kernel_rfl) (by simp) ?_
                        refine AllReadyH.cons (o := { dst := some 62, op := Go.Op.call { callee := Go.Callee.builtin Go.Builtin.append, args := #[Go.Operand.tmp 59, Go.Operand.tmp 61], argTypes := #[24, 24] }, type := 24, pos := "l18_plan.go:101", after := #[{ on := 14, ground := Go.Ground.data }, { on := 16, ground := Go.Ground.data }, { on := 14, ground := Go.Ground.chain }], guard := none }) rfl (fun K hK => ?_) (AllReadyH.nil)
                        · rw [if_pos (by rfl)]
                          refine oper_app (Operand.tmp 59) (Operand.tmp 61) 24 rfl wi.heap.size 3 i0 (.int .i64 0) 1 8 Try.underlying24 hi hz0 hz1 hz2 rfl (by decide) v7 LF (intR (fun j => (MF j : Int)) LF) rfl E37.out ⟨eb, 0, none⟩ 1 1 [.int .i64 (F : Int)] rfl rfl (cb_srcM E36.out) (fun u hu => by simp at hu; subst hu; rfl) (by have := HMF.out.2; unfold maxLen; omega) (by have := HMF.out.2; omega) T35.out.size ?_
                          intro v8 V39 hown hgr
                          have T40 := hid (bel_grownO T35.out (Nat.le_refl _) E37.out (Nat.le_refl _) hgr)
                          have E41 := hid (cb_grown3 E38.out (by decide) E37.out hgr)
                          obtain ⟨a9, p9, rfl, hm9⟩ := MkR.of (mk := fun j => if j = LF then F else MF j) hown (marks_add MF LF F)
                          have E42 := hid hm9
                          clear hown hgr hm9
                          refine hK.out _ _ (by exact SX.out _ T40.out) (fun hHeld => ?_)
                          clear hK K
                          try simp only [Act.put, List.setIfInBounds_toArray, List.set_cons_zero, List.set_cons_succ]
                          refine wpAnyH_take (i := 18) (oi := { dst := some 63, op := Go.Op.build 120 #[(0, Go.Operand.tmp 52), (1, Go.Operand.tmp 62)], type := 120, pos := "l18_plan.go:101", after := #[{ on := 7, ground := Go.Ground.data }, { on := 17, ground := Go.Ground.data }], guard := none }) (v := ?_) rfl (by kernel_rfl) (by kernel_rfl) (by kernel_rfl) (fun _ _ _ h => h) (Or.inl ⟨by rfl, ?_⟩) (by assumption) ?_
                          rotate_left
                          · (intro w hSw; (try dsimp only at hSw); go_simp <;> try with_reducible rfl)
                          try simp only [Act.put, List.setIfInBounds_toArray, List.set_cons_zero, List.set_cons_succ]
                          have y0 : V39.cell? ⟨ec, 0, none⟩ = some (.int .i64 0) := (E41.out.cell 0).trans rfl
                          have y1 : V39.cell? ⟨ec, 1, none⟩ = some (.slice none 0 0) := (E41.out.cell 1).trans rfl
                          have f0 := E41.out.fr 0
                          have f1 := E41.out.fr 1
                          have hE : Hid (CB ((V39.setCell ⟨ec, 0, none⟩ (.int .i64 (CF + su))).setCell ⟨ec, 1, none⟩ (.slice a9 (LF + 1) p9)) ec #[.int .i64 (CF + su), .slice a9 (LF + 1) p9] 120 ∧ MkR ((V39.setCell ⟨ec, 0, none⟩ (.int .i64 (CF + su))).setCell ⟨ec, 1, none⟩ (.slice a9 (LF + 1) p9)) wi.heap.size a9 (LF + 1) p9 (fun j => if j = LF then F else MF j)) := hid ⟨(E41.out.set 0 _).set 1 _, (E42.out.set E41.out (by decide) _).set (E41.out.set 0 _) (by decide) _⟩
                          have TF : Hid (Below wi.heap.size wi ((V39.setCell ⟨ec, 0, none⟩ (.int .i64 (CF + su))).setCell ⟨ec, 1, none⟩ (.slice a9 (LF + 1) p9)) ∧ wi.heap.size ≤ ec) := hid ⟨(T40.out.setCell (by show _ ≤ ec; exact G33.out) _).setCell (by show _ ≤ ec; exact G33.out) _, G33.out⟩
                          refine wpAnyH_ready (rs := [20]) (by kernel_rfl) (by simp) ?_
                          refine AllReadyH.cons (o := { dst := none, op := Go.Op.store 120 (Go.Operand.tmp 9) (Go.Operand.tmp 63), type := 0, pos := "l18_plan.go:101", after := #[{ on := 19, ground := Go.Ground.data }, { on := 18, ground := Go.Ground.data }, { on := 17, ground := Go.Ground.chain }, { on := 0, ground := Go.Ground.phase }, { on := 1, ground := Go.Ground.phase }, { on := 2, ground := Go.Ground.phase }, { on := 3, ground := Go.Ground.phase }, { on := 4, ground := Go.Ground.phase }, { on := 5, ground := Go.Ground.phase }, { on := 6, ground := Go.Ground.phase }, { on := 7, ground := Go.Ground.phase }, { on := 8, ground := Go.Ground.phase }, { on := 9, ground := Go.Ground.phase }, { on := 10, ground := Go.Ground.phase }, { on := 11, ground := Go.Ground.phase }, { on := 12, ground := Go.Ground.phase }, { on := 13, ground := Go.Ground.phase }, { on := 14, ground := Go.Ground.phase }, { on := 15, ground := Go.Ground.phase }, { on := 16, ground := Go.Ground.phase }, { on := 17, ground := Go.Ground.phase }, { on := 18, ground := Go.Ground.phase }, { on := 19, ground := Go.Ground.phase }], guard := none }) rfl (fun K hK => ?_) (AllReadyH.nil)
                          go_simp
                          refine hK.out _ _ (by exact SX.out _ TF.out.1) (fun hHeld => ?_)
                          clear hK K y0 y1 f0 f1
                          try simp only [Act.put, List.setIfInBounds_toArray, List.set_cons_zero, List.set_cons_succ]
                          refine wpAnyH_done (by kernel_rfl) ?_ _
                          refine NoPanic.normal ?_
                          clear hHeld
                          go_wp2_with fail
                          go_meet
                          exact ⟨ec, a9, p9, rfl, TF.out.2, TF.out.1, hE.out.1, hE.out.2⟩
                  · go_simp
                    have T44 := hid (T2.out.alloc T2.out.size (.cells #[.int .i64 (F : Int)] 3 (0, 0)))
                    have bb : Below V1.heap.size V1 (V1.alloc (.cells #[.int .i64 (F : Int)] 3 (0, 0))) := (Below.refl _ _).alloc (Nat.le_refl _) _
                    have E45 : Hid (CB (V1.alloc (.cells #[.int .i64 (F : Int)] 3 (0, 0))) V1.heap.size #[.int .i64 (F : Int)] 3) := hid (CB.new _ _)
                    have E46 := hid (ownsRow_below E3.out bb)
                    have N47 : Hid (ea ≠ V1.heap.size) := hid (by have := madeI_cb E3.out; omega)
                    clear bb
                    refine hK.out _ _ (by exact SX.out _ T44.out) (fun hHeld => ?_)
                    clear hK K
                    try simp only [Act.put, List.setIfInBounds_toArray, List.set_cons_zero, List.set_cons_succ]
                    generalize (V1.alloc (.cells #[.int .i64 (F : Int)] 3 (0, 0))) = V43 at T44 E45 E46 ⊢
                    generalize V1.heap.size = eb at T44 E45 E46 N47 ⊢
                    refine wpAnyH_ready (rs := [14, 19]) (by kernel_rfl) (by simp) ?_
                    refine AllReadyH.cons (o := { dst := some 59, op := Go.Op.call { callee := Go.Callee.builtin Go.Builtin.append, args := #[Go.Operand.tmp 53, Go.Operand.tmp 58], argTypes := #[24, 24] }, type := 24, pos := "l18_plan.go:101", after := #[{ on := 8, ground := Go.Ground.data }, { on := 13, ground := Go.Ground.data }], guard := none }) rfl (fun K hK => ?_) (AllReadyH.cons (o := { dst := some 9, op := Go.Op.alloc 120, type := 0, pos := "l18_plan.go:101", after := #[], guard := none }) rfl (fun K hK => ?_) (AllReadyH.nil))
                    · rw [if_pos (by rfl)]
                      refine oper_marks (Operand.tmp 53) (Operand.tmp 58) 24 rfl wi.heap.size i0 Try.underlying24 hi hz0 hz1 hz2 (.slice (some ⟨ea, 0, none⟩) 0 0) rfl E46.out rfl (HMF.out.1.below T44.out) HMF.out.2 T44.out.size ?_
                      intro v7 V48 hown hgr
                      have T49 := hid (bel_grownO T44.out (Nat.le_refl _) E46.out (Nat.le_refl _) hgr)
                      have E50 := hid hown
                      have E51 := hid (E45.out.keep (hgr.block eb E45.out.lt (fun q => N47.out (by simpa [Value.ownBlock] using q.symm))))
                      clear hown hgr
                      refine hK.out _ _ (by exact SX.out _ T49.out) (fun hHeld => ?_)
                      clear hK K
                      try simp only [Act.put, List.setIfInBounds_toArray, List.set_cons_zero, List.set_cons_succ]
                      refine wpAnyH_ready (rs := [17, 19]) (by kernel_rfl) (by simp) ?_
                      refine AllReadyH.cons (o := { dst := some 62, op := Go.Op.call { callee := Go.Callee.builtin Go.Builtin.append, args := #[Go.Operand.tmp 59, Go.Operand.tmp 61], argTypes := #[24, 24] }, type := 24, pos := "l18_plan.go:101", after := #[{ on := 14, ground := Go.Ground.data }, { on := 16, ground := Go.Ground.data }, { on := 14, ground := Go.Ground.chain }], guard := none }) rfl (fun K hK => ?_) (AllReadyH.cons (o := { dst := some 9, op := Go.Op.alloc 120, type := 0, pos := "l18_plan.go:101", after := #[], guard := none }) rfl (fun K hK => ?_) (AllReadyH.nil))
                      · rw [if_pos (by rfl)]
                        refine oper_app (Operand.tmp 59) (Operand.tmp 61) 24 rfl wi.heap.size 3 i0 (.int .i64 0) 1 8 Try.underlying24 hi hz0 hz1 hz2 rfl (by decide) v7 LF (intR (fun j => (MF j : Int)) LF) rfl E50.out ⟨eb, 0, none⟩ 1 1 [.int .i64 (F : Int)] rfl rfl (cb_srcM E51.out) (fun u hu => by simp at hu; subst hu; rfl) (by have := HMF.out.2; unfold maxLen; omega) (by have := HMF.out.2; omega) T49.out.size ?_
                        intro v8 V52 hown hgr
                        have T53 := hid (bel_grownO T49.out (Nat.le_refl _) E50.out (Nat.le_refl _) hgr)
                        obtain ⟨a9, p9, rfl, hm9⟩ := MkR.of (mk := fun j => if j = LF then F else MF j) hown (marks_add MF LF F)
                        have E54 := hid hm9
                        clear hown hgr hm9
                        refine hK.out _ _ (by exact SX.out _ T53.out) (fun hHeld => ?_)
                        clear hK K
                        try simp only [Act.put, List.setIfInBounds_toArray, List.set_cons_zero, List.set_cons_succ]
                        refine wpAnyH_take (i := 18) (oi := { dst := some 63, op := Go.Op.build 120 #[(0, Go.Operand.tmp 52), (1, Go.Operand.tmp 62)], type := 120, pos := "l18_plan.go:101", after := #[{ on := 7, ground := Go.Ground.data }, { on := 17, ground := Go.Ground.data }], guard := none }) (v := ?_) rfl (by kernel_rfl) (by kernel_rfl) (by kernel_rfl) (fun _ _ _ h => h) (Or.inl ⟨by rfl, ?_⟩) (by assumption) ?_
                        rotate_left
                        · (intro w hSw; (try dsimp only at hSw); go_simp <;> try with_reducible rfl)
                        try simp only [Act.put, List.setIfInBounds_toArray, List.set_cons_zero, List.set_cons_succ]
                        refine wpAnyH_ready (rs := [19]) (by kernel_rfl) (by simp) ?_
                        refine AllReadyH.cons (o := { dst := some 9, op := Go.Op.alloc 120, type := 0, pos := "l18_plan.go:101", after := #[], guard := none }) rfl (fun K hK => ?_) (AllReadyH.nil)
                        · go_simp
                          have T56 := hid (T53.out.alloc T53.out.size (.cells #[.int .i64 0, .slice none 0 0] 120 (0, 0)))
                          have bb : Below V52.heap.size V52 (V52.alloc (.cells #[.int .i64 0, .slice none 0 0] 120 (0, 0))) := (Below.refl _ _).alloc (Nat.le_refl _) _
                          have E57 : Hid (CB (V52.alloc (.cells #[.int .i64 0, .slice none 0 0] 120 (0, 0))) V52.heap.size #[.int .i64 0, .slice none 0 0] 120) := hid (CB.new _ _)
                          have E58 := hid (E54.out.below bb)
                          have G59 : Hid (wi.heap.size ≤ V52.heap.size) := hid T53.out.size
                          clear bb
                          refine hK.out _ _ (by exact SX.out _ T56.out) (fun hHeld => ?_)
                          clear hK K
                          try simp only [Act.put, List.setIfInBounds_toArray, List.set_cons_zero, List.set_cons_succ]
                          generalize (V52.alloc (.cells #[.int .i64 0, .slice none 0 0] 120 (0, 0))) = V55 at T56 E57 E58 ⊢
                          generalize V52.heap.size = ec at T56 E57 E58 G59 ⊢
                          have y0 : V55.cell? ⟨ec, 0, none⟩ = some (.int .i64 0) := (E57.out.cell 0).trans rfl
                          have y1 : V55.cell? ⟨ec, 1, none⟩ = some (.slice none 0 0) := (E57.out.cell 1).trans rfl
                          have f0 := E57.out.fr 0
                          have f1 := E57.out.fr 1
                          have hE : Hid (CB ((V55.setCell ⟨ec, 0, none⟩ (.int .i64 (CF + su))).setCell ⟨ec, 1, none⟩ (.slice a9 (LF + 1) p9)) ec #[.int .i64 (CF + su), .slice a9 (LF + 1) p9] 120 ∧ MkR ((V55.setCell ⟨ec, 0, none⟩ (.int .i64 (CF + su))).setCell ⟨ec, 1, none⟩ (.slice a9 (LF + 1) p9)) wi.heap.size a9 (LF + 1) p9 (fun j => if j = LF then F else MF j)) := hid ⟨(E57.out.set 0 _).set 1 _, (E58.out.set E57.out (by decide) _).set (E57.out.set 0 _) (by decide) _⟩
                          have TF : Hid (Below wi.heap.size wi ((V55.setCell ⟨ec, 0, none⟩ (.int .i64 (CF + su))).setCell ⟨ec, 1, none⟩ (.slice a9 (LF + 1) p9)) ∧ wi.heap.size ≤ ec) := hid ⟨(T56.out.setCell (by show _ ≤ ec; exact G59.out) _).setCell (by show _ ≤ ec; exact G59.out) _, G59.out⟩
                          refine wpAnyH_ready (rs := [20]) (by kernel_rfl) (by simp) ?_
                          refine AllReadyH.cons (o := { dst := none, op := Go.Op.store 120 (Go.Operand.tmp 9) (Go.Operand.tmp 63), type := 0, pos := "l18_plan.go:101", after := #[{ on := 19, ground := Go.Ground.data }, { on := 18, ground := Go.Ground.data }, { on := 17, ground := Go.Ground.chain }, { on := 0, ground := Go.Ground.phase }, { on := 1, ground := Go.Ground.phase }, { on := 2, ground := Go.Ground.phase }, { on := 3, ground := Go.Ground.phase }, { on := 4, ground := Go.Ground.phase }, { on := 5, ground := Go.Ground.phase }, { on := 6, ground := Go.Ground.phase }, { on := 7, ground := Go.Ground.phase }, { on := 8, ground := Go.Ground.phase }, { on := 9, ground := Go.Ground.phase }, { on := 10, ground := Go.Ground.phase }, { on := 11, ground := Go.Ground.phase }, { on := 12, ground := Go.Ground.phase }, { on := 13, ground := Go.Ground.phase }, { on := 14, ground := Go.Ground.phase }, { on := 15, ground := Go.Ground.phase }, { on := 16, ground := Go.Ground.phase }, { on := 17, ground := Go.Ground.phase }, { on := 18, ground := Go.Ground.phase }, { on := 19, ground := Go.Ground.phase }], guard := none }) rfl (fun K hK => ?_) (AllReadyH.nil)
                          go_simp
                          refine hK.out _ _ (by exact SX.out _ TF.out.1) (fun hHeld => ?_)
                          clear hK K y0 y1 f0 f1
                          try simp only [Act.put, List.setIfInBounds_toArray, List.set_cons_zero, List.set_cons_succ]
                          refine wpAnyH_done (by kernel_rfl) ?_ _
                          refine NoPanic.normal ?_
                          clear hHeld
                          go_wp2_with fail
                          go_meet
                          exact ⟨ec, a9, p9, rfl, TF.out.2, TF.out.1, hE.out.1, hE.out.2⟩
                      · go_simp
                        have T61 := hid (T49.out.alloc T49.out.size (.cells #[.int .i64 0, .slice none 0 0] 120 (0, 0)))
                        have bb : Below V48.heap.size V48 (V48.alloc (.cells #[.int .i64 0, .slice none 0 0] 120 (0, 0))) := (Below.refl _ _).alloc (Nat.le_refl _) _
                        have E62 : Hid (CB (V48.alloc (.cells #[.int .i64 0, .slice none 0 0] 120 (0, 0))) V48.heap.size #[.int .i64 0, .slice none 0 0] 120) := hid (CB.new _ _)
                        have E63 := hid (ownsRow_below E50.out bb)
                        have E64 := hid (E51.out.below bb E51.out.lt)
                        have G65 : Hid (wi.heap.size ≤ V48.heap.size) := hid T49.out.size
                        clear bb
                        refine hK.out _ _ (by exact SX.out _ T61.out) (fun hHeld => ?_)
                        clear hK K
                        try simp only [Act.put, List.setIfInBounds_toArray, List.set_cons_zero, List.set_cons_succ]
                        generalize (V48.alloc (.cells #[.int .i64 0, .slice none 0 0] 120 (0, 0))) = V60 at T61 E62 E63 E64 ⊢
                        generalize V48.heap.size = ec at T61 E62 E63 E64 G65 ⊢
                        refine wpAnyH_ready (rs := [17]) (by kernel_rfl) (by simp) ?_
                        refine AllReadyH.cons (o := { dst := some 62, op := Go.Op.call { callee := Go.Callee.builtin Go.Builtin.append, args := #[Go.Operand.tmp 59, Go.Operand.tmp 61], argTypes := #[24, 24] }, type := 24, pos := "l18_plan.go:101", after := #[{ on := 14, ground := Go.Ground.data }, { on := 16, ground := Go.Ground.data }, { on := 14, ground := Go.Ground.chain }], guard := none }) rfl (fun K hK => ?_) (AllReadyH.nil)
                        · rw [if_pos (by rfl)]
                          refine oper_app (Operand.tmp 59) (Operand.tmp 61) 24 rfl wi.heap.size 3 i0 (.int .i64 0) 1 8 Try.underlying24 hi hz0 hz1 hz2 rfl (by decide) v7 LF (intR (fun j => (MF j : Int)) LF) rfl E63.out ⟨eb, 0, none⟩ 1 1 [.int .i64 (F : Int)] rfl rfl (cb_srcM E64.out) (fun u hu => by simp at hu; subst hu; rfl) (by have := HMF.out.2; unfold maxLen; omega) (by have := HMF.out.2; omega) T61.out.size ?_
                          intro v8 V66 hown hgr
                          have T67 := hid (bel_grownO T61.out (Nat.le_refl _) E63.out (Nat.le_refl _) hgr)
                          have E68 := hid (cb_grown3 E62.out (by decide) E63.out hgr)
                          obtain ⟨a9, p9, rfl, hm9⟩ := MkR.of (mk := fun j => if j = LF then F else MF j) hown (marks_add MF LF F)
                          have E69 := hid hm9
                          clear hown hgr hm9
                          refine hK.out _ _ (by exact SX.out _ T67.out) (fun hHeld => ?_)
                          clear hK K
                          try simp only [Act.put, List.setIfInBounds_toArray, List.set_cons_zero, List.set_cons_succ]
                          refine wpAnyH_take (i := 18) (oi := { dst := some 63, op := Go.Op.build 120 #[(0, Go.Operand.tmp 52), (1, Go.Operand.tmp 62)], type := 120, pos := "l18_plan.go:101", after := #[{ on := 7, ground := Go.Ground.data }, { on := 17, ground := Go.Ground.data }], guard := none }) (v := ?_) rfl (by kernel_rfl) (by kernel_rfl) (by kernel_rfl) (fun _ _ _ h => h) (Or.inl ⟨by rfl, ?_⟩) (by assumption) ?_
                          rotate_left
                          · (intro w hSw; (try dsimp only at hSw); go_simp <;> try with_reducible rfl)
                          try simp only [Act.put, List.setIfInBounds_toArray, List.set_cons_zero, List.set_cons_succ]
                          have y0 : V66.cell? ⟨ec, 0, none⟩ = some (.int .i64 0) := (E68.out.cell 0).trans rfl
                          have y1 : V66.cell? ⟨ec, 1, none⟩ = some (.slice none 0 0) := (E68.out.cell 1).trans rfl
                          have f0 := E68.out.fr 0
                          have f1 := E68.out.fr 1
                          have hE : Hid (CB ((V66.setCell ⟨ec, 0, none⟩ (.int .i64 (CF + su))).setCell ⟨ec, 1, none⟩ (.slice a9 (LF + 1) p9)) ec #[.int .i64 (CF + su), .slice a9 (LF + 1) p9] 120 ∧ MkR ((V66.setCell ⟨ec, 0, none⟩ (.int .i64 (CF + su))).setCell ⟨ec, 1, none⟩ (.slice a9 (LF + 1) p9)) wi.heap.size a9 (LF + 1) p9 (fun j => if j = LF then F else MF j)) := hid ⟨(E68.out.set 0 _).set 1 _, (E69.out.set E68.out (by decide) _).set (E68.out.set 0 _) (by decide) _⟩
                          have TF : Hid (Below wi.heap.size wi ((V66.setCell ⟨ec, 0, none⟩ (.int .i64 (CF + su))).setCell ⟨ec, 1, none⟩ (.slice a9 (LF + 1) p9)) ∧ wi.heap.size ≤ ec) := hid ⟨(T67.out.setCell (by show _ ≤ ec; exact G65.out) _).setCell (by show _ ≤ ec; exact G65.out) _, G65.out⟩
                          refine wpAnyH_ready (rs := [20]) (by kernel_rfl) (by simp) ?_
                          refine AllReadyH.cons (o := { dst := none, op := Go.Op.store 120 (Go.Operand.tmp 9) (Go.Operand.tmp 63), type := 0, pos := "l18_plan.go:101", after := #[{ on := 19, ground := Go.Ground.data }, { on := 18, ground := Go.Ground.data }, { on := 17, ground := Go.Ground.chain }, { on := 0, ground := Go.Ground.phase }, { on := 1, ground := Go.Ground.phase }, { on := 2, ground := Go.Ground.phase }, { on := 3, ground := Go.Ground.phase }, { on := 4, ground := Go.Ground.phase }, { on := 5, ground := Go.Ground.phase }, { on := 6, ground := Go.Ground.phase }, { on := 7, ground := Go.Ground.phase }, { on := 8, ground := Go.Ground.phase }, { on := 9, ground := Go.Ground.phase }, { on := 10, ground := Go.Ground.phase }, { on := 11, ground := Go.Ground.phase }, { on := 12, ground := Go.Ground.phase }, { on := 13, ground := Go.Ground.phase }, { on := 14, ground := Go.Ground.phase }, { on := 15, ground := Go.Ground.phase }, { on := 16, ground := Go.Ground.phase }, { on := 17, ground := Go.Ground.phase }, { on := 18, ground := Go.Ground.phase }, { on := 19, ground := Go.Ground.phase }], guard := none }) rfl (fun K hK => ?_) (AllReadyH.nil)
                          go_simp
                          refine hK.out _ _ (by exact SX.out _ TF.out.1) (fun hHeld => ?_)
                          clear hK K y0 y1 f0 f1
                          try simp only [Act.put, List.setIfInBounds_toArray, List.set_cons_zero, List.set_cons_succ]
                          refine wpAnyH_done (by kernel_rfl) ?_ _
                          refine NoPanic.normal ?_
                          clear hHeld
                          go_wp2_with fail
                          go_meet
                          exact ⟨ec, a9, p9, rfl, TF.out.2, TF.out.1, hE.out.1, hE.out.2⟩
                    · go_simp
                      have T71 := hid (T44.out.alloc T44.out.size (.cells #[.int .i64 0, .slice none 0 0] 120 (0, 0)))
                      have bb : Below V43.heap.size V43 (V43.alloc (.cells #[.int .i64 0, .slice none 0 0] 120 (0, 0))) := (Below.refl _ _).alloc (Nat.le_refl _) _
                      have E72 : Hid (CB (V43.alloc (.cells #[.int .i64 0, .slice none 0 0] 120 (0, 0))) V43.heap.size #[.int .i64 0, .slice none 0 0] 120) := hid (CB.new _ _)
                      have E73 := hid (ownsRow_below E46.out bb)
                      have E74 := hid (E45.out.below bb E45.out.lt)
                      have G75 : Hid (wi.heap.size ≤ V43.heap.size) := hid T44.out.size
                      clear bb
                      refine hK.out _ _ (by exact SX.out _ T71.out) (fun hHeld => ?_)
                      clear hK K
                      try simp only [Act.put, List.setIfInBounds_toArray, List.set_cons_zero, List.set_cons_succ]
                      generalize (V43.alloc (.cells #[.int .i64 0, .slice none 0 0] 120 (0, 0))) = V70 at T71 E72 E73 E74 ⊢
                      generalize V43.heap.size = ec at T71 E72 E73 E74 G75 ⊢
                      refine wpAnyH_ready (rs := [14]) (by kernel_rfl) (by simp) ?_
                      refine AllReadyH.cons (o := { dst := some 59, op := Go.Op.call { callee := Go.Callee.builtin Go.Builtin.append, args := #[Go.Operand.tmp 53, Go.Operand.tmp 58], argTypes := #[24, 24] }, type := 24, pos := "l18_plan.go:101", after := #[{ on := 8, ground := Go.Ground.data }, { on := 13, ground := Go.Ground.data }], guard := none }) rfl (fun K hK => ?_) (AllReadyH.nil)
                      · rw [if_pos (by rfl)]
                        refine oper_marks (Operand.tmp 53) (Operand.tmp 58) 24 rfl wi.heap.size i0 Try.underlying24 hi hz0 hz1 hz2 (.slice (some ⟨ea, 0, none⟩) 0 0) rfl E73.out rfl (HMF.out.1.below T71.out) HMF.out.2 T71.out.size ?_
                        intro v7 V76 hown hgr
                        have T77 := hid (bel_grownO T71.out (Nat.le_refl _) E73.out (Nat.le_refl _) hgr)
                        have E78 := hid hown
                        have E79 := hid (E74.out.keep (hgr.block eb E74.out.lt (fun q => N47.out (by simpa [Value.ownBlock] using q.symm))))
                        have E80 := hid (cb_grown3 E72.out (by decide) E73.out hgr)
                        clear hown hgr
                        refine hK.out _ _ (by exact SX.out _ T77.out) (fun hHeld => ?_)
                        clear hK K
                        try simp only [Act.put, List.setIfInBounds_toArray, List.set_cons_zero, List.set_cons_succ]
                        refine wpAnyH_ready (rs := [17]) (by kernel_rfl) (by simp) ?_
                        refine AllReadyH.cons (o := { dst := some 62, op := Go.Op.call { callee := Go.Callee.builtin Go.Builtin.append, args := #[Go.Operand.tmp 59, Go.Operand.tmp 61], argTypes := #[24, 24] }, type := 24, pos := "l18_plan.go:101", after := #[{ on := 14, ground := Go.Ground.data }, { on := 16, ground := Go.Ground.data }, { on := 14, ground := Go.Ground.chain }], guard := none }) rfl (fun K hK => ?_) (AllReadyH.nil)
                        · rw [if_pos (by rfl)]
                          refine oper_app (Operand.tmp 59) (Operand.tmp 61) 24 rfl wi.heap.size 3 i0 (.int .i64 0) 1 8 Try.underlying24 hi hz0 hz1 hz2 rfl (by decide) v7 LF (intR (fun j => (MF j : Int)) LF) rfl E78.out ⟨eb, 0, none⟩ 1 1 [.int .i64 (F : Int)] rfl rfl (cb_srcM E79.out) (fun u hu => by simp at hu; subst hu; rfl) (by have := HMF.out.2; unfold maxLen; omega) (by have := HMF.out.2; omega) T77.out.size ?_
                          intro v8 V81 hown hgr
                          have T82 := hid (bel_grownO T77.out (Nat.le_refl _) E78.out (Nat.le_refl _) hgr)
                          have E83 := hid (cb_grown3 E80.out (by decide) E78.out hgr)
                          obtain ⟨a9, p9, rfl, hm9⟩ := MkR.of (mk := fun j => if j = LF then F else MF j) hown (marks_add MF LF F)
                          have E84 := hid hm9
                          clear hown hgr hm9
                          refine hK.out _ _ (by exact SX.out _ T82.out) (fun hHeld => ?_)
                          clear hK K
                          try simp only [Act.put, List.setIfInBounds_toArray, List.set_cons_zero, List.set_cons_succ]
                          refine wpAnyH_take (i := 18) (oi := { dst := some 63, op := Go.Op.build 120 #[(0, Go.Operand.tmp 52), (1, Go.Operand.tmp 62)], type := 120, pos := "l18_plan.go:101", after := #[{ on := 7, ground := Go.Ground.data }, { on := 17, ground := Go.Ground.data }], guard := none }) (v := ?_) rfl (by kernel_rfl) (by kernel_rfl) (by kernel_rfl) (fun _ _ _ h => h) (Or.inl ⟨by rfl, ?_⟩) (by assumption) ?_
                          rotate_left
                          · (intro w hSw; (try dsimp only at hSw); go_simp <;> try with_reducible rfl)
                          try simp only [Act.put, List.setIfInBounds_toArray, List.set_cons_zero, List.set_cons_succ]
                          have y0 : V81.cell? ⟨ec, 0, none⟩ = some (.int .i64 0) := (E83.out.cell 0).trans rfl
                          have y1 : V81.cell? ⟨ec, 1, none⟩ = some (.slice none 0 0) := (E83.out.cell 1).trans rfl
                          have f0 := E83.out.fr 0
                          have f1 := E83.out.fr 1
                          have hE : Hid (CB ((V81.setCell ⟨ec, 0, none⟩ (.int .i64 (CF + su))).setCell ⟨ec, 1, none⟩ (.slice a9 (LF + 1) p9)) ec #[.int .i64 (CF + su), .slice a9 (LF + 1) p9] 120 ∧ MkR ((V81.setCell ⟨ec, 0, none⟩ (.int .i64 (CF + su))).setCell ⟨ec, 1, none⟩ (.slice a9 (LF + 1) p9)) wi.heap.size a9 (LF + 1) p9 (fun j => if j = LF then F else MF j)) := hid ⟨(E83.out.set 0 _).set 1 _, (E84.out.set E83.out (by decide) _).set (E83.out.set 0 _) (by decide) _⟩
                          have TF : Hid (Below wi.heap.size wi ((V81.setCell ⟨ec, 0, none⟩ (.int .i64 (CF + su))).setCell ⟨ec, 1, none⟩ (.slice a9 (LF + 1) p9)) ∧ wi.heap.size ≤ ec) := hid ⟨(T82.out.setCell (by show _ ≤ ec; exact G75.out) _).setCell (by show _ ≤ ec; exact G75.out) _, G75.out⟩
                          refine wpAnyH_ready (rs := [20]) (by kernel_rfl) (by simp) ?_
                          refine AllReadyH.cons (o := { dst := none, op := Go.Op.store 120 (Go.Operand.tmp 9) (Go.Operand.tmp 63), type := 0, pos := "l18_plan.go:101", after := #[{ on := 19, ground := Go.Ground.data }, { on := 18, ground := Go.Ground.data }, { on := 17, ground := Go.Ground.chain }, { on := 0, ground := Go.Ground.phase }, { on := 1, ground := Go.Ground.phase }, { on := 2, ground := Go.Ground.phase }, { on := 3, ground := Go.Ground.phase }, { on := 4, ground := Go.Ground.phase }, { on := 5, ground := Go.Ground.phase }, { on := 6, ground := Go.Ground.phase }, { on := 7, ground := Go.Ground.phase }, { on := 8, ground := Go.Ground.phase }, { on := 9, ground := Go.Ground.phase }, { on := 10, ground := Go.Ground.phase }, { on := 11, ground := Go.Ground.phase }, { on := 12, ground := Go.Ground.phase }, { on := 13, ground := Go.Ground.phase }, { on := 14, ground := Go.Ground.phase }, { on := 15, ground := Go.Ground.phase }, { on := 16, ground := Go.Ground.phase }, { on := 17, ground := Go.Ground.phase }, { on := 18, ground := Go.Ground.phase }, { on := 19, ground := Go.Ground.phase }], guard := none }) rfl (fun K hK => ?_) (AllReadyH.nil)
                          go_simp
                          refine hK.out _ _ (by exact SX.out _ TF.out.1) (fun hHeld => ?_)
                          clear hK K y0 y1 f0 f1
                          try simp only [Act.put, List.setIfInBounds_toArray, List.set_cons_zero, List.set_cons_succ]
                          refine wpAnyH_done (by kernel_rfl) ?_ _
                          refine NoPanic.normal ?_
                          clear hHeld
                          go_wp2_with fail
                          go_meet
                          exact ⟨ec, a9, p9, rfl, TF.out.2, TF.out.1, hE.out.1, hE.out.2⟩
                  · go_simp
                    have T86 := hid (T2.out.alloc T2.out.size (.cells #[.int .i64 0, .slice none 0 0] 120 (0, 0)))
                    have bb : Below V1.heap.size V1 (V1.alloc (.cells #[.int .i64 0, .slice none 0 0] 120 (0, 0))) := (Below.refl _ _).alloc (Nat.le_refl _) _
                    have E87 : Hid (CB (V1.alloc (.cells #[.int .i64 0, .slice none 0 0] 120 (0, 0))) V1.heap.size #[.int .i64 0, .slice none 0 0] 120) := hid (CB.new _ _)
                    have E88 := hid (ownsRow_below E3.out bb)
                    have G89 : Hid (wi.heap.size ≤ V1.heap.size) := hid T2.out.size
                    clear bb
                    refine hK.out _ _ (by exact SX.out _ T86.out) (fun hHeld => ?_)
                    clear hK K
                    try simp only [Act.put, List.setIfInBounds_toArray, List.set_cons_zero, List.set_cons_succ]
                    generalize (V1.alloc (.cells #[.int .i64 0, .slice none 0 0] 120 (0, 0))) = V85 at T86 E87 E88 ⊢
                    generalize V1.heap.size = ec at T86 E87 E88 G89 ⊢
                    refine wpAnyH_ready (rs := [14, 16]) (by kernel_rfl) (by simp) ?_
                    refine AllReadyH.cons (o := { dst := some 59, op := Go.Op.call { callee := Go.Callee.builtin Go.Builtin.append, args := #[Go.Operand.tmp 53, Go.Operand.tmp 58], argTypes := #[24, 24] }, type := 24, pos := "l18_plan.go:101", after := #[{ on := 8, ground := Go.Ground.data }, { on := 13, ground := Go.Ground.data }], guard := none }) rfl (fun K hK => ?_) (AllReadyH.cons (o := { dst := some 61, op := Go.Op.buildSlice 24 1 #[(0, Go.Operand.tmp 60)], type := 24, pos := "l18_plan.go:101", after := #[{ on := 15, ground := Go.Ground.data }], guard := none }) rfl (fun K hK => ?_) (AllReadyH.nil))
                    · rw [if_pos (by rfl)]
                      refine oper_marks (Operand.tmp 53) (Operand.tmp 58) 24 rfl wi.heap.size i0 Try.underlying24 hi hz0 hz1 hz2 (.slice (some ⟨ea, 0, none⟩) 0 0) rfl E88.out rfl (HMF.out.1.below T86.out) HMF.out.2 T86.out.size ?_
                      intro v7 V90 hown hgr
                      have T91 := hid (bel_grownO T86.out (Nat.le_refl _) E88.out (Nat.le_refl _) hgr)
                      have E92 := hid hown
                      have E93 := hid (cb_grown3 E87.out (by decide) E88.out hgr)
                      clear hown hgr
                      refine hK.out _ _ (by exact SX.out _ T91.out) (fun hHeld => ?_)
                      clear hK K
                      try simp only [Act.put, List.setIfInBounds_toArray, List.set_cons_zero, List.set_cons_succ]
                      refine wpAnyH_ready (rs := [16]) (by kernel_rfl) (by simp) ?_
                      refine AllReadyH.cons (o := { dst := some 61, op := Go.Op.buildSlice 24 1 #[(0, Go.Operand.tmp 60)], type := 24, pos := "l18_plan.go:101", after := #[{ on := 15, ground := Go.Ground.data }], guard := none }) rfl (fun K hK => ?_) (AllReadyH.nil)
                      · go_simp
                        have T95 := hid (T91.out.alloc T91.out.size (.cells #[.int .i64 (F : Int)] 3 (0, 0)))
                        have bb : Below V90.heap.size V90 (V90.alloc (.cells #[.int .i64 (F : Int)] 3 (0, 0))) := (Below.refl _ _).alloc (Nat.le_refl _) _
                        have E96 : Hid (CB (V90.alloc (.cells #[.int .i64 (F : Int)] 3 (0, 0))) V90.heap.size #[.int .i64 (F : Int)] 3) := hid (CB.new _ _)
                        have E97 := hid (ownsRow_below E92.out bb)
                        have E98 := hid (E93.out.below bb E93.out.lt)
                        clear bb
                        refine hK.out _ _ (by exact SX.out _ T95.out) (fun hHeld => ?_)
                        clear hK K
                        try simp only [Act.put, List.setIfInBounds_toArray, List.set_cons_zero, List.set_cons_succ]
                        generalize (V90.alloc (.cells #[.int .i64 (F : Int)] 3 (0, 0))) = V94 at T95 E96 E97 E98 ⊢
                        generalize V90.heap.size = eb at T95 E96 E97 E98 ⊢
                        refine wpAnyH_ready (rs := [17]) (by kernel_rfl) (by simp) ?_
                        refine AllReadyH.cons (o := { dst := some 62, op := Go.Op.call { callee := Go.Callee.builtin Go.Builtin.append, args := #[Go.Operand.tmp 59, Go.Operand.tmp 61], argTypes := #[24, 24] }, type := 24, pos := "l18_plan.go:101", after := #[{ on := 14, ground := Go.Ground.data }, { on := 16, ground := Go.Ground.data }, { on := 14, ground := Go.Ground.chain }], guard := none }) rfl (fun K hK => ?_) (AllReadyH.nil)
                        · rw [if_pos (by rfl)]
                          refine oper_app (Operand.tmp 59) (Operand.tmp 61) 24 rfl wi.heap.size 3 i0 (.int .i64 0) 1 8 Try.underlying24 hi hz0 hz1 hz2 rfl (by decide) v7 LF (intR (fun j => (MF j : Int)) LF) rfl E97.out ⟨eb, 0, none⟩ 1 1 [.int .i64 (F : Int)] rfl rfl (cb_srcM E96.out) (fun u hu => by simp at hu; subst hu; rfl) (by have := HMF.out.2; unfold maxLen; omega) (by have := HMF.out.2; omega) T95.out.size ?_
                          intro v8 V99 hown hgr
                          have T100 := hid (bel_grownO T95.out (Nat.le_refl _) E97.out (Nat.le_refl _) hgr)
                          have E101 := hid (cb_grown3 E98.out (by decide) E97.out hgr)
                          obtain ⟨a9, p9, rfl, hm9⟩ := MkR.of (mk := fun j => if j = LF then F else MF j) hown (marks_add MF LF F)
                          have E102 := hid hm9
                          clear hown hgr hm9
                          refine hK.out _ _ (by exact SX.out _ T100.out) (fun hHeld => ?_)
                          clear hK K
                          try simp only [Act.put, List.setIfInBounds_toArray, List.set_cons_zero, List.set_cons_succ]
                          refine wpAnyH_take (i := 18) (oi := { dst := some 63, op := Go.Op.build 120 #[(0, Go.Operand.tmp 52), (1, Go.Operand.tmp 62)], type := 120, pos := "l18_plan.go:101", after := #[{ on := 7, ground := Go.Ground.data }, { on := 17, ground := Go.Ground.data }], guard := none }) (v := ?_) rfl (by kernel_rfl) (by kernel_rfl) (by kernel_rfl) (fun _ _ _ h => h) (Or.inl ⟨by rfl, ?_⟩) (by assumption) ?_
                          rotate_left
                          · (intro w hSw; (try dsimp only at hSw); go_simp <;> try with_reducible rfl)
                          try simp only [Act.put, List.setIfInBounds_toArray, List.set_cons_zero, List.set_cons_succ]
                          have y0 : V99.cell? ⟨ec, 0, none⟩ = some (.int .i64 0) := (E101.out.cell 0).trans rfl
                          have y1 : V99.cell? ⟨ec, 1, none⟩ = some (.slice none 0 0) := (E101.out.cell 1).trans rfl
                          have f0 := E101.out.fr 0
                          have f1 := E101.out.fr 1
                          have hE : Hid (CB ((V99.setCell ⟨ec, 0, none⟩ (.int .i64 (CF + su))).setCell ⟨ec, 1, none⟩ (.slice a9 (LF + 1) p9)) ec #[.int .i64 (CF + su), .slice a9 (LF + 1) p9] 120 ∧ MkR ((V99.setCell ⟨ec, 0, none⟩ (.int .i64 (CF + su))).setCell ⟨ec, 1, none⟩ (.slice a9 (LF + 1) p9)) wi.heap.size a9 (LF + 1) p9 (fun j => if j = LF then F else MF j)) := hid ⟨(E101.out.set 0 _).set 1 _, (E102.out.set E101.out (by decide) _).set (E101.out.set 0 _) (by decide) _⟩
                          have TF : Hid (Below wi.heap.size wi ((V99.setCell ⟨ec, 0, none⟩ (.int .i64 (CF + su))).setCell ⟨ec, 1, none⟩ (.slice a9 (LF + 1) p9)) ∧ wi.heap.size ≤ ec) := hid ⟨(T100.out.setCell (by show _ ≤ ec; exact G89.out) _).setCell (by show _ ≤ ec; exact G89.out) _, G89.out⟩
                          refine wpAnyH_ready (rs := [20]) (by kernel_rfl) (by simp) ?_
                          refine AllReadyH.cons (o := { dst := none, op := Go.Op.store 120 (Go.Operand.tmp 9) (Go.Operand.tmp 63), type := 0, pos := "l18_plan.go:101", after := #[{ on := 19, ground := Go.Ground.data }, { on := 18, ground := Go.Ground.data }, { on := 17, ground := Go.Ground.chain }, { on := 0, ground := Go.Ground.phase }, { on := 1, ground := Go.Ground.phase }, { on := 2, ground := Go.Ground.phase }, { on := 3, ground := Go.Ground.phase }, { on := 4, ground := Go.Ground.phase }, { on := 5, ground := Go.Ground.phase }, { on := 6, ground := Go.Ground.phase }, { on := 7, ground := Go.Ground.phase }, { on := 8, ground := Go.Ground.phase }, { on := 9, ground := Go.Ground.phase }, { on := 10, ground := Go.Ground.phase }, { on := 11, ground := Go.Ground.phase }, { on := 12, ground := Go.Ground.phase }, { on := 13, ground := Go.Ground.phase }, { on := 14, ground := Go.Ground.phase }, { on := 15, ground := Go.Ground.phase }, { on := 16, ground := Go.Ground.phase }, { on := 17, ground := Go.Ground.phase }, { on := 18, ground := Go.Ground.phase }, { on := 19, ground := Go.Ground.phase }], guard := none }) rfl (fun K hK => ?_) (AllReadyH.nil)
                          go_simp
                          refine hK.out _ _ (by exact SX.out _ TF.out.1) (fun hHeld => ?_)
                          clear hK K y0 y1 f0 f1
                          try simp only [Act.put, List.setIfInBounds_toArray, List.set_cons_zero, List.set_cons_succ]
                          refine wpAnyH_done (by kernel_rfl) ?_ _
                          refine NoPanic.normal ?_
                          clear hHeld
                          go_wp2_with fail
                          go_meet
                          exact ⟨ec, a9, p9, rfl, TF.out.2, TF.out.1, hE.out.1, hE.out.2⟩
                    · go_simp
                      have T104 := hid (T86.out.alloc T86.out.size (.cells #[.int .i64 (F : Int)] 3 (0, 0)))
                      have bb : Below V85.heap.size V85 (V85.alloc (.cells #[.int .i64 (F : Int)] 3 (0, 0))) := (Below.refl _ _).alloc (Nat.le_refl _) _
                      have E105 : Hid (CB (V85.alloc (.cells #[.int .i64 (F : Int)] 3 (0, 0))) V85.heap.size #[.int .i64 (F : Int)] 3) := hid (CB.new _ _)
                      have E106 := hid (ownsRow_below E88.out bb)
                      have E107 := hid (E87.out.below bb E87.out.lt)
                      have N108 : Hid (ea ≠ V85.heap.size) := hid (by have := madeI_cb E88.out; omega)
                      clear bb
                      refine hK.out _ _ (by exact SX.out _ T104.out) (fun hHeld => ?_)
                      clear hK K
                      try simp only [Act.put, List.setIfInBounds_toArray, List.set_cons_zero, List.set_cons_succ]
                      generalize (V85.alloc (.cells #[.int .i64 (F : Int)] 3 (0, 0))) = V103 at T104 E105 E106 E107 ⊢
                      generalize V85.heap.size = eb at T104 E105 E106 E107 N108 ⊢
                      refine wpAnyH_ready (rs := [14]) (by kernel_rfl) (by simp) ?_
                      refine AllReadyH.cons (o := { dst := some 59, op := Go.Op.call { callee := Go.Callee.builtin Go.Builtin.append, args := #[Go.Operand.tmp 53, Go.Operand.tmp 58], argTypes := #[24, 24] }, type := 24, pos := "l18_plan.go:101", after := #[{ on := 8, ground := Go.Ground.data }, { on := 13, ground := Go.Ground.data }], guard := none }) rfl (fun K hK => ?_) (AllReadyH.nil)
                      · rw [if_pos (by rfl)]
                        refine oper_marks (Operand.tmp 53) (Operand.tmp 58) 24 rfl wi.heap.size i0 Try.underlying24 hi hz0 hz1 hz2 (.slice (some ⟨ea, 0, none⟩) 0 0) rfl E106.out rfl (HMF.out.1.below T104.out) HMF.out.2 T104.out.size ?_
                        intro v7 V109 hown hgr
                        have T110 := hid (bel_grownO T104.out (Nat.le_refl _) E106.out (Nat.le_refl _) hgr)
                        have E111 := hid hown
                        have E112 := hid (E105.out.keep (hgr.block eb E105.out.lt (fun q => N108.out (by simpa [Value.ownBlock] using q.symm))))
                        have E113 := hid (cb_grown3 E107.out (by decide) E106.out hgr)
                        clear hown hgr
                        refine hK.out _ _ (by exact SX.out _ T110.out) (fun hHeld => ?_)
                        clear hK K
                        try simp only [Act.put, List.setIfInBounds_toArray, List.set_cons_zero, List.set_cons_succ]
                        refine wpAnyH_ready (rs := [17]) (by kernel_rfl) (by simp) ?_
                        refine AllReadyH.cons (o := { dst := some 62, op := Go.Op.call { callee := Go.Callee.builtin Go.Builtin.append, args := #[Go.Operand.tmp 59, Go.Operand.tmp 61], argTypes := #[24, 24] }, type := 24, pos := "l18_plan.go:101", after := #[{ on := 14, ground := Go.Ground.data }, { on := 16, ground := Go.Ground.data }, { on := 14, ground := Go.Ground.chain }], guard := none }) rfl (fun K hK => ?_) (AllReadyH.nil)
                        · rw [if_pos (by rfl)]
                          refine oper_app (Operand.tmp 59) (Operand.tmp 61) 24 rfl wi.heap.size 3 i0 (.int .i64 0) 1 8 Try.underlying24 hi hz0 hz1 hz2 rfl (by decide) v7 LF (intR (fun j => (MF j : Int)) LF) rfl E111.out ⟨eb, 0, none⟩ 1 1 [.int .i64 (F : Int)] rfl rfl (cb_srcM E112.out) (fun u hu => by simp at hu; subst hu; rfl) (by have := HMF.out.2; unfold maxLen; omega) (by have := HMF.out.2; omega) T110.out.size ?_
                          intro v8 V114 hown hgr
                          have T115 := hid (bel_grownO T110.out (Nat.le_refl _) E111.out (Nat.le_refl _) hgr)
                          have E116 := hid (cb_grown3 E113.out (by decide) E111.out hgr)
                          obtain ⟨a9, p9, rfl, hm9⟩ := MkR.of (mk := fun j => if j = LF then F else MF j) hown (marks_add MF LF F)
                          have E117 := hid hm9
                          clear hown hgr hm9
                          refine hK.out _ _ (by exact SX.out _ T115.out) (fun hHeld => ?_)
                          clear hK K
                          try simp only [Act.put, List.setIfInBounds_toArray, List.set_cons_zero, List.set_cons_succ]
                          refine wpAnyH_take (i := 18) (oi := { dst := some 63, op := Go.Op.build 120 #[(0, Go.Operand.tmp 52), (1, Go.Operand.tmp 62)], type := 120, pos := "l18_plan.go:101", after := #[{ on := 7, ground := Go.Ground.data }, { on := 17, ground := Go.Ground.data }], guard := none }) (v := ?_) rfl (by kernel_rfl) (by kernel_rfl) (by kernel_rfl) (fun _ _ _ h => h) (Or.inl ⟨by rfl, ?_⟩) (by assumption) ?_
                          rotate_left
                          · (intro w hSw; (try dsimp only at hSw); go_simp <;> try with_reducible rfl)
                          try simp only [Act.put, List.setIfInBounds_toArray, List.set_cons_zero, List.set_cons_succ]
                          have y0 : V114.cell? ⟨ec, 0, none⟩ = some (.int .i64 0) := (E116.out.cell 0).trans rfl
                          have y1 : V114.cell? ⟨ec, 1, none⟩ = some (.slice none 0 0) := (E116.out.cell 1).trans rfl
                          have f0 := E116.out.fr 0
                          have f1 := E116.out.fr 1
                          have hE : Hid (CB ((V114.setCell ⟨ec, 0, none⟩ (.int .i64 (CF + su))).setCell ⟨ec, 1, none⟩ (.slice a9 (LF + 1) p9)) ec #[.int .i64 (CF + su), .slice a9 (LF + 1) p9] 120 ∧ MkR ((V114.setCell ⟨ec, 0, none⟩ (.int .i64 (CF + su))).setCell ⟨ec, 1, none⟩ (.slice a9 (LF + 1) p9)) wi.heap.size a9 (LF + 1) p9 (fun j => if j = LF then F else MF j)) := hid ⟨(E116.out.set 0 _).set 1 _, (E117.out.set E116.out (by decide) _).set (E116.out.set 0 _) (by decide) _⟩
                          have TF : Hid (Below wi.heap.size wi ((V114.setCell ⟨ec, 0, none⟩ (.int .i64 (CF + su))).setCell ⟨ec, 1, none⟩ (.slice a9 (LF + 1) p9)) ∧ wi.heap.size ≤ ec) := hid ⟨(T115.out.setCell (by show _ ≤ ec; exact G89.out) _).setCell (by show _ ≤ ec; exact G89.out) _, G89.out⟩
                          refine wpAnyH_ready (rs := [20]) (by kernel_rfl) (by simp) ?_
                          refine AllReadyH.cons (o := { dst := none, op := Go.Op.store 120 (Go.Operand.tmp 9) (Go.Operand.tmp 63), type := 0, pos := "l18_plan.go:101", after := #[{ on := 19, ground := Go.Ground.data }, { on := 18, ground := Go.Ground.data }, { on := 17, ground := Go.Ground.chain }, { on := 0, ground := Go.Ground.phase }, { on := 1, ground := Go.Ground.phase }, { on := 2, ground := Go.Ground.phase }, { on := 3, ground := Go.Ground.phase }, { on := 4, ground := Go.Ground.phase }, { on := 5, ground := Go.Ground.phase }, { on := 6, ground := Go.Ground.phase }, { on := 7, ground := Go.Ground.phase }, { on := 8, ground := Go.Ground.phase }, { on := 9, ground := Go.Ground.phase }, { on := 10, ground := Go.Ground.phase }, { on := 11, ground := Go.Ground.phase }, { on := 12, ground := Go.Ground.phase }, { on := 13, ground := Go.Ground.phase }, { on := 14, ground := Go.Ground.phase }, { on := 15, ground := Go.Ground.phase }, { on := 16, ground := Go.Ground.phase }, { on := 17, ground := Go.Ground.phase }, { on := 18, ground := Go.Ground.phase }, { on := 19, ground := Go.Ground.phase }], guard := none }) rfl (fun K hK => ?_) (AllReadyH.nil)
                          go_simp
                          refine hK.out _ _ (by exact SX.out _ TF.out.1) (fun hHeld => ?_)
                          clear hK K y0 y1 f0 f1
                          try simp only [Act.put, List.setIfInBounds_toArray, List.set_cons_zero, List.set_cons_succ]
                          refine wpAnyH_done (by kernel_rfl) ?_ _
                          refine NoPanic.normal ?_
                          clear hHeld
                          go_wp2_with fail
                          go_meet
                          exact ⟨ec, a9, p9, rfl, TF.out.2, TF.out.1, hE.out.1, hE.out.2⟩
                · go_simp
                  have T119 := hid (TD.out.alloc TD.out.size (.cells #[.int .i64 (F : Int)] 3 (0, 0)))
                  have bb : Below VD.heap.size VD (VD.alloc (.cells #[.int .i64 (F : Int)] 3 (0, 0))) := (Below.refl _ _).alloc (Nat.le_refl _) _
                  have E120 : Hid (CB (VD.alloc (.cells #[.int .i64 (F : Int)] 3 (0, 0))) VD.heap.size #[.int .i64 (F : Int)] 3) := hid (CB.new _ _)
                  clear bb
                  refine hK.out _ _ (by exact SX.out _ T119.out) (fun hHeld => ?_)
                  clear hK K
                  try simp only [Act.put, List.setIfInBounds_toArray, List.set_cons_zero, List.set_cons_succ]
                  generalize (VD.alloc (.cells #[.int .i64 (F : Int)] 3 (0, 0))) = V118 at T119 E120 ⊢
                  generalize VD.heap.size = eb at T119 E120 ⊢
                  refine wpAnyH_ready (rs := [8, 19]) (by kernel_rfl) (by simp) ?_
                  refine AllReadyH.cons (o := { dst := some 53, op := Go.Op.buildSlice 24 0 #[], type := 24, pos := "l18_plan.go:101", after := #[], guard := none }) rfl (fun K hK => ?_) (AllReadyH.cons (o := { dst := some 9, op := Go.Op.alloc 120, type := 0, pos := "l18_plan.go:101", after := #[], guard := none }) rfl (fun K hK => ?_) (AllReadyH.nil))
                  · go_simp
                    have T122 := hid (T119.out.alloc T119.out.size (.cells #[] 3 (0, 0)))
                    have bb : Below V118.heap.size V118 (V118.alloc (.cells #[] 3 (0, 0))) := (Below.refl _ _).alloc (Nat.le_refl _) _
                    have E123 : Hid ((V118.alloc (.cells #[] 3 (0, 0))).ownsRow wi.heap.size 3 1 (.slice (some ⟨V118.heap.size, 0, none⟩) 0 0) 0 []) := hid (madeI (CB.new _ _) T119.out.size)
                    have E124 := hid (E120.out.below bb E120.out.lt)
                    have N125 : Hid (V118.heap.size ≠ eb) := hid (by have := E120.out.lt; omega)
                    clear bb
                    refine hK.out _ _ (by exact SX.out _ T122.out) (fun hHeld => ?_)
                    clear hK K
                    try simp only [Act.put, List.setIfInBounds_toArray, List.set_cons_zero, List.set_cons_succ]
                    generalize (V118.alloc (.cells #[] 3 (0, 0))) = V121 at T122 E123 E124 ⊢
                    generalize V118.heap.size = ea at T122 E123 E124 N125 ⊢
                    refine wpAnyH_ready (rs := [14, 19]) (by kernel_rfl) (by simp) ?_
                    refine AllReadyH.cons (o := { dst := some 59, op := Go.Op.call { callee := Go.Callee.builtin Go.Builtin.append, args := #[Go.Operand.tmp 53, Go.Operand.tmp 58], argTypes := #[24, 24] }, type := 24, pos := "l18_plan.go:101", after := #[{ on := 8, ground := Go.Ground.data }, { on := 13, ground := Go.Ground.data }], guard := none }) rfl (fun K hK => ?_) (AllReadyH.cons (o := { dst := some 9, op := Go.Op.alloc 120, type := 0, pos := "l18_plan.go:101", after := #[], guard := none }) rfl (fun K hK => ?_) (AllReadyH.nil))
                    · rw [if_pos (by rfl)]
                      refine oper_marks (Operand.tmp 53) (Operand.tmp 58) 24 rfl wi.heap.size i0 Try.underlying24 hi hz0 hz1 hz2 (.slice (some ⟨ea, 0, none⟩) 0 0) rfl E123.out rfl (HMF.out.1.below T122.out) HMF.out.2 T122.out.size ?_
                      intro v7 V126 hown hgr
                      have T127 := hid (bel_grownO T122.out (Nat.le_refl _) E123.out (Nat.le_refl _) hgr)
                      have E128 := hid hown
                      have E129 := hid (E124.out.keep (hgr.block eb E124.out.lt (fun q => N125.out (by simpa [Value.ownBlock] using q.symm))))
                      clear hown hgr
                      refine hK.out _ _ (by exact SX.out _ T127.out) (fun hHeld => ?_)
                      clear hK K
                      try simp only [Act.put, List.setIfInBounds_toArray, List.set_cons_zero, List.set_cons_succ]
                      refine wpAnyH_ready (rs := [17, 19]) (by kernel_rfl) (by simp) ?_
                      refine AllReadyH.cons (o := { dst := some 62, op := Go.Op.call { callee := Go.Callee.builtin Go.Builtin.append, args := #[Go.Operand.tmp 59, Go.Operand.tmp 61], argTypes := #[24, 24] }, type := 24, pos := "l18_plan.go:101", after := #[{ on := 14, ground := Go.Ground.data }, { on := 16, ground := Go.Ground.data }, { on := 14, ground := Go.Ground.chain }], guard := none }) rfl (fun K hK => ?_) (AllReadyH.cons (o := { dst := some 9, op := Go.Op.alloc 120, type := 0, pos := "l18_plan.go:101", after := #[], guard := none }) rfl (fun K hK => ?_) (AllReadyH.nil))
                      · rw [if_pos (by rfl)]
                        refine oper_app (Operand.tmp 59) (Operand.tmp 61) 24 rfl wi.heap.size 3 i0 (.int .i64 0) 1 8 Try.underlying24 hi hz0 hz1 hz2 rfl (by decide) v7 LF (intR (fun j => (MF j : Int)) LF) rfl E128.out ⟨eb, 0, none⟩ 1 1 [.int .i64 (F : Int)] rfl rfl (cb_srcM E129.out) (fun u hu => by simp at hu; subst hu; rfl) (by have := HMF.out.2; unfold maxLen; omega) (by have := HMF.out.2; omega) T127.out.size ?_
                        intro v8 V130 hown hgr
                        have T131 := hid (bel_grownO T127.out (Nat.le_refl _) E128.out (Nat.le_refl _) hgr)
                        obtain ⟨a9, p9, rfl, hm9⟩ := MkR.of (mk := fun j => if j = LF then F else MF j) hown (marks_add MF LF F)
                        have E132 := hid hm9
                        clear hown hgr hm9
                        refine hK.out _ _ (by exact SX.out _ T131.out) (fun hHeld => ?_)
                        clear hK K
                        try simp only [Act.put, List.setIfInBounds_toArray, List.set_cons_zero, List.set_cons_succ]
                        refine wpAnyH_take (i := 18) (oi := { dst := some 63, op := Go.Op.build 120 #[(0, Go.Operand.tmp 52), (1, Go.Operand.tmp 62)], type := 120, pos := "l18_plan.go:101", after := #[{ on := 7, ground := Go.Ground.data }, { on := 17, ground := Go.Ground.data }], guard := none }) (v := ?_) rfl (by kernel_rfl) (by kernel_rfl) (by kernel_rfl) (fun _ _ _ h => h) (Or.inl ⟨by rfl, ?_⟩) (by assumption) ?_
                        rotate_left
                        · (intro w hSw; (try dsimp only at hSw); go_simp <;> try with_reducible rfl)
                        try simp only [Act.put, List.setIfInBounds_toArray, List.set_cons_zero, List.set_cons_succ]
                        refine wpAnyH_ready (rs := [19]) (by kernel_rfl) (by simp) ?_
                        refine AllReadyH.cons (o := { dst := some 9, op := Go.Op.alloc 120, type := 0, pos := "l18_plan.go:101", after := #[], guard := none }) rfl (fun K hK => ?_) (AllReadyH.nil)
                        · go_simp
                          have T134 := hid (T131.out.alloc T131.out.size (.cells #[.int .i64 0, .slice none 0 0] 120 (0, 0)))
                          have bb : Below V130.heap.size V130 (V130.alloc (.cells #[.int .i64 0, .slice none 0 0] 120 (0, 0))) := (Below.refl _ _).alloc (Nat.le_refl _) _
                          have E135 : Hid (CB (V130.alloc (.cells #[.int .i64 0, .slice none 0 0] 120 (0, 0))) V130.heap.size #[.int .i64 0, .slice none 0 0] 120) := hid (CB.new _ _)
                          have E136 := hid (E132.out.below bb)
                          have G137 : Hid (wi.heap.size ≤ V130.heap.size) := hid T131.out.size
                          clear bb
                          refine hK.out _ _ (by exact SX.out _ T134.out) (fun hHeld => ?_)
                          clear hK K
                          try simp only [Act.put, List.setIfInBounds_toArray, List.set_cons_zero, List.set_cons_succ]
                          generalize (V130.alloc (.cells #[.int .i64 0, .slice none 0 0] 120 (0, 0))) = V133 at T134 E135 E136 ⊢
                          generalize V130.heap.size = ec at T134 E135 E136 G137 ⊢
                          have y0 : V133.cell? ⟨ec, 0, none⟩ = some (.int .i64 0) := (E135.out.cell 0).trans rfl
                          have y1 : V133.cell? ⟨ec, 1, none⟩ = some (.slice none 0 0) := (E135.out.cell 1).trans rfl
                          have f0 := E135.out.fr 0
                          have f1 := E135.out.fr 1
                          have hE : Hid (CB ((V133.setCell ⟨ec, 0, none⟩ (.int .i64 (CF + su))).setCell ⟨ec, 1, none⟩ (.slice a9 (LF + 1) p9)) ec #[.int .i64 (CF + su), .slice a9 (LF + 1) p9] 120 ∧ MkR ((V133.setCell ⟨ec, 0, none⟩ (.int .i64 (CF + su))).setCell ⟨ec, 1, none⟩ (.slice a9 (LF + 1) p9)) wi.heap.size a9 (LF + 1) p9 (fun j => if j = LF then F else MF j)) := hid ⟨(E135.out.set 0 _).set 1 _, (E136.out.set E135.out (by decide) _).set (E135.out.set 0 _) (by decide) _⟩
                          have TF : Hid (Below wi.heap.size wi ((V133.setCell ⟨ec, 0, none⟩ (.int .i64 (CF + su))).setCell ⟨ec, 1, none⟩ (.slice a9 (LF + 1) p9)) ∧ wi.heap.size ≤ ec) := hid ⟨(T134.out.setCell (by show _ ≤ ec; exact G137.out) _).setCell (by show _ ≤ ec; exact G137.out) _, G137.out⟩
                          refine wpAnyH_ready (rs := [20]) (by kernel_rfl) (by simp) ?_
                          refine AllReadyH.cons (o := { dst := none, op := Go.Op.store 120 (Go.Operand.tmp 9) (Go.Operand.tmp 63), type := 0, pos := "l18_plan.go:101", after := #[{ on := 19, ground := Go.Ground.data }, { on := 18, ground := Go.Ground.data }, { on := 17, ground := Go.Ground.chain }, { on := 0, ground := Go.Ground.phase }, { on := 1, ground := Go.Ground.phase }, { on := 2, ground := Go.Ground.phase }, { on := 3, ground := Go.Ground.phase }, { on := 4, ground := Go.Ground.phase }, { on := 5, ground := Go.Ground.phase }, { on := 6, ground := Go.Ground.phase }, { on := 7, ground := Go.Ground.phase }, { on := 8, ground := Go.Ground.phase }, { on := 9, ground := Go.Ground.phase }, { on := 10, ground := Go.Ground.phase }, { on := 11, ground := Go.Ground.phase }, { on := 12, ground := Go.Ground.phase }, { on := 13, ground := Go.Ground.phase }, { on := 14, ground := Go.Ground.phase }, { on := 15, ground := Go.Ground.phase }, { on := 16, ground := Go.Ground.phase }, { on := 17, ground := Go.Ground.phase }, { on := 18, ground := Go.Ground.phase }, { on := 19, ground := Go.Ground.phase }], guard := none }) rfl (fun K hK => ?_) (AllReadyH.nil)
                          go_simp
                          refine hK.out _ _ (by exact SX.out _ TF.out.1) (fun hHeld => ?_)
                          clear hK K y0 y1 f0 f1
                          try simp only [Act.put, List.setIfInBounds_toArray, List.set_cons_zero, List.set_cons_succ]
                          refine wpAnyH_done (by kernel_rfl) ?_ _
                          refine NoPanic.normal ?_
                          clear hHeld
                          go_wp2_with fail
                          go_meet
                          exact ⟨ec, a9, p9, rfl, TF.out.2, TF.out.1, hE.out.1, hE.out.2⟩
                      · go_simp
                        have T139 := hid (T127.out.alloc T127.out.size (.cells #[.int .i64 0, .slice none 0 0] 120 (0, 0)))
                        have bb : Below V126.heap.size V126 (V126.alloc (.cells #[.int .i64 0, .slice none 0 0] 120 (0, 0))) := (Below.refl _ _).alloc (Nat.le_refl _) _
                        have E140 : Hid (CB (V126.alloc (.cells #[.int .i64 0, .slice none 0 0] 120 (0, 0))) V126.heap.size #[.int .i64 0, .slice none 0 0] 120) := hid (CB.new _ _)
                        have E141 := hid (ownsRow_below E128.out bb)
                        have E142 := hid (E129.out.below bb E129.out.lt)
                        have G143 : Hid (wi.heap.size ≤ V126.heap.size) := hid T127.out.size
                        clear bb
                        refine hK.out _ _ (by exact SX.out _ T139.out) (fun hHeld => ?_)
                        clear hK K
                        try simp only [Act.put, List.setIfInBounds_toArray, List.set_cons_zero, List.set_cons_succ]
                        generalize (V126.alloc (.cells #[.int .i64 0, .slice none 0 0] 120 (0, 0))) = V138 at T139 E140 E141 E142 ⊢
                        generalize V126.heap.size = ec at T139 E140 E141 E142 G143 ⊢
                        refine wpAnyH_ready (rs := [17]) (by kernel_rfl) (by simp) ?_
                        refine AllReadyH.cons (o := { dst := some 62, op := Go.Op.call { callee := Go.Callee.builtin Go.Builtin.append, args := #[Go.Operand.tmp 59, Go.Operand.tmp 61], argTypes := #[24, 24] }, type := 24, pos := "l18_plan.go:101", after := #[{ on := 14, ground := Go.Ground.data }, { on := 16, ground := Go.Ground.data }, { on := 14, ground := Go.Ground.chain }], guard := none }) rfl (fun K hK => ?_) (AllReadyH.nil)
                        · rw [if_pos (by rfl)]
                          refine oper_app (Operand.tmp 59) (Operand.tmp 61) 24 rfl wi.heap.size 3 i0 (.int .i64 0) 1 8 Try.underlying24 hi hz0 hz1 hz2 rfl (by decide) v7 LF (intR (fun j => (MF j : Int)) LF) rfl E141.out ⟨eb, 0, none⟩ 1 1 [.int .i64 (F : Int)] rfl rfl (cb_srcM E142.out) (fun u hu => by simp at hu; subst hu; rfl) (by have := HMF.out.2; unfold maxLen; omega) (by have := HMF.out.2; omega) T139.out.size ?_
                          intro v8 V144 hown hgr
                          have T145 := hid (bel_grownO T139.out (Nat.le_refl _) E141.out (Nat.le_refl _) hgr)
                          have E146 := hid (cb_grown3 E140.out (by decide) E141.out hgr)
                          obtain ⟨a9, p9, rfl, hm9⟩ := MkR.of (mk := fun j => if j = LF then F else MF j) hown (marks_add MF LF F)
                          have E147 := hid hm9
                          clear hown hgr hm9
                          refine hK.out _ _ (by exact SX.out _ T145.out) (fun hHeld => ?_)
                          clear hK K
                          try simp only [Act.put, List.setIfInBounds_toArray, List.set_cons_zero, List.set_cons_succ]
                          refine wpAnyH_take (i := 18) (oi := { dst := some 63, op := Go.Op.build 120 #[(0, Go.Operand.tmp 52), (1, Go.Operand.tmp 62)], type := 120, pos := "l18_plan.go:101", after := #[{ on := 7, ground := Go.Ground.data }, { on := 17, ground := Go.Ground.data }], guard := none }) (v := ?_) rfl (by kernel_rfl) (by kernel_rfl) (by kernel_rfl) (fun _ _ _ h => h) (Or.inl ⟨by rfl, ?_⟩) (by assumption) ?_
                          rotate_left
                          · (intro w hSw; (try dsimp only at hSw); go_simp <;> try with_reducible rfl)
                          try simp only [Act.put, List.setIfInBounds_toArray, List.set_cons_zero, List.set_cons_succ]
                          have y0 : V144.cell? ⟨ec, 0, none⟩ = some (.int .i64 0) := (E146.out.cell 0).trans rfl
                          have y1 : V144.cell? ⟨ec, 1, none⟩ = some (.slice none 0 0) := (E146.out.cell 1).trans rfl
                          have f0 := E146.out.fr 0
                          have f1 := E146.out.fr 1
                          have hE : Hid (CB ((V144.setCell ⟨ec, 0, none⟩ (.int .i64 (CF + su))).setCell ⟨ec, 1, none⟩ (.slice a9 (LF + 1) p9)) ec #[.int .i64 (CF + su), .slice a9 (LF + 1) p9] 120 ∧ MkR ((V144.setCell ⟨ec, 0, none⟩ (.int .i64 (CF + su))).setCell ⟨ec, 1, none⟩ (.slice a9 (LF + 1) p9)) wi.heap.size a9 (LF + 1) p9 (fun j => if j = LF then F else MF j)) := hid ⟨(E146.out.set 0 _).set 1 _, (E147.out.set E146.out (by decide) _).set (E146.out.set 0 _) (by decide) _⟩
                          have TF : Hid (Below wi.heap.size wi ((V144.setCell ⟨ec, 0, none⟩ (.int .i64 (CF + su))).setCell ⟨ec, 1, none⟩ (.slice a9 (LF + 1) p9)) ∧ wi.heap.size ≤ ec) := hid ⟨(T145.out.setCell (by show _ ≤ ec; exact G143.out) _).setCell (by show _ ≤ ec; exact G143.out) _, G143.out⟩
                          refine wpAnyH_ready (rs := [20]) (by kernel_rfl) (by simp) ?_
                          refine AllReadyH.cons (o := { dst := none, op := Go.Op.store 120 (Go.Operand.tmp 9) (Go.Operand.tmp 63), type := 0, pos := "l18_plan.go:101", after := #[{ on := 19, ground := Go.Ground.data }, { on := 18, ground := Go.Ground.data }, { on := 17, ground := Go.Ground.chain }, { on := 0, ground := Go.Ground.phase }, { on := 1, ground := Go.Ground.phase }, { on := 2, ground := Go.Ground.phase }, { on := 3, ground := Go.Ground.phase }, { on := 4, ground := Go.Ground.phase }, { on := 5, ground := Go.Ground.phase }, { on := 6, ground := Go.Ground.phase }, { on := 7, ground := Go.Ground.phase }, { on := 8, ground := Go.Ground.phase }, { on := 9, ground := Go.Ground.phase }, { on := 10, ground := Go.Ground.phase }, { on := 11, ground := Go.Ground.phase }, { on := 12, ground := Go.Ground.phase }, { on := 13, ground := Go.Ground.phase }, { on := 14, ground := Go.Ground.phase }, { on := 15, ground := Go.Ground.phase }, { on := 16, ground := Go.Ground.phase }, { on := 17, ground := Go.Ground.phase }, { on := 18, ground := Go.Ground.phase }, { on := 19, ground := Go.Ground.phase }], guard := none }) rfl (fun K hK => ?_) (AllReadyH.nil)
                          go_simp
                          refine hK.out _ _ (by exact SX.out _ TF.out.1) (fun hHeld => ?_)
                          clear hK K y0 y1 f0 f1
                          try simp only [Act.put, List.setIfInBounds_toArray, List.set_cons_zero, List.set_cons_succ]
                          refine wpAnyH_done (by kernel_rfl) ?_ _
                          refine NoPanic.normal ?_
                          clear hHeld
                          go_wp2_with fail
                          go_meet
                          exact ⟨ec, a9, p9, rfl, TF.out.2, TF.out.1, hE.out.1, hE.out.2⟩
                    · go_simp
                      have T149 := hid (T122.out.alloc T122.out.size (.cells #[.int .i64 0, .slice none 0 0] 120 (0, 0)))
                      have bb : Below V121.heap.size V121 (V121.alloc (.cells #[.int .i64 0, .slice none 0 0] 120 (0, 0))) := (Below.refl _ _).alloc (Nat.le_refl _) _
                      have E150 : Hid (CB (V121.alloc (.cells #[.int .i64 0, .slice none 0 0] 120 (0, 0))) V121.heap.size #[.int .i64 0, .slice none 0 0] 120) := hid (CB.new _ _)
                      have E151 := hid (ownsRow_below E123.out bb)
                      have E152 := hid (E124.out.below bb E124.out.lt)
                      have G153 : Hid (wi.heap.size ≤ V121.heap.size) := hid T122.out.size
                      clear bb
                      refine hK.out _ _ (by exact SX.out _ T149.out) (fun hHeld => ?_)
                      clear hK K
                      try simp only [Act.put, List.setIfInBounds_toArray, List.set_cons_zero, List.set_cons_succ]
                      generalize (V121.alloc (.cells #[.int .i64 0, .slice none 0 0] 120 (0, 0))) = V148 at T149 E150 E151 E152 ⊢
                      generalize V121.heap.size = ec at T149 E150 E151 E152 G153 ⊢
                      refine wpAnyH_ready (rs := [14]) (by kernel_rfl) (by simp) ?_
                      refine AllReadyH.cons (o := { dst := some 59, op := Go.Op.call { callee := Go.Callee.builtin Go.Builtin.append, args := #[Go.Operand.tmp 53, Go.Operand.tmp 58], argTypes := #[24, 24] }, type := 24, pos := "l18_plan.go:101", after := #[{ on := 8, ground := Go.Ground.data }, { on := 13, ground := Go.Ground.data }], guard := none }) rfl (fun K hK => ?_) (AllReadyH.nil)
                      · rw [if_pos (by rfl)]
                        refine oper_marks (Operand.tmp 53) (Operand.tmp 58) 24 rfl wi.heap.size i0 Try.underlying24 hi hz0 hz1 hz2 (.slice (some ⟨ea, 0, none⟩) 0 0) rfl E151.out rfl (HMF.out.1.below T149.out) HMF.out.2 T149.out.size ?_
                        intro v7 V154 hown hgr
                        have T155 := hid (bel_grownO T149.out (Nat.le_refl _) E151.out (Nat.le_refl _) hgr)
                        have E156 := hid hown
                        have E157 := hid (E152.out.keep (hgr.block eb E152.out.lt (fun q => N125.out (by simpa [Value.ownBlock] using q.symm))))
                        have E158 := hid (cb_grown3 E150.out (by decide) E151.out hgr)
                        clear hown hgr
                        refine hK.out _ _ (by exact SX.out _ T155.out) (fun hHeld => ?_)
                        clear hK K
                        try simp only [Act.put, List.setIfInBounds_toArray, List.set_cons_zero, List.set_cons_succ]
                        refine wpAnyH_ready (rs := [17]) (by kernel_rfl) (by simp) ?_
                        refine AllReadyH.cons (o := { dst := some 62, op := Go.Op.call { callee := Go.Callee.builtin Go.Builtin.append, args := #[Go.Operand.tmp 59, Go.Operand.tmp 61], argTypes := #[24, 24] }, type := 24, pos := "l18_plan.go:101", after := #[{ on := 14, ground := Go.Ground.data }, { on := 16, ground := Go.Ground.data }, { on := 14, ground := Go.Ground.chain }], guard := none }) rfl (fun K hK => ?_) (AllReadyH.nil)
                        · rw [if_pos (by rfl)]
                          refine oper_app (Operand.tmp 59) (Operand.tmp 61) 24 rfl wi.heap.size 3 i0 (.int .i64 0) 1 8 Try.underlying24 hi hz0 hz1 hz2 rfl (by decide) v7 LF (intR (fun j => (MF j : Int)) LF) rfl E156.out ⟨eb, 0, none⟩ 1 1 [.int .i64 (F : Int)] rfl rfl (cb_srcM E157.out) (fun u hu => by simp at hu; subst hu; rfl) (by have := HMF.out.2; unfold maxLen; omega) (by have := HMF.out.2; omega) T155.out.size ?_
                          intro v8 V159 hown hgr
                          have T160 := hid (bel_grownO T155.out (Nat.le_refl _) E156.out (Nat.le_refl _) hgr)
                          have E161 := hid (cb_grown3 E158.out (by decide) E156.out hgr)
                          obtain ⟨a9, p9, rfl, hm9⟩ := MkR.of (mk := fun j => if j = LF then F else MF j) hown (marks_add MF LF F)
                          have E162 := hid hm9
                          clear hown hgr hm9
                          refine hK.out _ _ (by exact SX.out _ T160.out) (fun hHeld => ?_)
                          clear hK K
                          try simp only [Act.put, List.setIfInBounds_toArray, List.set_cons_zero, List.set_cons_succ]
                          refine wpAnyH_take (i := 18) (oi := { dst := some 63, op := Go.Op.build 120 #[(0, Go.Operand.tmp 52), (1, Go.Operand.tmp 62)], type := 120, pos := "l18_plan.go:101", after := #[{ on := 7, ground := Go.Ground.data }, { on := 17, ground := Go.Ground.data }], guard := none }) (v := ?_) rfl (by kernel_rfl) (by kernel_rfl) (by kernel_rfl) (fun _ _ _ h => h) (Or.inl ⟨by rfl, ?_⟩) (by assumption) ?_
                          rotate_left
                          · (intro w hSw; (try dsimp only at hSw); go_simp <;> try with_reducible rfl)
                          try simp only [Act.put, List.setIfInBounds_toArray, List.set_cons_zero, List.set_cons_succ]
                          have y0 : V159.cell? ⟨ec, 0, none⟩ = some (.int .i64 0) := (E161.out.cell 0).trans rfl
                          have y1 : V159.cell? ⟨ec, 1, none⟩ = some (.slice none 0 0) := (E161.out.cell 1).trans rfl
                          have f0 := E161.out.fr 0
                          have f1 := E161.out.fr 1
                          have hE : Hid (CB ((V159.setCell ⟨ec, 0, none⟩ (.int .i64 (CF + su))).setCell ⟨ec, 1, none⟩ (.slice a9 (LF + 1) p9)) ec #[.int .i64 (CF + su), .slice a9 (LF + 1) p9] 120 ∧ MkR ((V159.setCell ⟨ec, 0, none⟩ (.int .i64 (CF + su))).setCell ⟨ec, 1, none⟩ (.slice a9 (LF + 1) p9)) wi.heap.size a9 (LF + 1) p9 (fun j => if j = LF then F else MF j)) := hid ⟨(E161.out.set 0 _).set 1 _, (E162.out.set E161.out (by decide) _).set (E161.out.set 0 _) (by decide) _⟩
                          have TF : Hid (Below wi.heap.size wi ((V159.setCell ⟨ec, 0, none⟩ (.int .i64 (CF + su))).setCell ⟨ec, 1, none⟩ (.slice a9 (LF + 1) p9)) ∧ wi.heap.size ≤ ec) := hid ⟨(T160.out.setCell (by show _ ≤ ec; exact G153.out) _).setCell (by show _ ≤ ec; exact G153.out) _, G153.out⟩
                          refine wpAnyH_ready (rs := [20]) (by kernel_rfl) (by simp) ?_
                          refine AllReadyH.cons (o := { dst := none, op := Go.Op.store 120 (Go.Operand.tmp 9) (Go.Operand.tmp 63), type := 0, pos := "l18_plan.go:101", after := #[{ on := 19, ground := Go.Ground.data }, { on := 18, ground := Go.Ground.data }, { on := 17, ground := Go.Ground.chain }, { on := 0, ground := Go.Ground.phase }, { on := 1, ground := Go.Ground.phase }, { on := 2, ground := Go.Ground.phase }, { on := 3, ground := Go.Ground.phase }, { on := 4, ground := Go.Ground.phase }, { on := 5, ground := Go.Ground.phase }, { on := 6, ground := Go.Ground.phase }, { on := 7, ground := Go.Ground.phase }, { on := 8, ground := Go.Ground.phase }, { on := 9, ground := Go.Ground.phase }, { on := 10, ground := Go.Ground.phase }, { on := 11, ground := Go.Ground.phase }, { on := 12, ground := Go.Ground.phase }, { on := 13, ground := Go.Ground.phase }, { on := 14, ground := Go.Ground.phase }, { on := 15, ground := Go.Ground.phase }, { on := 16, ground := Go.Ground.phase }, { on := 17, ground := Go.Ground.phase }, { on := 18, ground := Go.Ground.phase }, { on := 19, ground := Go.Ground.phase }], guard := none }) rfl (fun K hK => ?_) (AllReadyH.nil)
                          go_simp
                          refine hK.out _ _ (by exact SX.out _ TF.out.1) (fun hHeld => ?_)
                          clear hK K y0 y1 f0 f1
                          try simp only [Act.put, List.setIfInBounds_toArray, List.set_cons_zero, List.set_cons_succ]
                          refine wpAnyH_done (by kernel_rfl) ?_ _
                          refine NoPanic.normal ?_
                          clear hHeld
                          go_wp2_with fail
                          go_meet
                          exact ⟨ec, a9, p9, rfl, TF.out.2, TF.out.1, hE.out.1, hE.out.2⟩
                  · go_simp
                    have T164 := hid (T119.out.alloc T119.out.size (.cells #[.int .i64 0, .slice none 0 0] 120 (0, 0)))
                    have bb : Below V118.heap.size V118 (V118.alloc (.cells #[.int .i64 0, .slice none 0 0] 120 (0, 0))) := (Below.refl _ _).alloc (Nat.le_refl _) _
                    have E165 : Hid (CB (V118.alloc (.cells #[.int .i64 0, .slice none 0 0] 120 (0, 0))) V118.heap.size #[.int .i64 0, .slice none 0 0] 120) := hid (CB.new _ _)
                    have E166 := hid (E120.out.below bb E120.out.lt)
                    have G167 : Hid (wi.heap.size ≤ V118.heap.size) := hid T119.out.size
                    clear bb
                    refine hK.out _ _ (by exact SX.out _ T164.out) (fun hHeld => ?_)
                    clear hK K
                    try simp only [Act.put, List.setIfInBounds_toArray, List.set_cons_zero, List.set_cons_succ]
                    generalize (V118.alloc (.cells #[.int .i64 0, .slice none 0 0] 120 (0, 0))) = V163 at T164 E165 E166 ⊢
                    generalize V118.heap.size = ec at T164 E165 E166 G167 ⊢
                    refine wpAnyH_ready (rs := [8]) (by kernel_rfl) (by simp) ?_
                    refine AllReadyH.cons (o := { dst := some 53, op := Go.Op.buildSlice 24 0 #[], type := 24, pos := "l18_plan.go:101", after := #[], guard := none }) rfl (fun K hK => ?_) (AllReadyH.nil)
                    · go_simp
                      have T169 := hid (T164.out.alloc T164.out.size (.cells #[] 3 (0, 0)))
                      have bb : Below V163.heap.size V163 (V163.alloc (.cells #[] 3 (0, 0))) := (Below.refl _ _).alloc (Nat.le_refl _) _
                      have E170 : Hid ((V163.alloc (.cells #[] 3 (0, 0))).ownsRow wi.heap.size 3 1 (.slice (some ⟨V163.heap.size, 0, none⟩) 0 0) 0 []) := hid (madeI (CB.new _ _) T164.out.size)
                      have E171 := hid (E166.out.below bb E166.out.lt)
                      have E172 := hid (E165.out.below bb E165.out.lt)
                      have N173 : Hid (V163.heap.size ≠ eb) := hid (by have := E166.out.lt; omega)
                      clear bb
                      refine hK.out _ _ (by exact SX.out _ T169.out) (fun hHeld => ?_)
                      clear hK K
                      try simp only [Act.put, List.setIfInBounds_toArray, List.set_cons_zero, List.set_cons_succ]
                      generalize (V163.alloc (.cells #[] 3 (0, 0))) = V168 at T169 E170 E171 E172 ⊢
                      generalize V163.heap.size = ea at T169 E170 E171 E172 N173 ⊢
                      refine wpAnyH_ready (rs := [14]) (by kernel_rfl) (by simp) ?_
                      refine AllReadyH.cons (o := { dst := some 59, op := Go.Op.call { callee := Go.Callee.builtin Go.Builtin.append, args := #[Go.Operand.tmp 53, Go.Operand.tmp 58], argTypes := #[24, 24] }, type := 24, pos := "l18_plan.go:101", after := #[{ on := 8, ground := Go.Ground.data }, { on := 13, ground := Go.Ground.data }], guard := none }) rfl (fun K hK => ?_) (AllReadyH.nil)
                      · rw [if_pos (by rfl)]
                        refine oper_marks (Operand.tmp 53) (Operand.tmp 58) 24 rfl wi.heap.size i0 Try.underlying24 hi hz0 hz1 hz2 (.slice (some ⟨ea, 0, none⟩) 0 0) rfl E170.out rfl (HMF.out.1.below T169.out) HMF.out.2 T169.out.size ?_
                        intro v7 V174 hown hgr
                        have T175 := hid (bel_grownO T169.out (Nat.le_refl _) E170.out (Nat.le_refl _) hgr)
                        have E176 := hid hown
                        have E177 := hid (E171.out.keep (hgr.block eb E171.out.lt (fun q => N173.out (by simpa [Value.ownBlock] using q.symm))))
                        have E178 := hid (cb_grown3 E172.out (by decide) E170.out hgr)
                        clear hown hgr
                        refine hK.out _ _ (by exact SX.out _ T175.out) (fun hHeld => ?_)
                        clear hK K
                        try simp only [Act.put, List.setIfInBounds_toArray, List.set_cons_zero, List.set_cons_succ]
                        refine wpAnyH_ready (rs := [17]) (by kernel_rfl) (by simp) ?_
                        refine AllReadyH.cons (o := { dst := some 62, op := Go.Op.call { callee := Go.Callee.builtin Go.Builtin.append, args := #[Go.Operand.tmp 59, Go.Operand.tmp 61], argTypes := #[24, 24] }, type := 24, pos := "l18_plan.go:101", after := #[{ on := 14, ground := Go.Ground.data }, { on := 16, ground := Go.Ground.data }, { on := 14, ground := Go.Ground.chain }], guard := none }) rfl (fun K hK => ?_) (AllReadyH.nil)
                        · rw [if_pos (by rfl)]
                          refine oper_app (Operand.tmp 59) (Operand.tmp 61) 24 rfl wi.heap.size 3 i0 (.int .i64 0) 1 8 Try.underlying24 hi hz0 hz1 hz2 rfl (by decide) v7 LF (intR (fun j => (MF j : Int)) LF) rfl E176.out ⟨eb, 0, none⟩ 1 1 [.int .i64 (F : Int)] rfl rfl (cb_srcM E177.out) (fun u hu => by simp at hu; subst hu; rfl) (by have := HMF.out.2; unfold maxLen; omega) (by have := HMF.out.2; omega) T175.out.size ?_
                          intro v8 V179 hown hgr
                          have T180 := hid (bel_grownO T175.out (Nat.le_refl _) E176.out (Nat.le_refl _) hgr)
                          have E181 := hid (cb_grown3 E178.out (by decide) E176.out hgr)
                          obtain ⟨a9, p9, rfl, hm9⟩ := MkR.of (mk := fun j => if j = LF then F else MF j) hown (marks_add MF LF F)
                          have E182 := hid hm9
                          clear hown hgr hm9
                          refine hK.out _ _ (by exact SX.out _ T180.out) (fun hHeld => ?_)
                          clear hK K
                          try simp only [Act.put, List.setIfInBounds_toArray, List.set_cons_zero, List.set_cons_succ]
                          refine wpAnyH_take (i := 18) (oi := { dst := some 63, op := Go.Op.build 120 #[(0, Go.Operand.tmp 52), (1, Go.Operand.tmp 62)], type := 120, pos := "l18_plan.go:101", after := #[{ on := 7, ground := Go.Ground.data }, { on := 17, ground := Go.Ground.data }], guard := none }) (v := ?_) rfl (by kernel_rfl) (by kernel_rfl) (by kernel_rfl) (fun _ _ _ h => h) (Or.inl ⟨by rfl, ?_⟩) (by assumption) ?_
                          rotate_left
                          · (intro w hSw; (try dsimp only at hSw); go_simp <;> try with_reducible rfl)
                          try simp only [Act.put, List.setIfInBounds_toArray, List.set_cons_zero, List.set_cons_succ]
                          have y0 : V179.cell? ⟨ec, 0, none⟩ = some (.int .i64 0) := (E181.out.cell 0).trans rfl
                          have y1 : V179.cell? ⟨ec, 1, none⟩ = some (.slice none 0 0) := (E181.out.cell 1).trans rfl
                          have f0 := E181.out.fr 0
                          have f1 := E181.out.fr 1
                          have hE : Hid (CB ((V179.setCell ⟨ec, 0, none⟩ (.int .i64 (CF + su))).setCell ⟨ec, 1, none⟩ (.slice a9 (LF + 1) p9)) ec #[.int .i64 (CF + su), .slice a9 (LF + 1) p9] 120 ∧ MkR ((V179.setCell ⟨ec, 0, none⟩ (.int .i64 (CF + su))).setCell ⟨ec, 1, none⟩ (.slice a9 (LF + 1) p9)) wi.heap.size a9 (LF + 1) p9 (fun j => if j = LF then F else MF j)) := hid ⟨(E181.out.set 0 _).set 1 _, (E182.out.set E181.out (by decide) _).set (E181.out.set 0 _) (by decide) _⟩
                          have TF : Hid (Below wi.heap.size wi ((V179.setCell ⟨ec, 0, none⟩ (.int .i64 (CF + su))).setCell ⟨ec, 1, none⟩ (.slice a9 (LF + 1) p9)) ∧ wi.heap.size ≤ ec) := hid ⟨(T180.out.setCell (by show _ ≤ ec; exact G167.out) _).setCell (by show _ ≤ ec; exact G167.out) _, G167.out⟩
                          refine wpAnyH_ready (rs := [20]) (by kernel_rfl) (by simp) ?_
                          refine AllReadyH.cons (o := { dst := none, op := Go.Op.store 120 (Go.Operand.tmp 9) (Go.Operand.tmp 63), type := 0, pos := "l18_plan.go:101", after := #[{ on := 19, ground := Go.Ground.data }, { on := 18, ground := Go.Ground.data }, { on := 17, ground := Go.Ground.chain }, { on := 0, ground := Go.Ground.phase }, { on := 1, ground := Go.Ground.phase }, { on := 2, ground := Go.Ground.phase }, { on := 3, ground := Go.Ground.phase }, { on := 4, ground := Go.Ground.phase }, { on := 5, ground := Go.Ground.phase }, { on := 6, ground := Go.Ground.phase }, { on := 7, ground := Go.Ground.phase }, { on := 8, ground := Go.Ground.phase }, { on := 9, ground := Go.Ground.phase }, { on := 10, ground := Go.Ground.phase }, { on := 11, ground := Go.Ground.phase }, { on := 12, ground := Go.Ground.phase }, { on := 13, ground := Go.Ground.phase }, { on := 14, ground := Go.Ground.phase }, { on := 15, ground := Go.Ground.phase }, { on := 16, ground := Go.Ground.phase }, { on := 17, ground := Go.Ground.phase }, { on := 18, ground := Go.Ground.phase }, { on := 19, ground := Go.Ground.phase }], guard := none }) rfl (fun K hK => ?_) (AllReadyH.nil)
                          go_simp
                          refine hK.out _ _ (by exact SX.out _ TF.out.1) (fun hHeld => ?_)
                          clear hK K y0 y1 f0 f1
                          try simp only [Act.put, List.setIfInBounds_toArray, List.set_cons_zero, List.set_cons_succ]
                          refine wpAnyH_done (by kernel_rfl) ?_ _
                          refine NoPanic.normal ?_
                          clear hHeld
                          go_wp2_with fail
                          go_meet
                          exact ⟨ec, a9, p9, rfl, TF.out.2, TF.out.1, hE.out.1, hE.out.2⟩
                · go_simp
                  have T184 := hid (TD.out.alloc TD.out.size (.cells #[.int .i64 0, .slice none 0 0] 120 (0, 0)))
                  have bb : Below VD.heap.size VD (VD.alloc (.cells #[.int .i64 0, .slice none 0 0] 120 (0, 0))) := (Below.refl _ _).alloc (Nat.le_refl _) _
                  have E185 : Hid (CB (VD.alloc (.cells #[.int .i64 0, .slice none 0 0] 120 (0, 0))) VD.heap.size #[.int .i64 0, .slice none 0 0] 120) := hid (CB.new _ _)
                  have G186 : Hid (wi.heap.size ≤ VD.heap.size) := hid TD.out.size
                  clear bb
                  refine hK.out _ _ (by exact SX.out _ T184.out) (fun hHeld => ?_)
                  clear hK K
                  try simp only [Act.put, List.setIfInBounds_toArray, List.set_cons_zero, List.set_cons_succ]
                  generalize (VD.alloc (.cells #[.int .i64 0, .slice none 0 0] 120 (0, 0))) = V183 at T184 E185 ⊢
                  generalize VD.heap.size = ec at T184 E185 G186 ⊢
                  refine wpAnyH_ready (rs := [8, 16]) (by kernel_rfl) (by simp) ?_
                  refine AllReadyH.cons (o := { dst := some 53, op := Go.Op.buildSlice 24 0 #[], type := 24, pos := "l18_plan.go:101", after := #[], guard := none }) rfl (fun K hK => ?_) (AllReadyH.cons (o := { dst := some 61, op := Go.Op.buildSlice 24 1 #[(0, Go.Operand.tmp 60)], type := 24, pos := "l18_plan.go:101", after := #[{ on := 15, ground := Go.Ground.data }], guard := none }) rfl (fun K hK => ?_) (AllReadyH.nil))
                  · go_simp
                    have T188 := hid (T184.out.alloc T184.out.size (.cells #[] 3 (0, 0)))
                    have bb : Below V183.heap.size V183 (V183.alloc (.cells #[] 3 (0, 0))) := (Below.refl _ _).alloc (Nat.le_refl _) _
                    have E189 : Hid ((V183.alloc (.cells #[] 3 (0, 0))).ownsRow wi.heap.size 3 1 (.slice (some ⟨V183.heap.size, 0, none⟩) 0 0) 0 []) := hid (madeI (CB.new _ _) T184.out.size)
                    have E190 := hid (E185.out.below bb E185.out.lt)
                    clear bb
                    refine hK.out _ _ (by exact SX.out _ T188.out) (fun hHeld => ?_)
                    clear hK K
                    try simp only [Act.put, List.setIfInBounds_toArray, List.set_cons_zero, List.set_cons_succ]
                    generalize (V183.alloc (.cells #[] 3 (0, 0))) = V187 at T188 E189 E190 ⊢
                    generalize V183.heap.size = ea at T188 E189 E190 ⊢
                    refine wpAnyH_ready (rs := [14, 16]) (by kernel_rfl) (by simp) ?_
                    refine AllReadyH.cons (o := { dst := some 59, op := Go.Op.call { callee := Go.Callee.builtin Go.Builtin.append, args := #[Go.Operand.tmp 53, Go.Operand.tmp 58], argTypes := #[24, 24] }, type := 24, pos := "l18_plan.go:101", after := #[{ on := 8, ground := Go.Ground.data }, { on := 13, ground := Go.Ground.data }], guard := none }) rfl (fun K hK => ?_) (AllReadyH.cons (o := { dst := some 61, op := Go.Op.buildSlice 24 1 #[(0, Go.Operand.tmp 60)], type := 24, pos := "l18_plan.go:101", after := #[{ on := 15, ground := Go.Ground.data }], guard := none }) rfl (fun K hK => ?_) (AllReadyH.nil))
                    · rw [if_pos (by rfl)]
                      refine oper_marks (Operand.tmp 53) (Operand.tmp 58) 24 rfl wi.heap.size i0 Try.underlying24 hi hz0 hz1 hz2 (.slice (some ⟨ea, 0, none⟩) 0 0) rfl E189.out rfl (HMF.out.1.below T188.out) HMF.out.2 T188.out.size ?_
                      intro v7 V191 hown hgr
                      have T192 := hid (bel_grownO T188.out (Nat.le_refl _) E189.out (Nat.le_refl _) hgr)
                      have E193 := hid hown
                      have E194 := hid (cb_grown3 E190.out (by decide) E189.out hgr)
                      clear hown hgr
                      refine hK.out _ _ (by exact SX.out _ T192.out) (fun hHeld => ?_)
                      clear hK K
                      try simp only [Act.put, List.setIfInBounds_toArray, List.set_cons_zero, List.set_cons_succ]
                      refine wpAnyH_ready (rs := [16]) (by kernel_rfl) (by simp) ?_
                      refine AllReadyH.cons (o := { dst := some 61, op := Go.Op.buildSlice 24 1 #[(0, Go.Operand.tmp 60)], type := 24, pos := "l18_plan.go:101", after := #[{ on := 15, ground := Go.Ground.data }], guard := none }) rfl (fun K hK => ?_) (AllReadyH.nil)
                      · go_simp
                        have T196 := hid (T192.out.alloc T192.out.size (.cells #[.int .i64 (F : Int)] 3 (0, 0)))
                        have bb : Below V191.heap.size V191 (V191.alloc (.cells #[.int .i64 (F : Int)] 3 (0, 0))) := (Below.refl _ _).alloc (Nat.le_refl _) _
                        have E197 : Hid (CB (V191.alloc (.cells #[.int .i64 (F : Int)] 3 (0, 0))) V191.heap.size #[.int .i64 (F : Int)] 3) := hid (CB.new _ _)
                        have E198 := hid (ownsRow_below E193.out bb)
                        have E199 := hid (E194.out.below bb E194.out.lt)
                        clear bb
                        refine hK.out _ _ (by exact SX.out _ T196.out) (fun hHeld => ?_)
                        clear hK K
                        try simp only [Act.put, List.setIfInBounds_toArray, List.set_cons_zero, List.set_cons_succ]
                        generalize (V191.alloc (.cells #[.int .i64 (F : Int)] 3 (0, 0))) = V195 at T196 E197 E198 E199 ⊢
                        generalize V191.heap.size = eb at T196 E197 E198 E199 ⊢
                        refine wpAnyH_ready (rs := [17]) (by kernel_rfl) (by simp) ?_
                        refine AllReadyH.cons (o := { dst := some 62, op := Go.Op.call { callee := Go.Callee.builtin Go.Builtin.append, args := #[Go.Operand.tmp 59, Go.Operand.tmp 61], argTypes := #[24, 24] }, type := 24, pos := "l18_plan.go:101", after := #[{ on := 14, ground := Go.Ground.data }, { on := 16, ground := Go.Ground.data }, { on := 14, ground := Go.Ground.chain }], guard := none }) rfl (fun K hK => ?_) (AllReadyH.nil)
                        · rw [if_pos (by rfl)]
                          refine oper_app (Operand.tmp 59) (Operand.tmp 61) 24 rfl wi.heap.size 3 i0 (.int .i64 0) 1 8 Try.underlying24 hi hz0 hz1 hz2 rfl (by decide) v7 LF (intR (fun j => (MF j : Int)) LF) rfl E198.out ⟨eb, 0, none⟩ 1 1 [.int .i64 (F : Int)] rfl rfl (cb_srcM E197.out) (fun u hu => by simp at hu; subst hu; rfl) (by have := HMF.out.2; unfold maxLen; omega) (by have := HMF.out.2; omega) T196.out.size ?_
                          intro v8 V200 hown hgr
                          have T201 := hid (bel_grownO T196.out (Nat.le_refl _) E198.out (Nat.le_refl _) hgr)
                          have E202 := hid (cb_grown3 E199.out (by decide) E198.out hgr)
                          obtain ⟨a9, p9, rfl, hm9⟩ := MkR.of (mk := fun j => if j = LF then F else MF j) hown (marks_add MF LF F)
                          have E203 := hid hm9
                          clear hown hgr hm9
                          refine hK.out _ _ (by exact SX.out _ T201.out) (fun hHeld => ?_)
                          clear hK K
                          try simp only [Act.put, List.setIfInBounds_toArray, List.set_cons_zero, List.set_cons_succ]
                          refine wpAnyH_take (i := 18) (oi := { dst := some 63, op := Go.Op.build 120 #[(0, Go.Operand.tmp 52), (1, Go.Operand.tmp 62)], type := 120, pos := "l18_plan.go:101", after := #[{ on := 7, ground := Go.Ground.data }, { on := 17, ground := Go.Ground.data }], guard := none }) (v := ?_) rfl (by kernel_rfl) (by kernel_rfl) (by kernel_rfl) (fun _ _ _ h => h) (Or.inl ⟨by rfl, ?_⟩) (by assumption) ?_
                          rotate_left
                          · (intro w hSw; (try dsimp only at hSw); go_simp <;> try with_reducible rfl)
                          try simp only [Act.put, List.setIfInBounds_toArray, List.set_cons_zero, List.set_cons_succ]
                          have y0 : V200.cell? ⟨ec, 0, none⟩ = some (.int .i64 0) := (E202.out.cell 0).trans rfl
                          have y1 : V200.cell? ⟨ec, 1, none⟩ = some (.slice none 0 0) := (E202.out.cell 1).trans rfl
                          have f0 := E202.out.fr 0
                          have f1 := E202.out.fr 1
                          have hE : Hid (CB ((V200.setCell ⟨ec, 0, none⟩ (.int .i64 (CF + su))).setCell ⟨ec, 1, none⟩ (.slice a9 (LF + 1) p9)) ec #[.int .i64 (CF + su), .slice a9 (LF + 1) p9] 120 ∧ MkR ((V200.setCell ⟨ec, 0, none⟩ (.int .i64 (CF + su))).setCell ⟨ec, 1, none⟩ (.slice a9 (LF + 1) p9)) wi.heap.size a9 (LF + 1) p9 (fun j => if j = LF then F else MF j)) := hid ⟨(E202.out.set 0 _).set 1 _, (E203.out.set E202.out (by decide) _).set (E202.out.set 0 _) (by decide) _⟩
                          have TF : Hid (Below wi.heap.size wi ((V200.setCell ⟨ec, 0, none⟩ (.int .i64 (CF + su))).setCell ⟨ec, 1, none⟩ (.slice a9 (LF + 1) p9)) ∧ wi.heap.size ≤ ec) := hid ⟨(T201.out.setCell (by show _ ≤ ec; exact G186.out) _).setCell (by show _ ≤ ec; exact G186.out) _, G186.out⟩
                          refine wpAnyH_ready (rs := [20]) (by kernel_rfl) (by simp) ?_
                          refine AllReadyH.cons (o := { dst := none, op := Go.Op.store 120 (Go.Operand.tmp 9) (Go.Operand.tmp 63), type := 0, pos := "l18_plan.go:101", after := #[{ on := 19, ground := Go.Ground.data }, { on := 18, ground := Go.Ground.data }, { on := 17, ground := Go.Ground.chain }, { on := 0, ground := Go.Ground.phase }, { on := 1, ground := Go.Ground.phase }, { on := 2, ground := Go.Ground.phase }, { on := 3, ground := Go.Ground.phase }, { on := 4, ground := Go.Ground.phase }, { on := 5, ground := Go.Ground.phase }, { on := 6, ground := Go.Ground.phase }, { on := 7, ground := Go.Ground.phase }, { on := 8, ground := Go.Ground.phase }, { on := 9, ground := Go.Ground.phase }, { on := 10, ground := Go.Ground.phase }, { on := 11, ground := Go.Ground.phase }, { on := 12, ground := Go.Ground.phase }, { on := 13, ground := Go.Ground.phase }, { on := 14, ground := Go.Ground.phase }, { on := 15, ground := Go.Ground.phase }, { on := 16, ground := Go.Ground.phase }, { on := 17, ground := Go.Ground.phase }, { on := 18, ground := Go.Ground.phase }, { on := 19, ground := Go.Ground.phase }], guard := none }) rfl (fun K hK => ?_) (AllReadyH.nil)
                          go_simp
                          refine hK.out _ _ (by exact SX.out _ TF.out.1) (fun hHeld => ?_)
                          clear hK K y0 y1 f0 f1
                          try simp only [Act.put, List.setIfInBounds_toArray, List.set_cons_zero, List.set_cons_succ]
                          refine wpAnyH_done (by kernel_rfl) ?_ _
                          refine NoPanic.normal ?_
                          clear hHeld
                          go_wp2_with fail
                          go_meet
                          exact ⟨ec, a9, p9, rfl, TF.out.2, TF.out.1, hE.out.1, hE.out.2⟩
                    · go_simp
                      have T205 := hid (T188.out.alloc T188.out.size (.cells #[.int .i64 (F : Int)] 3 (0, 0)))
                      have bb : Below V187.heap.size V187 (V187.alloc (.cells #[.int .i64 (F : Int)] 3 (0, 0))) := (Below.refl _ _).alloc (Nat.le_refl _) _
                      have E206 : Hid (CB (V187.alloc (.cells #[.int .i64 (F : Int)] 3 (0, 0))) V187.heap.size #[.int .i64 (F : Int)] 3) := hid (CB.new _ _)
                      have E207 := hid (ownsRow_below E189.out bb)
                      have E208 := hid (E190.out.below bb E190.out.lt)
                      have N209 : Hid (ea ≠ V187.heap.size) := hid (by have := madeI_cb E189.out; omega)
                      clear bb
                      refine hK.out _ _ (by exact SX.out _ T205.out) (fun hHeld => ?_)
                      clear hK K
                      try simp only [Act.put, List.setIfInBounds_toArray, List.set_cons_zero, List.set_cons_succ]
                      generalize (V187.alloc (.cells #[.int .i64 (F : Int)] 3 (0, 0))) = V204 at T205 E206 E207 E208 ⊢
                      generalize V187.heap.size = eb at T205 E206 E207 E208 N209 ⊢
                      refine wpAnyH_ready (rs := [14]) (by kernel_rfl) (by simp) ?_
                      refine AllReadyH.cons (o := { dst := some 59, op := Go.Op.call { callee := Go.Callee.builtin Go.Builtin.append, args := #[Go.Operand.tmp 53, Go.Operand.tmp 58], argTypes := #[24, 24] }, type := 24, pos := "l18_plan.go:101", after := #[{ on := 8, ground := Go.Ground.data }, { on := 13, ground := Go.Ground.data }], guard := none }) rfl (fun K hK => ?_) (AllReadyH.nil)
                      · rw [if_pos (by rfl)]
                        refine oper_marks (Operand.tmp 53) (Operand.tmp 58) 24 rfl wi.heap.size i0 Try.underlying24 hi hz0 hz1 hz2 (.slice (some ⟨ea, 0, none⟩) 0 0) rfl E207.out rfl (HMF.out.1.below T205.out) HMF.out.2 T205.out.size ?_
                        intro v7 V210 hown hgr
                        have T211 := hid (bel_grownO T205.out (Nat.le_refl _) E207.out (Nat.le_refl _) hgr)
                        have E212 := hid hown
                        have E213 := hid (E206.out.keep (hgr.block eb E206.out.lt (fun q => N209.out (by simpa [Value.ownBlock] using q.symm))))
                        have E214 := hid (cb_grown3 E208.out (by decide) E207.out hgr)
                        clear hown hgr
                        refine hK.out _ _ (by exact SX.out _ T211.out) (fun hHeld => ?_)
                        clear hK K
                        try simp only [Act.put, List.setIfInBounds_toArray, List.set_cons_zero, List.set_cons_succ]
                        refine wpAnyH_ready (rs := [17]) (by kernel_rfl) (by simp) ?_
                        refine AllReadyH.cons (o := { dst := some 62, op := Go.Op.call { callee := Go.Callee.builtin Go.Builtin.append, args := #[Go.Operand.tmp 59, Go.Operand.tmp 61], argTypes := #[24, 24] }, type := 24, pos := "l18_plan.go:101", after := #[{ on := 14, ground := Go.Ground.data }, { on := 16, ground := Go.Ground.data }, { on := 14, ground := Go.Ground.chain }], guard := none }) rfl (fun K hK => ?_) (AllReadyH.nil)
                        · rw [if_pos (by rfl)]
                          refine oper_app (Operand.tmp 59) (Operand.tmp 61) 24 rfl wi.heap.size 3 i0 (.int .i64 0) 1 8 Try.underlying24 hi hz0 hz1 hz2 rfl (by decide) v7 LF (intR (fun j => (MF j : Int)) LF) rfl E212.out ⟨eb, 0, none⟩ 1 1 [.int .i64 (F : Int)] rfl rfl (cb_srcM E213.out) (fun u hu => by simp at hu; subst hu; rfl) (by have := HMF.out.2; unfold maxLen; omega) (by have := HMF.out.2; omega) T211.out.size ?_
                          intro v8 V215 hown hgr
                          have T216 := hid (bel_grownO T211.out (Nat.le_refl _) E212.out (Nat.le_refl _) hgr)
                          have E217 := hid (cb_grown3 E214.out (by decide) E212.out hgr)
                          obtain ⟨a9, p9, rfl, hm9⟩ := MkR.of (mk := fun j => if j = LF then F else MF j) hown (marks_add MF LF F)
                          have E218 := hid hm9
                          clear hown hgr hm9
                          refine hK.out _ _ (by exact SX.out _ T216.out) (fun hHeld => ?_)
                          clear hK K
                          try simp only [Act.put, List.setIfInBounds_toArray, List.set_cons_zero, List.set_cons_succ]
                          refine wpAnyH_take (i := 18) (oi := { dst := some 63, op := Go.Op.build 120 #[(0, Go.Operand.tmp 52), (1, Go.Operand.tmp 62)], type := 120, pos := "l18_plan.go:101", after := #[{ on := 7, ground := Go.Ground.data }, { on := 17, ground := Go.Ground.data }], guard := none }) (v := ?_) rfl (by kernel_rfl) (by kernel_rfl) (by kernel_rfl) (fun _ _ _ h => h) (Or.inl ⟨by rfl, ?_⟩) (by assumption) ?_
                          rotate_left
                          · (intro w hSw; (try dsimp only at hSw); go_simp <;> try with_reducible rfl)
                          try simp only [Act.put, List.setIfInBounds_toArray, List.set_cons_zero, List.set_cons_succ]
                          have y0 : V215.cell? ⟨ec, 0, none⟩ = some (.int .i64 0) := (E217.out.cell 0).trans rfl
                          have y1 : V215.cell? ⟨ec, 1, none⟩ = some (.slice none 0 0) := (E217.out.cell 1).trans rfl
                          have f0 := E217.out.fr 0
                          have f1 := E217.out.fr 1
                          have hE : Hid (CB ((V215.setCell ⟨ec, 0, none⟩ (.int .i64 (CF + su))).setCell ⟨ec, 1, none⟩ (.slice a9 (LF + 1) p9)) ec #[.int .i64 (CF + su), .slice a9 (LF + 1) p9] 120 ∧ MkR ((V215.setCell ⟨ec, 0, none⟩ (.int .i64 (CF + su))).setCell ⟨ec, 1, none⟩ (.slice a9 (LF + 1) p9)) wi.heap.size a9 (LF + 1) p9 (fun j => if j = LF then F else MF j)) := hid ⟨(E217.out.set 0 _).set 1 _, (E218.out.set E217.out (by decide) _).set (E217.out.set 0 _) (by decide) _⟩
                          have TF : Hid (Below wi.heap.size wi ((V215.setCell ⟨ec, 0, none⟩ (.int .i64 (CF + su))).setCell ⟨ec, 1, none⟩ (.slice a9 (LF + 1) p9)) ∧ wi.heap.size ≤ ec) := hid ⟨(T216.out.setCell (by show _ ≤ ec; exact G186.out) _).setCell (by show _ ≤ ec; exact G186.out) _, G186.out⟩
                          refine wpAnyH_ready (rs := [20]) (by kernel_rfl) (by simp) ?_
                          refine AllReadyH.cons (o := { dst := none, op := Go.Op.store 120 (Go.Operand.tmp 9) (Go.Operand.tmp 63), type := 0, pos := "l18_plan.go:101", after := #[{ on := 19, ground := Go.Ground.data }, { on := 18, ground := Go.Ground.data }, { on := 17, ground := Go.Ground.chain }, { on := 0, ground := Go.Ground.phase }, { on := 1, ground := Go.Ground.phase }, { on := 2, ground := Go.Ground.phase }, { on := 3, ground := Go.Ground.phase }, { on := 4, ground := Go.Ground.phase }, { on := 5, ground := Go.Ground.phase }, { on := 6, ground := Go.Ground.phase }, { on := 7, ground := Go.Ground.phase }, { on := 8, ground := Go.Ground.phase }, { on := 9, ground := Go.Ground.phase }, { on := 10, ground := Go.Ground.phase }, { on := 11, ground := Go.Ground.phase }, { on := 12, ground := Go.Ground.phase }, { on := 13, ground := Go.Ground.phase }, { on := 14, ground := Go.Ground.phase }, { on := 15, ground := Go.Ground.phase }, { on := 16, ground := Go.Ground.phase }, { on := 17, ground := Go.Ground.phase }, { on := 18, ground := Go.Ground.phase }, { on := 19, ground := Go.Ground.phase }], guard := none }) rfl (fun K hK => ?_) (AllReadyH.nil)
                          go_simp
                          refine hK.out _ _ (by exact SX.out _ TF.out.1) (fun hHeld => ?_)
                          clear hK K y0 y1 f0 f1
                          try simp only [Act.put, List.setIfInBounds_toArray, List.set_cons_zero, List.set_cons_succ]
                          refine wpAnyH_done (by kernel_rfl) ?_ _
                          refine NoPanic.normal ?_
                          clear hHeld
                          go_wp2_with fail
                          go_meet
                          exact ⟨ec, a9, p9, rfl, TF.out.2, TF.out.1, hE.out.1, hE.out.2⟩
                  · go_simp
                    have T220 := hid (T184.out.alloc T184.out.size (.cells #[.int .i64 (F : Int)] 3 (0, 0)))
                    have bb : Below V183.heap.size V183 (V183.alloc (.cells #[.int .i64 (F : Int)] 3 (0, 0))) := (Below.refl _ _).alloc (Nat.le_refl _) _
                    have E221 : Hid (CB (V183.alloc (.cells #[.int .i64 (F : Int)] 3 (0, 0))) V183.heap.size #[.int .i64 (F : Int)] 3) := hid (CB.new _ _)
                    have E222 := hid (E185.out.below bb E185.out.lt)
                    clear bb
                    refine hK.out _ _ (by exact SX.out _ T220.out) (fun hHeld => ?_)
                    clear hK K
                    try simp only [Act.put, List.setIfInBounds_toArray, List.set_cons_zero, List.set_cons_succ]
                    generalize (V183.alloc (.cells #[.int .i64 (F : Int)] 3 (0, 0))) = V219 at T220 E221 E222 ⊢
                    generalize V183.heap.size = eb at T220 E221 E222 ⊢
                    refine wpAnyH_ready (rs := [8]) (by kernel_rfl) (by simp) ?_
                    refine AllReadyH.cons (o := { dst := some 53, op := Go.Op.buildSlice 24 0 #[], type := 24, pos := "l18_plan.go:101", after := #[], guard := none }) rfl (fun K hK => ?_) (AllReadyH.nil)
                    · go_simp
                      have T224 := hid (T220.out.alloc T220.out.size (.cells #[] 3 (0, 0)))
                      have bb : Below V219.heap.size V219 (V219.alloc (.cells #[] 3 (0, 0))) := (Below.refl _ _).alloc (Nat.le_refl _) _
                      have E225 : Hid ((V219.alloc (.cells #[] 3 (0, 0))).ownsRow wi.heap.size 3 1 (.slice (some ⟨V219.heap.size, 0, none⟩) 0 0) 0 []) := hid (madeI (CB.new _ _) T220.out.size)
                      have E226 := hid (E221.out.below bb E221.out.lt)
                      have E227 := hid (E222.out.below bb E222.out.lt)
                      have N228 : Hid (V219.heap.size ≠ eb) := hid (by have := E221.out.lt; omega)
                      clear bb
                      refine hK.out _ _ (by exact SX.out _ T224.out) (fun hHeld => ?_)
                      clear hK K
                      try simp only [Act.put, List.setIfInBounds_toArray, List.set_cons_zero, List.set_cons_succ]
                      generalize (V219.alloc (.cells #[] 3 (0, 0))) = V223 at T224 E225 E226 E227 ⊢
                      generalize V219.heap.size = ea at T224 E225 E226 E227 N228 ⊢
                      refine wpAnyH_ready (rs := [14]) (by kernel_rfl) (by simp) ?_
                      refine AllReadyH.cons (o := { dst := some 59, op := Go.Op.call { callee := Go.Callee.builtin Go.Builtin.append, args := #[Go.Operand.tmp 53, Go.Operand.tmp 58], argTypes := #[24, 24] }, type := 24, pos := "l18_plan.go:101", after := #[{ on := 8, ground := Go.Ground.data }, { on := 13, ground := Go.Ground.data }], guard := none }) rfl (fun K hK => ?_) (AllReadyH.nil)
                      · rw [if_pos (by rfl)]
                        refine oper_marks (Operand.tmp 53) (Operand.tmp 58) 24 rfl wi.heap.size i0 Try.underlying24 hi hz0 hz1 hz2 (.slice (some ⟨ea, 0, none⟩) 0 0) rfl E225.out rfl (HMF.out.1.below T224.out) HMF.out.2 T224.out.size ?_
                        intro v7 V229 hown hgr
                        have T230 := hid (bel_grownO T224.out (Nat.le_refl _) E225.out (Nat.le_refl _) hgr)
                        have E231 := hid hown
                        have E232 := hid (E226.out.keep (hgr.block eb E226.out.lt (fun q => N228.out (by simpa [Value.ownBlock] using q.symm))))
                        have E233 := hid (cb_grown3 E227.out (by decide) E225.out hgr)
                        clear hown hgr
                        refine hK.out _ _ (by exact SX.out _ T230.out) (fun hHeld => ?_)
                        clear hK K
                        try simp only [Act.put, List.setIfInBounds_toArray, List.set_cons_zero, List.set_cons_succ]
                        refine wpAnyH_ready (rs := [17]) (by kernel_rfl) (by simp) ?_
                        refine AllReadyH.cons (o := { dst := some 62, op := Go.Op.call { callee := Go.Callee.builtin Go.Builtin.append, args := #[Go.Operand.tmp 59, Go.Operand.tmp 61], argTypes := #[24, 24] }, type := 24, pos := "l18_plan.go:101", after := #[{ on := 14, ground := Go.Ground.data }, { on := 16, ground := Go.Ground.data }, { on := 14, ground := Go.Ground.chain }], guard := none }) rfl (fun K hK => ?_) (AllReadyH.nil)
                        · rw [if_pos (by rfl)]
                          refine oper_app (Operand.tmp 59) (Operand.tmp 61) 24 rfl wi.heap.size 3 i0 (.int .i64 0) 1 8 Try.underlying24 hi hz0 hz1 hz2 rfl (by decide) v7 LF (intR (fun j => (MF j : Int)) LF) rfl E231.out ⟨eb, 0, none⟩ 1 1 [.int .i64 (F : Int)] rfl rfl (cb_srcM E232.out) (fun u hu => by simp at hu; subst hu; rfl) (by have := HMF.out.2; unfold maxLen; omega) (by have := HMF.out.2; omega) T230.out.size ?_
                          intro v8 V234 hown hgr
                          have T235 := hid (bel_grownO T230.out (Nat.le_refl _) E231.out (Nat.le_refl _) hgr)
                          have E236 := hid (cb_grown3 E233.out (by decide) E231.out hgr)
                          obtain ⟨a9, p9, rfl, hm9⟩ := MkR.of (mk := fun j => if j = LF then F else MF j) hown (marks_add MF LF F)
                          have E237 := hid hm9
                          clear hown hgr hm9
                          refine hK.out _ _ (by exact SX.out _ T235.out) (fun hHeld => ?_)
                          clear hK K
                          try simp only [Act.put, List.setIfInBounds_toArray, List.set_cons_zero, List.set_cons_succ]
                          refine wpAnyH_take (i := 18) (oi := { dst := some 63, op := Go.Op.build 120 #[(0, Go.Operand.tmp 52), (1, Go.Operand.tmp 62)], type := 120, pos := "l18_plan.go:101", after := #[{ on := 7, ground := Go.Ground.data }, { on := 17, ground := Go.Ground.data }], guard := none }) (v := ?_) rfl (by kernel_rfl) (by kernel_rfl) (by kernel_rfl) (fun _ _ _ h => h) (Or.inl ⟨by rfl, ?_⟩) (by assumption) ?_
                          rotate_left
                          · (intro w hSw; (try dsimp only at hSw); go_simp <;> try with_reducible rfl)
                          try simp only [Act.put, List.setIfInBounds_toArray, List.set_cons_zero, List.set_cons_succ]
                          have y0 : V234.cell? ⟨ec, 0, none⟩ = some (.int .i64 0) := (E236.out.cell 0).trans rfl
                          have y1 : V234.cell? ⟨ec, 1, none⟩ = some (.slice none 0 0) := (E236.out.cell 1).trans rfl
                          have f0 := E236.out.fr 0
                          have f1 := E236.out.fr 1
                          have hE : Hid (CB ((V234.setCell ⟨ec, 0, none⟩ (.int .i64 (CF + su))).setCell ⟨ec, 1, none⟩ (.slice a9 (LF + 1) p9)) ec #[.int .i64 (CF + su), .slice a9 (LF + 1) p9] 120 ∧ MkR ((V234.setCell ⟨ec, 0, none⟩ (.int .i64 (CF + su))).setCell ⟨ec, 1, none⟩ (.slice a9 (LF + 1) p9)) wi.heap.size a9 (LF + 1) p9 (fun j => if j = LF then F else MF j)) := hid ⟨(E236.out.set 0 _).set 1 _, (E237.out.set E236.out (by decide) _).set (E236.out.set 0 _) (by decide) _⟩
                          have TF : Hid (Below wi.heap.size wi ((V234.setCell ⟨ec, 0, none⟩ (.int .i64 (CF + su))).setCell ⟨ec, 1, none⟩ (.slice a9 (LF + 1) p9)) ∧ wi.heap.size ≤ ec) := hid ⟨(T235.out.setCell (by show _ ≤ ec; exact G186.out) _).setCell (by show _ ≤ ec; exact G186.out) _, G186.out⟩
                          refine wpAnyH_ready (rs := [20]) (by kernel_rfl) (by simp) ?_
                          refine AllReadyH.cons (o := { dst := none, op := Go.Op.store 120 (Go.Operand.tmp 9) (Go.Operand.tmp 63), type := 0, pos := "l18_plan.go:101", after := #[{ on := 19, ground := Go.Ground.data }, { on := 18, ground := Go.Ground.data }, { on := 17, ground := Go.Ground.chain }, { on := 0, ground := Go.Ground.phase }, { on := 1, ground := Go.Ground.phase }, { on := 2, ground := Go.Ground.phase }, { on := 3, ground := Go.Ground.phase }, { on := 4, ground := Go.Ground.phase }, { on := 5, ground := Go.Ground.phase }, { on := 6, ground := Go.Ground.phase }, { on := 7, ground := Go.Ground.phase }, { on := 8, ground := Go.Ground.phase }, { on := 9, ground := Go.Ground.phase }, { on := 10, ground := Go.Ground.phase }, { on := 11, ground := Go.Ground.phase }, { on := 12, ground := Go.Ground.phase }, { on := 13, ground := Go.Ground.phase }, { on := 14, ground := Go.Ground.phase }, { on := 15, ground := Go.Ground.phase }, { on := 16, ground := Go.Ground.phase }, { on := 17, ground := Go.Ground.phase }, { on := 18, ground := Go.Ground.phase }, { on := 19, ground := Go.Ground.phase }], guard := none }) rfl (fun K hK => ?_) (AllReadyH.nil)
                          go_simp
                          refine hK.out _ _ (by exact SX.out _ TF.out.1) (fun hHeld => ?_)
                          clear hK K y0 y1 f0 f1
                          try simp only [Act.put, List.setIfInBounds_toArray, List.set_cons_zero, List.set_cons_succ]
                          refine wpAnyH_done (by kernel_rfl) ?_ _
                          refine NoPanic.normal ?_
                          clear hHeld
                          go_wp2_with fail
                          go_meet
                          exact ⟨ec, a9, p9, rfl, TF.out.2, TF.out.1, hE.out.1, hE.out.2⟩
              case rest =>
                obtain ⟨g9, a9, p9, rfl, hg9, hb9, hc9, hm9⟩ := hcut
                obtain ⟨wd, hwd⟩ : ∃ wd, wd = wc := ⟨_, rfl⟩
                subst hwd
                have HIN : Hid (Below wi.heap.size wi wd ∧ CB wd g9 #[.int .i64 (xP su ho m CF F (e + 1) F), .slice a9 (LF + 1) p9] 120 ∧ MkR wd wi.heap.size a9 (LF + 1) p9 (fun j => if j = LF then F else MF j)) := hid ⟨hb9, by rw [xP_0]; exact hc9, hm9⟩
                have HG9 : Hid (wi.heap.size ≤ g9 ∧ wo.heap.size < wi.heap.size ∧ w.heap.size ≤ wo.heap.size) := hid ⟨hg9, HB.out.bt.lt, HA.out.bel.size⟩
                have HXF : Hid (0 ≤ xP su ho m CF F (e + 1) F ∧ xP su ho m CF F (e + 1) F ≤ 100000000000000 + 100000000000 * (F : Int)) := hid (by rw [xP_0]; have := HWF.out; have := HSH.out.1; constructor <;> omega)
                clear hb9 hc9 hm9 hg9 SX hwf1
                go_wp2
                go_loopw [10] (fun u wr => ∃ (t : Nat) (x : Int), F ≤ t ∧ t ≤ e + 1 ∧ u = .int .i64 (t : Int) ∧ 0 ≤ x ∧ x ≤ 100000000000000 + 100000000000 * (t : Int) ∧ Hid (x = xP su ho m CF F (e + 1) t) ∧ Hid (Below wi.heap.size wi wr ∧ CB wr g9 #[.int .i64 x, .slice a9 (LF + 1) p9] 120 ∧ MkR wr wi.heap.size a9 (LF + 1) p9 (fun j => if j = LF then F else MF j))) (fun u _ => e + 1 - (intOf u).toNat)
                case atStart => exact ⟨F, _, Nat.le_refl _, hF, rfl, HXF.out.1, HXF.out.2, hid rfl, HIN⟩
                case round =>
                  clear HIN HXF
                  obtain ⟨t, x, ht1, ht2, rfl, hx0, hx1, HX, HH⟩ := hrel
                  obtain ⟨wt, rfl⟩ : ∃ x, x = wr := ⟨wr, rfl⟩
                  have HWT := hid (HB.out.below HH.out.1)
                  have y0 : wt.cell? ⟨g9, 0, none⟩ = some (.int .i64 x) := (HH.out.2.1.cell 0).trans rfl
                  have y1 : wt.cell? ⟨g9, 1, none⟩ = some (.slice a9 (LF + 1) p9) := (HH.out.2.1.cell 1).trans rfl
                  by_cases hte : t < e + 1
                  · have hte2 : (t : Int) < (e : Int) + 1 := by omega
                    have f0 := HH.out.2.1.fr 0
                    have k3 : wt.cell? ⟨w.heap.size, 3, none⟩ = some (.int .i64 ho) := ((HA.out.below HWT.out.b).box.cell 3).trans rfl
                    have HSM : Hid (∀ u v, u = ((t + 1 : Nat) : Int) → v = ((e + 1 : Nat) : Int) → ∀ W, W.heap = wt.heap → Calls Try.prog 83 #[.slice (some ⟨kb, off, none⟩) n cap, .int .i64 u, .int .i64 v] W fun e' w' => e' = .returned (.int .i64 (smQ m (e + 1) - smQ m (t + 1))) ∧ w' = W) := hid (fun u v hu hv W hW => by
                      have hiw : IR W (some ⟨kb, off, none⟩) n m := by
                        have := HR.out.below (bel_on HA.out.bel HWT.out.b)
                        unfold IR World.cell? at this ⊢
                        rw [hW]; exact this
                      have := l18Sum_eq (some ⟨kb, off, none⟩) n cap m (t + 1) (e + 1) u v hu hv W (by omega) (by omega) (smB_q hn40 HQ.out) hiw
                      rwa [rsV_in m (by omega) (by omega)] at this)
                    have d1 := smq_mono (z := m) (k := t + 1) (e + 1) (by omega) (fun j hj => (HQ.out j (by omega)).1)
                    have d2 := smq_bd (z := m) (M := 1000000) (e + 1) (fun j hj => HQ.out j (by omega))
                    have d3 := smq_bd (z := m) (M := 1000000) (t + 1) (fun j hj => HQ.out j (by omega))
                    have HXS := hid (xP_s su ho m CF (F := F) (E := e + 1) (t := t) ht1)
                    obtain ⟨D, hD⟩ : ∃ D, smQ m (e + 1) - smQ m (t + 1) = D := ⟨_, rfl⟩
                    have hD0 : 0 ≤ D ∧ D ≤ 41000000 := by omega
                    rw [hD] at HSM HXS
                    have hP := IntWalk.i64_in (ho * D) (by
                      have h1 := Int.mul_nonneg HSH.out.2.1 hD0.1
                      have h2 := Int.mul_le_mul HSH.out.2.2 hD0.2 hD0.1 (by decide : (0 : Int) ≤ 1000)
                      constructor <;> omega)
                    have hP0 := Int.mul_nonneg HSH.out.2.1 hD0.1
                    have hP1 : ho * D ≤ 41000000000 := by
                      have h2 := Int.mul_le_mul HSH.out.2.2 hD0.2 hD0.1 (by decide : (0 : Int) ≤ 1000)
                      omega
                    obtain ⟨P, hPe⟩ : ∃ P, ho * D = P := ⟨_, rfl⟩
                    have HPE := hid hPe
                    rw [hPe] at hP hP0 hP1
                    have hPw : IntKind.i64.wrap (ho * D) = P := by rw [hPe]; exact hP
                    have hxw : IntKind.i64.wrap (x + P) = x + P := IntWalk.i64_in _ ⟨by omega, by omega⟩
                    have hwt : IntKind.i64.wrap ((t : Int) + 1) = (t : Int) + 1 := IntWalk.i64_in _ ⟨by omega, by omega⟩
                    have HW1 := hid hwt
                    have HXN : Hid (x + P = xP su ho m CF F (e + 1) (t + 1)) := hid (by rw [HXS.out, ← HX.out, HPE.out])
                    have HNX : Hid (Below wi.heap.size wi (wt.setCell ⟨g9, 0, none⟩ (.int .i64 (x + P))).drew ∧ CB (wt.setCell ⟨g9, 0, none⟩ (.int .i64 (x + P))).drew g9 #[.int .i64 (x + P), .slice a9 (LF + 1) p9] 120 ∧ MkR (wt.setCell ⟨g9, 0, none⟩ (.int .i64 (x + P))).drew wi.heap.size a9 (LF + 1) p9 (fun j => if j = LF then F else MF j)) := hid ⟨(HH.out.1.setCell HG9.out.1 _).drew, HH.out.2.1.set 0 _, HH.out.2.2.set HH.out.2.1 (by decide) _⟩
                    clear hD d1 d2 d3 hPe hP
                    go_wp2_with fail
                    go_region_with (go_at_call 83; go_loud (refine (HSM.out ((t : Int) + 1) ((e : Int) + 1) (by omega) (by omega) wt.drew rfl).mono ?_; rintro e' w5 ⟨rfl, ew⟩; replace ew := ew.symm; subst ew))
                    all_goals go_wp2
                    all_goals go_roundw
                    all_goals first
                      | exact ⟨t + 1, x + P, by omega, by omega, by go_num, by omega, by omega, HXN, HNX⟩
                      | (simp [intOf]; done)
                      | (simp [intOf]; omega)
                  · obtain rfl : t = e + 1 := by omega
                    have lkt : ¬ (e : Int) + 1 < (e : Int) + 1 := by omega
                    have HXE : Hid (x = (wT su ho m F F).1 + su + ho * kF m F (e + 1)) := hid (by rw [HX.out, xP_e, HCE.out])
                    have hst := best_step (S := su) (H := ho) (m := m) (F := F) (e := e + 1) (l := lb) (lF := LF) (c := c) (mk := mb) (mF := MF) HZ2.out hFe (wT_bd hn40 HSH.out.1 HSH.out.2 HQ.out F (e + 1) (by omega) (by omega)).1 (wT_bd hn40 HSH.out.1 HSH.out.2 HQ.out (e + 1) (e + 1) (by omega) (by omega)).1 HB.out.bs HCF.out
                    rw [← HXE.out] at hst
                    have HLE : Hid (lb ≤ 40) := hid (by have := HB.out.bs.le; omega)
                    have b0 : wt.cell? ⟨wo.heap.size, 0, none⟩ = some (.int .i64 c) := (HWT.out.bt.cell 0).trans rfl
                    have b1 : wt.cell? ⟨wo.heap.size, 1, none⟩ = some (.slice ab lb pb) := (HWT.out.bt.cell 1).trans rfl
                    have HWW : Hid (WB wo su ho m w.heap.size F (e + 1) c ab lb pb mb wt ∧ MkR wt wi.heap.size a9 (LF + 1) p9 (fun j => if j = LF then F else MF j)) := hid ⟨HWT.out, HH.out.2.2⟩
                    have HC9 : Hid (CB wt g9 #[.int .i64 x, .slice a9 (LF + 1) p9] 120) := hid HH.out.2.1
                    clear HX HXE hx0 hx1
                    rcases hst with ⟨hc, hnew⟩ | ⟨hc, v, hcond, hT, hFF⟩
                    · have hcd : decide (c < 0) = true := decide_eq_true hc
                      have f0 := HWT.out.bt.fr 0
                      have f1 := HWT.out.bt.fr 1
                      have HNB : Hid (WB wo su ho m w.heap.size (F + 1) (e + 1) x a9 (LF + 1) p9 (fun j => if j = LF then F else MF j) ((wt.setCell ⟨wo.heap.size, 0, none⟩ (.int .i64 x)).setCell ⟨wo.heap.size, 1, none⟩ (.slice a9 (LF + 1) p9))) := hid ⟨(HWW.out.1.b.setCell (Nat.le_refl _) _).setCell (Nat.le_refl _) _, (HWW.out.1.bt.set 0 _).set 1 _, ((HWW.out.2.mono (by have := HG9.out; omega)).set HWW.out.1.bt (by decide) _).set (HWW.out.1.bt.set 0 _) (by decide) _, hnew⟩
                      clear hnew
                      go_wp2
                      go_roundg (gk - 1)
                      case measure => omega
                      case rel => exact ⟨F + 1, _, _, _, _, _, by omega, by omega, by go_num, HNB⟩
                    · have hcd : decide (c < 0) = false := decide_eq_false (by omega)
                      have hcn : ¬ c < 0 := by omega
                      have HLS : Hid (Calls Try.prog 121 #[.agg #[.int .i64 x, .slice a9 (LF + 1) p9], .agg #[.int .i64 c, .slice ab lb pb]] wt fun e' w' => e' = .returned (.bool v) ∧ Below wt.heap.size wt w') := hid (less_any x c a9 ab (LF + 1) lb p9 pb (fun j => if j = LF then F else MF j) mb v wt (by have := HCF.out.le; omega) HLE.out HH.out.2.2.row HWT.out.mr.row hcond)
                      clear hcond
                      cases v
                      · have hnew := hFF rfl
                        have HNW := hid hnew
                        clear hFF hT hnew
                        go_wp2_with (go_at_call 121; refine HLS.out.mono ?_; rintro e' w6 ⟨rfl, b6⟩; have HNB : Hid (WB wo su ho m w.heap.size (F + 1) (e + 1) c ab lb pb mb w6) := hid ⟨(HWW.out.1.below b6).b, (HWW.out.1.below b6).bt, (HWW.out.1.below b6).mr, HNW.out⟩; clear b6)
                        go_roundg (gk - 1)
                        case measure => omega
                        case rel => exact ⟨F + 1, _, _, _, _, _, by omega, by omega, by go_num, HNB⟩
                      · have hnew := hT rfl
                        have HNW := hid hnew
                        clear hFF hT hnew
                        go_wp2_with (go_at_call 121; refine HLS.out.mono ?_; rintro e' w6 ⟨rfl, b6⟩; replace HWW : Hid (WB wo su ho m w.heap.size F (e + 1) c ab lb pb mb w6 ∧ MkR w6 wi.heap.size a9 (LF + 1) p9 (fun j => if j = LF then F else MF j)) := hid ⟨HWW.out.1.below b6, HWW.out.2.below b6⟩; replace HC9 := hid (HC9.out.below b6 HC9.out.lt); have z0 : w6.cell? ⟨g9, 0, none⟩ = some (.int .i64 x) := (HC9.out.cell 0).trans rfl; have z1 : w6.cell? ⟨g9, 1, none⟩ = some (.slice a9 (LF + 1) p9) := (HC9.out.cell 1).trans rfl; have z2 : w6.cell? ⟨wo.heap.size, 0, none⟩ = some (.int .i64 c) := (HWW.out.1.bt.cell 0).trans rfl; have z3 : w6.cell? ⟨wo.heap.size, 1, none⟩ = some (.slice ab lb pb) := (HWW.out.1.bt.cell 1).trans rfl; have f0 := HWW.out.1.bt.fr 0; have f1 := HWW.out.1.bt.fr 1; have hnew := HNW.out; have HNB : Hid (WB wo su ho m w.heap.size (F + 1) (e + 1) x a9 (LF + 1) p9 (fun j => if j = LF then F else MF j) ((w6.setCell ⟨wo.heap.size, 0, none⟩ (.int .i64 x)).setCell ⟨wo.heap.size, 1, none⟩ (.slice a9 (LF + 1) p9))) := hid ⟨(HWW.out.1.b.setCell (Nat.le_refl _) _).setCell (Nat.le_refl _) _, (HWW.out.1.bt.set 0 _).set 1 _, ((HWW.out.2.mono (by have := HG9.out; omega)).set HWW.out.1.bt (by decide) _).set (HWW.out.1.bt.set 0 _) (by decide) _, hnew⟩; clear hnew b6)
                        go_roundg (gk - 1)
                        case measure => omega
                        case rel => exact ⟨F + 1, _, _, _, _, _, by omega, by omega, by go_num, HNB⟩
          · obtain rfl : F = e + 1 := by omega
            have lkk : ¬ (e : Int) + 1 < (e : Int) + 1 := by omega
            have HAi := hid (HA.out.below HB.out.b)
            obtain ⟨hce, hche⟩ := best_end (by omega) HB.out.bs
            have HCE := hid hce
            have HCH := hid hche
            have b0 : wi.cell? ⟨wo.heap.size, 0, none⟩ = some (.int .i64 c) := (HB.out.bt.cell 0).trans rfl
            have b1 : wi.cell? ⟨wo.heap.size, 1, none⟩ = some (.slice ab lb pb) := (HB.out.bt.cell 1).trans rfl
            have hw2 : IntKind.i64.wrap ((e : Int) + 1 + 1) = (e : Int) + 1 + 1 := IntWalk.i64_in _ ⟨by omega, by omega⟩
            clear hce hche HWC
            go_wp2_with (at_builtin; go_loud (refine wpList_append_own_at _ rfl _ _ 121 rfl w.heap.size 120 i1 (.agg #[.int .i64 0, .slice none 0 0]) 2 32 Try.underlying121 hi1 hz10 hz11 hz12 rfl (by decide) (.slice (some ⟨g, 0, none⟩) (e + 1) wc) (e + 1) (wyL (fun j => (wT su ho m j j).1) a l p (e + 1)) rfl (ownsRow_below HAi.out.ws.own ((Below.refl _ _).alloc (Nat.le_refl _) _)) ⟨_, 0, none⟩ 1 1 [.int .i64 c, .slice ab lb pb] rfl rfl (cb_srcM (CB.new _ _)) (fun u hu => by simp at hu; rcases hu with rfl | rfl <;> rfl) (by unfold maxLen; omega) (by omega) (by have := HAi.out.bel.size; simp; omega) ?_; intro v9 w9 hown hgr _ _; have HOA := hid (ownsRow_below HAi.out.ws.own ((Below.refl wi.heap.size wi).alloc (Nat.le_refl _) (.cells #[.int .i64 c, .slice ab lb pb] 120 (0, 0)))); obtain ⟨wa9, wc9, rfl, hws⟩ := HAi.out.ws.grow HCE.out HCH.out HB.out.mr ((Below.refl wi.heap.size wi).alloc (Nat.le_refl _) _) hown hgr; have HNN : Hid (WA w #[.int .i64 ki, .int .i64 sz, .int .i64 su, .int .i64 ho] su ho m wa9 (e + 1 + 1) wc9 (fun j => if j = e + 1 then ab else a j) (fun j => if j = e + 1 then lb else l j) (fun j => if j = e + 1 then pb else p j) (fun j => if j = e + 1 then mb else mk j) w9) := hid ⟨bel_grownO (HAi.out.bel.alloc HAi.out.bel.size _) (Nat.le_refl _) HOA.out (Nat.le_refl _) hgr, cb_grown3 (HAi.out.box.alloc _) (by decide) HOA.out hgr, hws⟩; clear hown hgr hws HOA))
            go_roundw
            case rel => exact ⟨e + 1, _, _, _, _, _, _, by omega, rfl, by go_num, HNN⟩
            case measure => first | (simp [intOf]; done) | (simp [intOf]; omega)
      · have hzb : (m e == 0) = false := by simp [hz]
        have b1 : Below wo.heap.size wo (wo.alloc (.cells #[.int .i64 (-1), .slice none 0 0] 120 (0, 0))) := (Below.refl _ _).alloc (Nat.le_refl _) _
        have c1 : (wo.alloc (.cells #[.int .i64 (-1), .slice none 0 0] 120 (0, 0))).cell? ⟨kb, off + e, none⟩ = some (.int .i64 (m e)) := (HR.out.below (bel_on HA.out.bel b1)).cell hlt
        go_wp2
        have HW0 : Hid (WB wo su ho m w.heap.size 0 (e + 1) (-1) none 0 0 (fun _ => 0) (wo.alloc (.cells #[.int .i64 (-1), .slice none 0 0] 120 (0, 0)))) := hid ⟨(Below.refl _ _).alloc (Nat.le_refl _) _, CB.new _ _, .inl ⟨rfl, rfl, rfl⟩, best_new (e := e + 1) hz⟩
        generalize (wo.alloc (.cells #[.int .i64 (-1), .slice none 0 0] 120 (0, 0))) = WI at HW0 ⊢
        clear b1 c1 HME hz
        go_loopg [8] (e + 2) (fun k u wr => ∃ (F : Nat) (c : Int) (ab : Option Addr) (lb pb : Nat) (mb : Nat → Nat), F ≤ e + 1 ∧ k + F = e + 2 ∧ u = .int .i64 (F : Int) ∧ Hid (WB wo su ho m w.heap.size F (e + 1) c ab lb pb mb wr))
        case atStart => exact ⟨0, _, _, _, _, _, by omega, by omega, rfl, HW0⟩
        case round =>
          clear HW0
          obtain ⟨F, c, ab, lb, pb, mb, hF, hgk, rfl, HB⟩ := hrel
          obtain ⟨wi, rfl⟩ : ∃ x, x = wr := ⟨wr, rfl⟩
          by_cases hFe : F < e + 1
          · have hlt3 : (F : Int) < (e : Int) + 1 := by omega
            have hFn : (F : Int) < (n : Int) := by omega
            have cF := (HR.out.below (bel_on HA.out.bel HB.out.b)).cell (j := F) (by omega)
            by_cases hz2 : m F = 0
            · have hzb2 : (m F == 0) = true := by simp [hz2]
              have HN : Hid (WB wo su ho m w.heap.size (F + 1) (e + 1) c ab lb pb mb wi) := hid ⟨HB.out.b, HB.out.bt, HB.out.mr, best_skip hz2 HB.out.bs⟩
              clear hz2
              go_wp2
              go_roundg (gk - 1)
              case measure => omega
              case rel => exact ⟨F + 1, _, _, _, _, _, by omega, by omega, by go_num, HN⟩
            · have hzb2 : (m F == 0) = false := by simp [hz2]
              have HZ2 : Hid (m F ≠ 0) := hz2
              have HMF : Hid (MkR wi w.heap.size (a F) (l F) (p F) (mk F) ∧ l F ≤ 40) := hid ⟨((HA.out.ws.mks F hFe).1.below HB.out.b), by have := (HA.out.ws.mks F hFe).2.le; omega⟩
              have HCF : Hid (IsCh su ho m (l F) F (mk F)) := hid (HA.out.ws.mks F hFe).2
              have SX : Hid (∀ W, Below wi.heap.size wi W → W.cell? ⟨g, F * 2, none⟩ = some (.int .i64 (wT su ho m F F).1) ∧ W.cell? ⟨g, F * 2 + 1, none⟩ = some (.slice (a F) (l F) (p F)) ∧ W.cell? ⟨w.heap.size, 2, none⟩ = some (.int .i64 su)) := hid (fun W b => by
                obtain ⟨q1, q2⟩ := HWC.out W (bel_on HB.out.b b) F hFe
                exact ⟨q1, q2, ((HA.out.below (bel_on HB.out.b b)).box.cell 2).trans rfl⟩)
              have HWF : Hid (0 ≤ (wT su ho m F F).1 ∧ (wT su ho m F F).1 ≤ 2000000000000 * (F : Int)) := hid (wT_bd hn40 HSH.out.1 HSH.out.2 HQ.out F F (by omega) (by omega))
              have hwf1 : IntKind.i64.wrap ((wT su ho m F F).1 + su) = (wT su ho m F F).1 + su := IntWalk.i64_in _ (by have := HWF.out; have := HSH.out.1; constructor <;> omega)
              obtain ⟨CF, hCF⟩ : ∃ x, (wT su ho m F F).1 = x := ⟨_, rfl⟩
              obtain ⟨AF, hAF⟩ : ∃ x, a F = x := ⟨_, rfl⟩
              obtain ⟨LF, hLF⟩ : ∃ x, l F = x := ⟨_, rfl⟩
              obtain ⟨PF, hPF⟩ : ∃ x, p F = x := ⟨_, rfl⟩
              obtain ⟨MF, hMF⟩ : ∃ x, mk F = x := ⟨_, rfl⟩
              rw [hCF, hAF, hLF, hPF] at SX
              rw [hAF, hLF, hPF, hMF] at HMF
              rw [hLF, hMF] at HCF
              rw [hCF] at HWF hwf1
              have HCE : Hid ((wT su ho m F F).1 = CF) := hCF
              clear hCF hAF hLF hPF hMF hz2
              go_upto_region 12 with fail
              go_cut [9] from 35 to 90 (fun s9 wx => ∃ g9 a9 p9, s9 = .pointer (some ⟨g9, 0, none⟩) ∧ wi.heap.size ≤ g9 ∧ Below wi.heap.size wi wx ∧ CB wx g9 #[.int .i64 (CF + su), .slice a9 (LF + 1) p9] 120 ∧ MkR wx wi.heap.size a9 (LF + 1) p9 (fun j => if j = LF then F else MF j))
              case first =>
                refine wp_region_noPanic ?_
                refine wp_region_held_drew (S := fun w' => w'.cell? ⟨g, F * 2, none⟩ = some (.int .i64 CF) ∧ w'.cell? ⟨g, F * 2 + 1, none⟩ = some (.slice AF LF PF) ∧ w'.cell? ⟨w.heap.size, 2, none⟩ = some (.int .i64 su)) (by kernel_rfl) (by exact SX.out _ (Below.refl _ _).drew) (fun hHeld => ?_)
                have TD : Hid (Below wi.heap.size wi wi.drew) := hid (Below.refl _ _).drew
                generalize hVD : wi.drew = VD at TD hHeld ⊢
                clear hVD
                refine wpAnyH_take (i := 0) (oi := { dst := some 45, op := Go.Op.move (Go.Operand.tmp 5), type := 121, pos := "l18_plan.go:101", after := #[], guard := none }) (v := ?_) rfl (by kernel_rfl) (by kernel_rfl) (by kernel_rfl) (fun _ _ _ h => h) (Or.inl ⟨by rfl, ?_⟩) (by assumption) ?_
                rotate_left
                · (intro w hSw; (try dsimp only at hSw); go_simp <;> try with_reducible rfl)
                try simp only [Act.put, List.setIfInBounds_toArray, List.set_cons_zero, List.set_cons_succ]
                refine wpAnyH_take (i := 1) (oi := { dst := some 46, op := Go.Op.move (Go.Operand.tmp 8), type := 3, pos := "l18_plan.go:101", after := #[], guard := none }) (v := ?_) rfl (by kernel_rfl) (by kernel_rfl) (by kernel_rfl) (fun _ _ _ h => h) (Or.inl ⟨by rfl, ?_⟩) (by assumption) ?_
                rotate_left
                · (intro w hSw; (try dsimp only at hSw); go_simp <;> try with_reducible rfl)
                try simp only [Act.put, List.setIfInBounds_toArray, List.set_cons_zero, List.set_cons_succ]
                refine wpAnyH_take (i := 2) (oi := { dst := some 47, op := Go.Op.indexAddr 121 (Go.Operand.tmp 45) (Go.Operand.tmp 46), type := 0, pos := "l18_plan.go:101", after := #[{ on := 0, ground := Go.Ground.data }, { on := 1, ground := Go.Ground.data }], guard := none }) (v := ?_) rfl (by kernel_rfl) (by kernel_rfl) (by kernel_rfl) (fun _ _ _ h => h) (Or.inl ⟨by rfl, ?_⟩) (by assumption) ?_
                rotate_left
                · (intro w hSw; (try dsimp only at hSw); go_simp <;> try with_reducible rfl)
                try simp only [Act.put, List.setIfInBounds_toArray, List.set_cons_zero, List.set_cons_succ]
                refine wpAnyH_take (i := 3) (oi := { dst := some 48, op := Go.Op.fieldAddr 120 (Go.Operand.tmp 47) 0, type := 0, pos := "l18_plan.go:101", after := #[{ on := 2, ground := Go.Ground.data }], guard := none }) (v := ?_) rfl (by kernel_rfl) (by kernel_rfl) (by kernel_rfl) (fun _ _ _ h => h) (Or.inl ⟨by rfl, ?_⟩) (by assumption) ?_
                rotate_left
                · (intro w hSw; (try dsimp only at hSw); go_simp <;> try with_reducible rfl)
                try simp only [Act.put, List.setIfInBounds_toArray, List.set_cons_zero, List.set_cons_succ]
                refine wpAnyH_take (i := 4) (oi := { dst := some 49, op := Go.Op.load 3 (Go.Operand.tmp 48), type := 3, pos := "l18_plan.go:101", after := #[{ on := 3, ground := Go.Ground.data }], guard := none }) (v := ?_) rfl (by kernel_rfl) (by kernel_rfl) (by kernel_rfl) (fun _ _ _ h => h) (Or.inl ⟨by rfl, ?_⟩) (by assumption) ?_
                rotate_left
                · (intro w hSw; (try dsimp only at hSw); go_simp <;> try with_reducible rfl)
                try simp only [Act.put, List.setIfInBounds_toArray, List.set_cons_zero, List.set_cons_succ]
                refine wpAnyH_take (i := 5) (oi := { dst := some 50, op := Go.Op.fieldAddr 48 (Go.Operand.tmp 2) 2, type := 0, pos := "l18_plan.go:101", after := #[], guard := none }) (v := ?_) rfl (by kernel_rfl) (by kernel_rfl) (by kernel_rfl) (fun _ _ _ h => h) (Or.inl ⟨by rfl, ?_⟩) (by assumption) ?_
                rotate_left
                · (intro w hSw; (try dsimp only at hSw); go_simp <;> try with_reducible rfl)
                try simp only [Act.put, List.setIfInBounds_toArray, List.set_cons_zero, List.set_cons_succ]
                refine wpAnyH_take (i := 6) (oi := { dst := some 51, op := Go.Op.load 3 (Go.Operand.tmp 50), type := 3, pos := "l18_plan.go:101", after := #[{ on := 5, ground := Go.Ground.data }], guard := none }) (v := ?_) rfl (by kernel_rfl) (by kernel_rfl) (by kernel_rfl) (fun _ _ _ h => h) (Or.inl ⟨by rfl, ?_⟩) (by assumption) ?_
                rotate_left
                · (intro w hSw; (try dsimp only at hSw); go_simp <;> try with_reducible rfl)
                try simp only [Act.put, List.setIfInBounds_toArray, List.set_cons_zero, List.set_cons_succ]
                refine wpAnyH_take (i := 7) (oi := { dst := some 52, op := Go.Op.binOp Go.BinOp.add 3 (Go.Operand.tmp 49) (Go.Operand.tmp 51) 3, type := 3, pos := "l18_plan.go:101", after := #[{ on := 4, ground := Go.Ground.data }, { on := 6, ground := Go.Ground.data }], guard := none }) (v := ?_) rfl (by kernel_rfl) (by kernel_rfl) (by kernel_rfl) (fun _ _ _ h => h) (Or.inl ⟨by rfl, ?_⟩) (by assumption) ?_
                rotate_left
                · (intro w hSw; (try dsimp only at hSw); go_simp <;> try with_reducible rfl)
                try simp only [Act.put, List.setIfInBounds_toArray, List.set_cons_zero, List.set_cons_succ]
                refine wpAnyH_take (i := 9) (oi := { dst := some 54, op := Go.Op.move (Go.Operand.tmp 5), type := 121, pos := "l18_plan.go:101", after := #[], guard := none }) (v := ?_) rfl (by kernel_rfl) (by kernel_rfl) (by kernel_rfl) (fun _ _ _ h => h) (Or.inl ⟨by rfl, ?_⟩) (by assumption) ?_
                rotate_left
                · (intro w hSw; (try dsimp only at hSw); go_simp <;> try with_reducible rfl)
                try simp only [Act.put, List.setIfInBounds_toArray, List.set_cons_zero, List.set_cons_succ]
                refine wpAnyH_take (i := 10) (oi := { dst := some 55, op := Go.Op.move (Go.Operand.tmp 8), type := 3, pos := "l18_plan.go:101", after := #[], guard := none }) (v := ?_) rfl (by kernel_rfl) (by kernel_rfl) (by kernel_rfl) (fun _ _ _ h => h) (Or.inl ⟨by rfl, ?_⟩) (by assumption) ?_
                rotate_left
                · (intro w hSw; (try dsimp only at hSw); go_simp <;> try with_reducible rfl)
                try simp only [Act.put, List.setIfInBounds_toArray, List.set_cons_zero, List.set_cons_succ]
                refine wpAnyH_take (i := 11) (oi := { dst := some 56, op := Go.Op.indexAddr 121 (Go.Operand.tmp 54) (Go.Operand.tmp 55), type := 0, pos := "l18_plan.go:101", after := #[{ on := 9, ground := Go.Ground.data }, { on := 10, ground := Go.Ground.data }], guard := none }) (v := ?_) rfl (by kernel_rfl) (by kernel_rfl) (by kernel_rfl) (fun _ _ _ h => h) (Or.inl ⟨by rfl, ?_⟩) (by assumption) ?_
                rotate_left
                · (intro w hSw; (try dsimp only at hSw); go_simp <;> try with_reducible rfl)
                try simp only [Act.put, List.setIfInBounds_toArray, List.set_cons_zero, List.set_cons_succ]
                refine wpAnyH_take (i := 12) (oi := { dst := some 57, op := Go.Op.fieldAddr 120 (Go.Operand.tmp 56) 1, type := 0, pos := "l18_plan.go:101", after := #[{ on := 11, ground := Go.Ground.data }], guard := none }) (v := ?_) rfl (by kernel_rfl) (by kernel_rfl) (by kernel_rfl) (fun _ _ _ h => h) (Or.inl ⟨by rfl, ?_⟩) (by assumption) ?_
                rotate_left
                · (intro w hSw; (try dsimp only at hSw); go_simp <;> try with_reducible rfl)
                try simp only [Act.put, List.setIfInBounds_toArray, List.set_cons_zero, List.set_cons_succ]
                refine wpAnyH_take (i := 13) (oi := { dst := some 58, op := Go.Op.load 24 (Go.Operand.tmp 57), type := 24, pos := "l18_plan.go:101", after := #[{ on := 12, ground := Go.Ground.data }], guard := none }) (v := ?_) rfl (by kernel_rfl) (by kernel_rfl) (by kernel_rfl) (fun _ _ _ h => h) (Or.inl ⟨by rfl, ?_⟩) (by assumption) ?_
                rotate_left
                · (intro w hSw; (try dsimp only at hSw); go_simp <;> try with_reducible rfl)
                try simp only [Act.put, List.setIfInBounds_toArray, List.set_cons_zero, List.set_cons_succ]
                refine wpAnyH_take (i := 15) (oi := { dst := some 60, op := Go.Op.move (Go.Operand.tmp 8), type := 3, pos := "l18_plan.go:101", after := #[], guard := none }) (v := ?_) rfl (by kernel_rfl) (by kernel_rfl) (by kernel_rfl) (fun _ _ _ h => h) (Or.inl ⟨by rfl, ?_⟩) (by assumption) ?_
                rotate_left
                · (intro w hSw; (try dsimp only at hSw); go_simp <;> try with_reducible rfl)
                try simp only [Act.put, List.setIfInBounds_toArray, List.set_cons_zero, List.set_cons_succ]
                refine wpAnyH_ready (rs := [8, 16, 19]) (by kernel_rfl) (by simp) ?_
                refine AllReadyH.cons (o := { dst := some 53, op := Go.Op.buildSlice 24 0 #[], type := 24, pos := "l18_plan.go:101", after := #[], guard := none }) rfl (fun K hK => ?_) (AllReadyH.cons (o := { dst := some 61, op := Go.Op.buildSlice 24 1 #[(0, Go.Operand.tmp 60)], type := 24, pos := "l18_plan.go:101", after := #[{ on := 15, ground := Go.Ground.data }], guard := none }) rfl (fun K hK => ?_) (AllReadyH.cons (o := { dst := some 9, op := Go.Op.alloc 120, type := 0, pos := "l18_plan.go:101", after := #[], guard := none }) rfl (fun K hK => ?_) (AllReadyH.nil)))
                · go_simp
                  have T2 := hid (TD.out.alloc TD.out.size (.cells #[] 3 (0, 0)))
                  have bb : Below VD.heap.size VD (VD.alloc (.cells #[] 3 (0, 0))) := (Below.refl _ _).alloc (Nat.le_refl _) _
                  have E3 : Hid ((VD.alloc (.cells #[] 3 (0, 0))).ownsRow wi.heap.size 3 1 (.slice (some ⟨VD.heap.size, 0, none⟩) 0 0) 0 []) := hid (madeI (CB.new _ _) TD.out.size)
                  clear bb
                  refine hK.out _ _ (by exact SX.out _ T2.out) (fun hHeld => ?_)
                  clear hK K
                  try simp only [Act.put, List.setIfInBounds_toArray, List.set_cons_zero, List.set_cons_succ]
                  generalize (VD.alloc (.cells #[] 3 (0, 0))) = V1 at T2 E3 ⊢
                  generalize VD.heap.size = ea at T2 E3 ⊢
                  refine wpAnyH_ready (rs := [14, 16, 19]) (by kernel_rfl) (by simp) ?_
                  refine AllReadyH.cons (o := { dst := some 59, op := Go.Op.call { callee := Go.Callee.builtin Go.Builtin.append, args := #[Go.Operand.tmp 53, Go.Operand.tmp 58], argTypes := #[24, 24] }, type := 24, pos := "l18_plan.go:101", after := #[{ on := 8, ground := Go.Ground.data }, { on := 13, ground := Go.Ground.data }], guard := none }) rfl (fun K hK => ?_) (AllReadyH.cons (o := { dst := some 61, op := Go.Op.buildSlice 24 1 #[(0, Go.Operand.tmp 60)], type := 24, pos := "l18_plan.go:101", after := #[{ on := 15, ground := Go.Ground.data }], guard := none }) rfl (fun K hK => ?_) (AllReadyH.cons (o := { dst := some 9, op := Go.Op.alloc 120, type := 0, pos := "l18_plan.go:101", after := #[], guard := none }) rfl (fun K hK => ?_) (AllReadyH.nil)))
                  · rw [if_pos (by rfl)]
                    refine oper_marks (Operand.tmp 53) (Operand.tmp 58) 24 rfl wi.heap.size i0 Try.underlying24 hi hz0 hz1 hz2 (.slice (some ⟨ea, 0, none⟩) 0 0) rfl E3.out rfl (HMF.out.1.below T2.out) HMF.out.2 T2.out.size ?_
                    intro v7 V4 hown hgr
                    have T5 := hid (bel_grownO T2.out (Nat.le_refl _) E3.out (Nat.le_refl _) hgr)
                    have E6 := hid hown
                    clear hown hgr
                    refine hK.out _ _ (by exact SX.out _ T5.out) (fun hHeld => ?_)
                    clear hK K
                    try simp only [Act.put, List.setIfInBounds_toArray, List.set_cons_zero, List.set_cons_succ]
                    refine wpAnyH_ready (rs := [16, 19]) (by kernel_rfl) (by simp) ?_
                    refine AllReadyH.cons (o := { dst := some 61, op := Go.Op.buildSlice 24 1 #[(0, Go.Operand.tmp 60)], type := 24, pos := "l18_plan.go:101", after := #[{ on := 15, ground := Go.Ground.data }], guard := none }) rfl (fun K hK => ?_) (AllReadyH.cons (o := { dst := some 9, op := Go.Op.alloc 120, type := 0, pos := "l18_plan.go:101", after := #[], guard := none }) rfl (fun K hK => ?_) (AllReadyH.nil))
                    · go_simp
                      have T8 := hid (T5.out.alloc T5.out.size (.cells #[.int .i64 (F : Int)] 3 (0, 0)))
                      have bb : Below V4.heap.size V4 (V4.alloc (.cells #[.int .i64 (F : Int)] 3 (0, 0))) := (Below.refl _ _).alloc (Nat.le_refl _) _
                      have E9 : Hid (CB (V4.alloc (.cells #[.int .i64 (F : Int)] 3 (0, 0))) V4.heap.size #[.int .i64 (F : Int)] 3) := hid (CB.new _ _)
                      have E10 := hid (ownsRow_below E6.out bb)
                      clear bb
                      refine hK.out _ _ (by exact SX.out _ T8.out) (fun hHeld => ?_)
                      clear hK K
                      try simp only [Act.put, List.setIfInBounds_toArray, List.set_cons_zero, List.set_cons_succ]
                      generalize (V4.alloc (.cells #[.int .i64 (F : Int)] 3 (0, 0))) = V7 at T8 E9 E10 ⊢
                      generalize V4.heap.size = eb at T8 E9 E10 ⊢
                      refine wpAnyH_ready (rs := [17, 19]) (by kernel_rfl) (by simp) ?_
                      refine AllReadyH.cons (o := { dst := some 62, op := Go.Op.call { callee := Go.Callee.builtin Go.Builtin.append, args := #[Go.Operand.tmp 59, Go.Operand.tmp 61], argTypes := #[24, 24] }, type := 24, pos := "l18_plan.go:101", after := #[{ on := 14, ground := Go.Ground.data }, { on := 16, ground := Go.Ground.data }, { on := 14, ground := Go.Ground.chain }], guard := none }) rfl (fun K hK => ?_) (AllReadyH.cons (o := { dst := some 9, op := Go.Op.alloc 120, type := 0, pos := "l18_plan.go:101", after := #[], guard := none }) rfl (fun K hK => ?_) (AllReadyH.nil))
                      · rw [if_pos (by rfl)]
                        refine oper_app (Operand.tmp 59) (Operand.tmp 61) 24 rfl wi.heap.size 3 i0 (.int .i64 0) 1 8 Try.underlying24 hi hz0 hz1 hz2 rfl (by decide) v7 LF (intR (fun j => (MF j : Int)) LF) rfl E10.out ⟨eb, 0, none⟩ 1 1 [.int .i64 (F : Int)] rfl rfl (cb_srcM E9.out) (fun u hu => by simp at hu; subst hu; rfl) (by have := HMF.out.2; unfold maxLen; omega) (by have := HMF.out.2; omega) T8.out.size ?_
                        intro v8 V11 hown hgr
                        have T12 := hid (bel_grownO T8.out (Nat.le_refl _) E10.out (Nat.le_refl _) hgr)
                        obtain ⟨a9, p9, rfl, hm9⟩ := MkR.of (mk := fun j => if j = LF then F else MF j) hown (marks_add MF LF F)
                        have E13 := hid hm9
                        clear hown hgr hm9
                        refine hK.out _ _ (by exact SX.out _ T12.out) (fun hHeld => ?_)
                        clear hK K
                        try simp only [Act.put, List.setIfInBounds_toArray, List.set_cons_zero, List.set_cons_succ]
                        refine wpAnyH_take (i := 18) (oi := { dst := some 63, op := Go.Op.build 120 #[(0, Go.Operand.tmp 52), (1, Go.Operand.tmp 62)], type := 120, pos := "l18_plan.go:101", after := #[{ on := 7, ground := Go.Ground.data }, { on := 17, ground := Go.Ground.data }], guard := none }) (v := ?_) rfl (by kernel_rfl) (by kernel_rfl) (by kernel_rfl) (fun _ _ _ h => h) (Or.inl ⟨by rfl, ?_⟩) (by assumption) ?_
                        rotate_left
                        · (intro w hSw; (try dsimp only at hSw); go_simp <;> try with_reducible rfl)
                        try simp only [Act.put, List.setIfInBounds_toArray, List.set_cons_zero, List.set_cons_succ]
                        refine wpAnyH_ready (rs := [19]) (by kernel_rfl) (by simp) ?_
                        refine AllReadyH.cons (o := { dst := some 9, op := Go.Op.alloc 120, type := 0, pos := "l18_plan.go:101", after := #[], guard := none }) rfl (fun K hK => ?_) (AllReadyH.nil)
                        · go_simp
                          have T15 := hid (T12.out.alloc T12.out.size (.cells #[.int .i64 0, .slice none 0 0] 120 (0, 0)))
                          have bb : Below V11.heap.size V11 (V11.alloc (.cells #[.int .i64 0, .slice none 0 0] 120 (0, 0))) := (Below.refl _ _).alloc (Nat.le_refl _) _
                          have E16 : Hid (CB (V11.alloc (.cells #[.int .i64 0, .slice none 0 0] 120 (0, 0))) V11.heap.size #[.int .i64 0, .slice none 0 0] 120) := hid (CB.new _ _)
                          have E17 := hid (E13.out.below bb)
                          have G18 : Hid (wi.heap.size ≤ V11.heap.size) := hid T12.out.size
                          clear bb
                          refine hK.out _ _ (by exact SX.out _ T15.out) (fun hHeld => ?_)
                          clear hK K
                          try simp only [Act.put, List.setIfInBounds_toArray, List.set_cons_zero, List.set_cons_succ]
                          generalize (V11.alloc (.cells #[.int .i64 0, .slice none 0 0] 120 (0, 0))) = V14 at T15 E16 E17 ⊢
                          generalize V11.heap.size = ec at T15 E16 E17 G18 ⊢
                          have y0 : V14.cell? ⟨ec, 0, none⟩ = some (.int .i64 0) := (E16.out.cell 0).trans rfl
                          have y1 : V14.cell? ⟨ec, 1, none⟩ = some (.slice none 0 0) := (E16.out.cell 1).trans rfl
                          have f0 := E16.out.fr 0
                          have f1 := E16.out.fr 1
                          have hE : Hid (CB ((V14.setCell ⟨ec, 0, none⟩ (.int .i64 (CF + su))).setCell ⟨ec, 1, none⟩ (.slice a9 (LF + 1) p9)) ec #[.int .i64 (CF + su), .slice a9 (LF + 1) p9] 120 ∧ MkR ((V14.setCell ⟨ec, 0, none⟩ (.int .i64 (CF + su))).setCell ⟨ec, 1, none⟩ (.slice a9 (LF + 1) p9)) wi.heap.size a9 (LF + 1) p9 (fun j => if j = LF then F else MF j)) := hid ⟨(E16.out.set 0 _).set 1 _, (E17.out.set E16.out (by decide) _).set (E16.out.set 0 _) (by decide) _⟩
                          have TF : Hid (Below wi.heap.size wi ((V14.setCell ⟨ec, 0, none⟩ (.int .i64 (CF + su))).setCell ⟨ec, 1, none⟩ (.slice a9 (LF + 1) p9)) ∧ wi.heap.size ≤ ec) := hid ⟨(T15.out.setCell (by show _ ≤ ec; exact G18.out) _).setCell (by show _ ≤ ec; exact G18.out) _, G18.out⟩
                          refine wpAnyH_ready (rs := [20]) (by kernel_rfl) (by simp) ?_
                          refine AllReadyH.cons (o := { dst := none, op := Go.Op.store 120 (Go.Operand.tmp 9) (Go.Operand.tmp 63), type := 0, pos := "l18_plan.go:101", after := #[{ on := 19, ground := Go.Ground.data }, { on := 18, ground := Go.Ground.data }, { on := 17, ground := Go.Ground.chain }, { on := 0, ground := Go.Ground.phase }, { on := 1, ground := Go.Ground.phase }, { on := 2, ground := Go.Ground.phase }, { on := 3, ground := Go.Ground.phase }, { on := 4, ground := Go.Ground.phase }, { on := 5, ground := Go.Ground.phase }, { on := 6, ground := Go.Ground.phase }, { on := 7, ground := Go.Ground.phase }, { on := 8, ground := Go.Ground.phase }, { on := 9, ground := Go.Ground.phase }, { on := 10, ground := Go.Ground.phase }, { on := 11, ground := Go.Ground.phase }, { on := 12, ground := Go.Ground.phase }, { on := 13, ground := Go.Ground.phase }, { on := 14, ground := Go.Ground.phase }, { on := 15, ground := Go.Ground.phase }, { on := 16, ground := Go.Ground.phase }, { on := 17, ground := Go.Ground.phase }, { on := 18, ground := Go.Ground.phase }, { on := 19, ground := Go.Ground.phase }], guard := none }) rfl (fun K hK => ?_) (AllReadyH.nil)
                          go_simp
                          refine hK.out _ _ (by exact SX.out _ TF.out.1) (fun hHeld => ?_)
                          clear hK K y0 y1 f0 f1
                          try simp only [Act.put, List.setIfInBounds_toArray, List.set_cons_zero, List.set_cons_succ]
                          refine wpAnyH_done (by kernel_rfl) ?_ _
                          refine NoPanic.normal ?_
                          clear hHeld
                          go_wp2_with fail
                          go_meet
                          exact ⟨ec, a9, p9, rfl, TF.out.2, TF.out.1, hE.out.1, hE.out.2⟩
                      · go_simp
                        have T20 := hid (T8.out.alloc T8.out.size (.cells #[.int .i64 0, .slice none 0 0] 120 (0, 0)))
                        have bb : Below V7.heap.size V7 (V7.alloc (.cells #[.int .i64 0, .slice none 0 0] 120 (0, 0))) := (Below.refl _ _).alloc (Nat.le_refl _) _
                        have E21 : Hid (CB (V7.alloc (.cells #[.int .i64 0, .slice none 0 0] 120 (0, 0))) V7.heap.size #[.int .i64 0, .slice none 0 0] 120) := hid (CB.new _ _)
                        have E22 := hid (ownsRow_below E10.out bb)
                        have E23 := hid (E9.out.below bb E9.out.lt)
                        have G24 : Hid (wi.heap.size ≤ V7.heap.size) := hid T8.out.size
                        clear bb
                        refine hK.out _ _ (by exact SX.out _ T20.out) (fun hHeld => ?_)
                        clear hK K
                        try simp only [Act.put, List.setIfInBounds_toArray, List.set_cons_zero, List.set_cons_succ]
                        generalize (V7.alloc (.cells #[.int .i64 0, .slice none 0 0] 120 (0, 0))) = V19 at T20 E21 E22 E23 ⊢
                        generalize V7.heap.size = ec at T20 E21 E22 E23 G24 ⊢
                        refine wpAnyH_ready (rs := [17]) (by kernel_rfl) (by simp) ?_
                        refine AllReadyH.cons (o := { dst := some 62, op := Go.Op.call { callee := Go.Callee.builtin Go.Builtin.append, args := #[Go.Operand.tmp 59, Go.Operand.tmp 61], argTypes := #[24, 24] }, type := 24, pos := "l18_plan.go:101", after := #[{ on := 14, ground := Go.Ground.data }, { on := 16, ground := Go.Ground.data }, { on := 14, ground := Go.Ground.chain }], guard := none }) rfl (fun K hK => ?_) (AllReadyH.nil)
                        · rw [if_pos (by rfl)]
                          refine oper_app (Operand.tmp 59) (Operand.tmp 61) 24 rfl wi.heap.size 3 i0 (.int .i64 0) 1 8 Try.underlying24 hi hz0 hz1 hz2 rfl (by decide) v7 LF (intR (fun j => (MF j : Int)) LF) rfl E22.out ⟨eb, 0, none⟩ 1 1 [.int .i64 (F : Int)] rfl rfl (cb_srcM E23.out) (fun u hu => by simp at hu; subst hu; rfl) (by have := HMF.out.2; unfold maxLen; omega) (by have := HMF.out.2; omega) T20.out.size ?_
                          intro v8 V25 hown hgr
                          have T26 := hid (bel_grownO T20.out (Nat.le_refl _) E22.out (Nat.le_refl _) hgr)
                          have E27 := hid (cb_grown3 E21.out (by decide) E22.out hgr)
                          obtain ⟨a9, p9, rfl, hm9⟩ := MkR.of (mk := fun j => if j = LF then F else MF j) hown (marks_add MF LF F)
                          have E28 := hid hm9
                          clear hown hgr hm9
                          refine hK.out _ _ (by exact SX.out _ T26.out) (fun hHeld => ?_)
                          clear hK K
                          try simp only [Act.put, List.setIfInBounds_toArray, List.set_cons_zero, List.set_cons_succ]
                          refine wpAnyH_take (i := 18) (oi := { dst := some 63, op := Go.Op.build 120 #[(0, Go.Operand.tmp 52), (1, Go.Operand.tmp 62)], type := 120, pos := "l18_plan.go:101", after := #[{ on := 7, ground := Go.Ground.data }, { on := 17, ground := Go.Ground.data }], guard := none }) (v := ?_) rfl (by kernel_rfl) (by kernel_rfl) (by kernel_rfl) (fun _ _ _ h => h) (Or.inl ⟨by rfl, ?_⟩) (by assumption) ?_
                          rotate_left
                          · (intro w hSw; (try dsimp only at hSw); go_simp <;> try with_reducible rfl)
                          try simp only [Act.put, List.setIfInBounds_toArray, List.set_cons_zero, List.set_cons_succ]
                          have y0 : V25.cell? ⟨ec, 0, none⟩ = some (.int .i64 0) := (E27.out.cell 0).trans rfl
                          have y1 : V25.cell? ⟨ec, 1, none⟩ = some (.slice none 0 0) := (E27.out.cell 1).trans rfl
                          have f0 := E27.out.fr 0
                          have f1 := E27.out.fr 1
                          have hE : Hid (CB ((V25.setCell ⟨ec, 0, none⟩ (.int .i64 (CF + su))).setCell ⟨ec, 1, none⟩ (.slice a9 (LF + 1) p9)) ec #[.int .i64 (CF + su), .slice a9 (LF + 1) p9] 120 ∧ MkR ((V25.setCell ⟨ec, 0, none⟩ (.int .i64 (CF + su))).setCell ⟨ec, 1, none⟩ (.slice a9 (LF + 1) p9)) wi.heap.size a9 (LF + 1) p9 (fun j => if j = LF then F else MF j)) := hid ⟨(E27.out.set 0 _).set 1 _, (E28.out.set E27.out (by decide) _).set (E27.out.set 0 _) (by decide) _⟩
                          have TF : Hid (Below wi.heap.size wi ((V25.setCell ⟨ec, 0, none⟩ (.int .i64 (CF + su))).setCell ⟨ec, 1, none⟩ (.slice a9 (LF + 1) p9)) ∧ wi.heap.size ≤ ec) := hid ⟨(T26.out.setCell (by show _ ≤ ec; exact G24.out) _).setCell (by show _ ≤ ec; exact G24.out) _, G24.out⟩
                          refine wpAnyH_ready (rs := [20]) (by kernel_rfl) (by simp) ?_
                          refine AllReadyH.cons (o := { dst := none, op := Go.Op.store 120 (Go.Operand.tmp 9) (Go.Operand.tmp 63), type := 0, pos := "l18_plan.go:101", after := #[{ on := 19, ground := Go.Ground.data }, { on := 18, ground := Go.Ground.data }, { on := 17, ground := Go.Ground.chain }, { on := 0, ground := Go.Ground.phase }, { on := 1, ground := Go.Ground.phase }, { on := 2, ground := Go.Ground.phase }, { on := 3, ground := Go.Ground.phase }, { on := 4, ground := Go.Ground.phase }, { on := 5, ground := Go.Ground.phase }, { on := 6, ground := Go.Ground.phase }, { on := 7, ground := Go.Ground.phase }, { on := 8, ground := Go.Ground.phase }, { on := 9, ground := Go.Ground.phase }, { on := 10, ground := Go.Ground.phase }, { on := 11, ground := Go.Ground.phase }, { on := 12, ground := Go.Ground.phase }, { on := 13, ground := Go.Ground.phase }, { on := 14, ground := Go.Ground.phase }, { on := 15, ground := Go.Ground.phase }, { on := 16, ground := Go.Ground.phase }, { on := 17, ground := Go.Ground.phase }, { on := 18, ground := Go.Ground.phase }, { on := 19, ground := Go.Ground.phase }], guard := none }) rfl (fun K hK => ?_) (AllReadyH.nil)
                          go_simp
                          refine hK.out _ _ (by exact SX.out _ TF.out.1) (fun hHeld => ?_)
                          clear hK K y0 y1 f0 f1
                          try simp only [Act.put, List.setIfInBounds_toArray, List.set_cons_zero, List.set_cons_succ]
                          refine wpAnyH_done (by kernel_rfl) ?_ _
                          refine NoPanic.normal ?_
                          clear hHeld
                          go_wp2_with fail
                          go_meet
                          exact ⟨ec, a9, p9, rfl, TF.out.2, TF.out.1, hE.out.1, hE.out.2⟩
                    · go_simp
                      have T30 := hid (T5.out.alloc T5.out.size (.cells #[.int .i64 0, .slice none 0 0] 120 (0, 0)))
                      have bb : Below V4.heap.size V4 (V4.alloc (.cells #[.int .i64 0, .slice none 0 0] 120 (0, 0))) := (Below.refl _ _).alloc (Nat.le_refl _) _
                      have E31 : Hid (CB (V4.alloc (.cells #[.int .i64 0, .slice none 0 0] 120 (0, 0))) V4.heap.size #[.int .i64 0, .slice none 0 0] 120) := hid (CB.new _ _)
                      have E32 := hid (ownsRow_below E6.out bb)
                      have G33 : Hid (wi.heap.size ≤ V4.heap.size) := hid T5.out.size
                      clear bb
                      refine hK.out _ _ (by exact SX.out _ T30.out) (fun hHeld => ?_)
                      clear hK K
                      try simp only [Act.put, List.setIfInBounds_toArray, List.set_cons_zero, List.set_cons_succ]
                      generalize (V4.alloc (.cells #[.int .i64 0, .slice none 0 0] 120 (0, 0))) = V29 at T30 E31 E32 ⊢
                      generalize V4.heap.size = ec at T30 E31 E32 G33 ⊢
                      refine wpAnyH_ready (rs := [16]) (by kernel_rfl) (by simp) ?_
                      refine AllReadyH.cons (o := { dst := some 61, op := Go.Op.buildSlice 24 1 #[(0, Go.Operand.tmp 60)], type := 24, pos := "l18_plan.go:101", after := #[{ on := 15, ground := Go.Ground.data }], guard := none }) rfl (fun K hK => ?_) (AllReadyH.nil)
                      · go_simp
                        have T35 := hid (T30.out.alloc T30.out.size (.cells #[.int .i64 (F : Int)] 3 (0, 0)))
                        have bb : Below V29.heap.size V29 (V29.alloc (.cells #[.int .i64 (F : Int)] 3 (0, 0))) := (Below.refl _ _).alloc (Nat.le_refl _) _
                        have E36 : Hid (CB (V29.alloc (.cells #[.int .i64 (F : Int)] 3 (0, 0))) V29.heap.size #[.int .i64 (F : Int)] 3) := hid (CB.new _ _)
                        have E37 := hid (ownsRow_below E32.out bb)
                        have E38 := hid (E31.out.below bb E31.out.lt)
                        clear bb
                        refine hK.out _ _ (by exact SX.out _ T35.out) (fun hHeld => ?_)
                        clear hK K
                        try simp only [Act.put, List.setIfInBounds_toArray, List.set_cons_zero, List.set_cons_succ]
                        generalize (V29.alloc (.cells #[.int .i64 (F : Int)] 3 (0, 0))) = V34 at T35 E36 E37 E38 ⊢
                        generalize V29.heap.size = eb at T35 E36 E37 E38 ⊢
                        refine wpAnyH_ready (rs := [17]) (by kernel_rfl) (by simp) ?_
                        refine AllReadyH.cons (o := { dst := some 62, op := Go.Op.call { callee := Go.Callee.builtin Go.Builtin.append, args := #[Go.Operand.tmp 59, Go.Operand.tmp 61], argTypes := #[24, 24] }, type := 24, pos := "l18_plan.go:101", after := #[{ on := 14, ground := Go.Ground.data }, { on := 16, ground := Go.Ground.data }, { on := 14, ground := Go.Ground.chain }], guard := none }) rfl (fun K hK => ?_) (AllReadyH.nil)
                        · rw [if_pos (by rfl)]
                          refine oper_app (Operand.tmp 59) (Operand.tmp 61) 24 rfl wi.heap.size 3 i0 (.int .i64 0) 1 8 Try.underlying24 hi hz0 hz1 hz2 rfl (by decide) v7 LF (intR (fun j => (MF j : Int)) LF) rfl E37.out ⟨eb, 0, none⟩ 1 1 [.int .i64 (F : Int)] rfl rfl (cb_srcM E36.out) (fun u hu => by simp at hu; subst hu; rfl) (by have := HMF.out.2; unfold maxLen; omega) (by have := HMF.out.2; omega) T35.out.size ?_
                          intro v8 V39 hown hgr
                          have T40 := hid (bel_grownO T35.out (Nat.le_refl _) E37.out (Nat.le_refl _) hgr)
                          have E41 := hid (cb_grown3 E38.out (by decide) E37.out hgr)
                          obtain ⟨a9, p9, rfl, hm9⟩ := MkR.of (mk := fun j => if j = LF then F else MF j) hown (marks_add MF LF F)
                          have E42 := hid hm9
                          clear hown hgr hm9
                          refine hK.out _ _ (by exact SX.out _ T40.out) (fun hHeld => ?_)
                          clear hK K
                          try simp only [Act.put, List.setIfInBounds_toArray, List.set_cons_zero, List.set_cons_succ]
                          refine wpAnyH_take (i := 18) (oi := { dst := some 63, op := Go.Op.build 120 #[(0, Go.Operand.tmp 52), (1, Go.Operand.tmp 62)], type := 120, pos := "l18_plan.go:101", after := #[{ on := 7, ground := Go.Ground.data }, { on := 17, ground := Go.Ground.data }], guard := none }) (v := ?_) rfl (by kernel_rfl) (by kernel_rfl) (by kernel_rfl) (fun _ _ _ h => h) (Or.inl ⟨by rfl, ?_⟩) (by assumption) ?_
                          rotate_left
                          · (intro w hSw; (try dsimp only at hSw); go_simp <;> try with_reducible rfl)
                          try simp only [Act.put, List.setIfInBounds_toArray, List.set_cons_zero, List.set_cons_succ]
                          have y0 : V39.cell? ⟨ec, 0, none⟩ = some (.int .i64 0) := (E41.out.cell 0).trans rfl
                          have y1 : V39.cell? ⟨ec, 1, none⟩ = some (.slice none 0 0) := (E41.out.cell 1).trans rfl
                          have f0 := E41.out.fr 0
                          have f1 := E41.out.fr 1
                          have hE : Hid (CB ((V39.setCell ⟨ec, 0, none⟩ (.int .i64 (CF + su))).setCell ⟨ec, 1, none⟩ (.slice a9 (LF + 1) p9)) ec #[.int .i64 (CF + su), .slice a9 (LF + 1) p9] 120 ∧ MkR ((V39.setCell ⟨ec, 0, none⟩ (.int .i64 (CF + su))).setCell ⟨ec, 1, none⟩ (.slice a9 (LF + 1) p9)) wi.heap.size a9 (LF + 1) p9 (fun j => if j = LF then F else MF j)) := hid ⟨(E41.out.set 0 _).set 1 _, (E42.out.set E41.out (by decide) _).set (E41.out.set 0 _) (by decide) _⟩
                          have TF : Hid (Below wi.heap.size wi ((V39.setCell ⟨ec, 0, none⟩ (.int .i64 (CF + su))).setCell ⟨ec, 1, none⟩ (.slice a9 (LF + 1) p9)) ∧ wi.heap.size ≤ ec) := hid ⟨(T40.out.setCell (by show _ ≤ ec; exact G33.out) _).setCell (by show _ ≤ ec; exact G33.out) _, G33.out⟩
                          refine wpAnyH_ready (rs := [20]) (by kernel_rfl) (by simp) ?_
                          refine AllReadyH.cons (o := { dst := none, op := Go.Op.store 120 (Go.Operand.tmp 9) (Go.Operand.tmp 63), type := 0, pos := "l18_plan.go:101", after := #[{ on := 19, ground := Go.Ground.data }, { on := 18, ground := Go.Ground.data }, { on := 17, ground := Go.Ground.chain }, { on := 0, ground := Go.Ground.phase }, { on := 1, ground := Go.Ground.phase }, { on := 2, ground := Go.Ground.phase }, { on := 3, ground := Go.Ground.phase }, { on := 4, ground := Go.Ground.phase }, { on := 5, ground := Go.Ground.phase }, { on := 6, ground := Go.Ground.phase }, { on := 7, ground := Go.Ground.phase }, { on := 8, ground := Go.Ground.phase }, { on := 9, ground := Go.Ground.phase }, { on := 10, ground := Go.Ground.phase }, { on := 11, ground := Go.Ground.phase }, { on := 12, ground := Go.Ground.phase }, { on := 13, ground := Go.Ground.phase }, { on := 14, ground := Go.Ground.phase }, { on := 15, ground := Go.Ground.phase }, { on := 16, ground := Go.Ground.phase }, { on := 17, ground := Go.Ground.phase }, { on := 18, ground := Go.Ground.phase }, { on := 19, ground := Go.Ground.phase }], guard := none }) rfl (fun K hK => ?_) (AllReadyH.nil)
                          go_simp
                          refine hK.out _ _ (by exact SX.out _ TF.out.1) (fun hHeld => ?_)
                          clear hK K y0 y1 f0 f1
                          try simp only [Act.put, List.setIfInBounds_toArray, List.set_cons_zero, List.set_cons_succ]
                          refine wpAnyH_done (by kernel_rfl) ?_ _
                          refine NoPanic.normal ?_
                          clear hHeld
                          go_wp2_with fail
                          go_meet
                          exact ⟨ec, a9, p9, rfl, TF.out.2, TF.out.1, hE.out.1, hE.out.2⟩
                  · go_simp
                    have T44 := hid (T2.out.alloc T2.out.size (.cells #[.int .i64 (F : Int)] 3 (0, 0)))
                    have bb : Below V1.heap.size V1 (V1.alloc (.cells #[.int .i64 (F : Int)] 3 (0, 0))) := (Below.refl _ _).alloc (Nat.le_refl _) _
                    have E45 : Hid (CB (V1.alloc (.cells #[.int .i64 (F : Int)] 3 (0, 0))) V1.heap.size #[.int .i64 (F : Int)] 3) := hid (CB.new _ _)
                    have E46 := hid (ownsRow_below E3.out bb)
                    have N47 : Hid (ea ≠ V1.heap.size) := hid (by have := madeI_cb E3.out; omega)
                    clear bb
                    refine hK.out _ _ (by exact SX.out _ T44.out) (fun hHeld => ?_)
                    clear hK K
                    try simp only [Act.put, List.setIfInBounds_toArray, List.set_cons_zero, List.set_cons_succ]
                    generalize (V1.alloc (.cells #[.int .i64 (F : Int)] 3 (0, 0))) = V43 at T44 E45 E46 ⊢
                    generalize V1.heap.size = eb at T44 E45 E46 N47 ⊢
                    refine wpAnyH_ready (rs := [14, 19]) (by kernel_rfl) (by simp) ?_
                    refine AllReadyH.cons (o := { dst := some 59, op := Go.Op.call { callee := Go.Callee.builtin Go.Builtin.append, args := #[Go.Operand.tmp 53, Go.Operand.tmp 58], argTypes := #[24, 24] }, type := 24, pos := "l18_plan.go:101", after := #[{ on := 8, ground := Go.Ground.data }, { on := 13, ground := Go.Ground.data }], guard := none }) rfl (fun K hK => ?_) (AllReadyH.cons (o := { dst := some 9, op := Go.Op.alloc 120, type := 0, pos := "l18_plan.go:101", after := #[], guard := none }) rfl (fun K hK => ?_) (AllReadyH.nil))
                    · rw [if_pos (by rfl)]
                      refine oper_marks (Operand.tmp 53) (Operand.tmp 58) 24 rfl wi.heap.size i0 Try.underlying24 hi hz0 hz1 hz2 (.slice (some ⟨ea, 0, none⟩) 0 0) rfl E46.out rfl (HMF.out.1.below T44.out) HMF.out.2 T44.out.size ?_
                      intro v7 V48 hown hgr
                      have T49 := hid (bel_grownO T44.out (Nat.le_refl _) E46.out (Nat.le_refl _) hgr)
                      have E50 := hid hown
                      have E51 := hid (E45.out.keep (hgr.block eb E45.out.lt (fun q => N47.out (by simpa [Value.ownBlock] using q.symm))))
                      clear hown hgr
                      refine hK.out _ _ (by exact SX.out _ T49.out) (fun hHeld => ?_)
                      clear hK K
                      try simp only [Act.put, List.setIfInBounds_toArray, List.set_cons_zero, List.set_cons_succ]
                      refine wpAnyH_ready (rs := [17, 19]) (by kernel_rfl) (by simp) ?_
                      refine AllReadyH.cons (o := { dst := some 62, op := Go.Op.call { callee := Go.Callee.builtin Go.Builtin.append, args := #[Go.Operand.tmp 59, Go.Operand.tmp 61], argTypes := #[24, 24] }, type := 24, pos := "l18_plan.go:101", after := #[{ on := 14, ground := Go.Ground.data }, { on := 16, ground := Go.Ground.data }, { on := 14, ground := Go.Ground.chain }], guard := none }) rfl (fun K hK => ?_) (AllReadyH.cons (o := { dst := some 9, op := Go.Op.alloc 120, type := 0, pos := "l18_plan.go:101", after := #[], guard := none }) rfl (fun K hK => ?_) (AllReadyH.nil))
                      · rw [if_pos (by rfl)]
                        refine oper_app (Operand.tmp 59) (Operand.tmp 61) 24 rfl wi.heap.size 3 i0 (.int .i64 0) 1 8 Try.underlying24 hi hz0 hz1 hz2 rfl (by decide) v7 LF (intR (fun j => (MF j : Int)) LF) rfl E50.out ⟨eb, 0, none⟩ 1 1 [.int .i64 (F : Int)] rfl rfl (cb_srcM E51.out) (fun u hu => by simp at hu; subst hu; rfl) (by have := HMF.out.2; unfold maxLen; omega) (by have := HMF.out.2; omega) T49.out.size ?_
                        intro v8 V52 hown hgr
                        have T53 := hid (bel_grownO T49.out (Nat.le_refl _) E50.out (Nat.le_refl _) hgr)
                        obtain ⟨a9, p9, rfl, hm9⟩ := MkR.of (mk := fun j => if j = LF then F else MF j) hown (marks_add MF LF F)
                        have E54 := hid hm9
                        clear hown hgr hm9
                        refine hK.out _ _ (by exact SX.out _ T53.out) (fun hHeld => ?_)
                        clear hK K
                        try simp only [Act.put, List.setIfInBounds_toArray, List.set_cons_zero, List.set_cons_succ]
                        refine wpAnyH_take (i := 18) (oi := { dst := some 63, op := Go.Op.build 120 #[(0, Go.Operand.tmp 52), (1, Go.Operand.tmp 62)], type := 120, pos := "l18_plan.go:101", after := #[{ on := 7, ground := Go.Ground.data }, { on := 17, ground := Go.Ground.data }], guard := none }) (v := ?_) rfl (by kernel_rfl) (by kernel_rfl) (by kernel_rfl) (fun _ _ _ h => h) (Or.inl ⟨by rfl, ?_⟩) (by assumption) ?_
                        rotate_left
                        · (intro w hSw; (try dsimp only at hSw); go_simp <;> try with_reducible rfl)
                        try simp only [Act.put, List.setIfInBounds_toArray, List.set_cons_zero, List.set_cons_succ]
                        refine wpAnyH_ready (rs := [19]) (by kernel_rfl) (by simp) ?_
                        refine AllReadyH.cons (o := { dst := some 9, op := Go.Op.alloc 120, type := 0, pos := "l18_plan.go:101", after := #[], guard := none }) rfl (fun K hK => ?_) (AllReadyH.nil)
                        · go_simp
                          have T56 := hid (T53.out.alloc T53.out.size (.cells #[.int .i64 0, .slice none 0 0] 120 (0, 0)))
                          have bb : Below V52.heap.size V52 (V52.alloc (.cells #[.int .i64 0, .slice none 0 0] 120 (0, 0))) := (Below.refl _ _).alloc (Nat.le_refl _) _
                          have E57 : Hid (CB (V52.alloc (.cells #[.int .i64 0, .slice none 0 0] 120 (0, 0))) V52.heap.size #[.int .i64 0, .slice none 0 0] 120) := hid (CB.new _ _)
                          have E58 := hid (E54.out.below bb)
                          have G59 : Hid (wi.heap.size ≤ V52.heap.size) := hid T53.out.size
                          clear bb
                          refine hK.out _ _ (by exact SX.out _ T56.out) (fun hHeld => ?_)
                          clear hK K
                          try simp only [Act.put, List.setIfInBounds_toArray, List.set_cons_zero, List.set_cons_succ]
                          generalize (V52.alloc (.cells #[.int .i64 0, .slice none 0 0] 120 (0, 0))) = V55 at T56 E57 E58 ⊢
                          generalize V52.heap.size = ec at T56 E57 E58 G59 ⊢
                          have y0 : V55.cell? ⟨ec, 0, none⟩ = some (.int .i64 0) := (E57.out.cell 0).trans rfl
                          have y1 : V55.cell? ⟨ec, 1, none⟩ = some (.slice none 0 0) := (E57.out.cell 1).trans rfl
                          have f0 := E57.out.fr 0
                          have f1 := E57.out.fr 1
                          have hE : Hid (CB ((V55.setCell ⟨ec, 0, none⟩ (.int .i64 (CF + su))).setCell ⟨ec, 1, none⟩ (.slice a9 (LF + 1) p9)) ec #[.int .i64 (CF + su), .slice a9 (LF + 1) p9] 120 ∧ MkR ((V55.setCell ⟨ec, 0, none⟩ (.int .i64 (CF + su))).setCell ⟨ec, 1, none⟩ (.slice a9 (LF + 1) p9)) wi.heap.size a9 (LF + 1) p9 (fun j => if j = LF then F else MF j)) := hid ⟨(E57.out.set 0 _).set 1 _, (E58.out.set E57.out (by decide) _).set (E57.out.set 0 _) (by decide) _⟩
                          have TF : Hid (Below wi.heap.size wi ((V55.setCell ⟨ec, 0, none⟩ (.int .i64 (CF + su))).setCell ⟨ec, 1, none⟩ (.slice a9 (LF + 1) p9)) ∧ wi.heap.size ≤ ec) := hid ⟨(T56.out.setCell (by show _ ≤ ec; exact G59.out) _).setCell (by show _ ≤ ec; exact G59.out) _, G59.out⟩
                          refine wpAnyH_ready (rs := [20]) (by kernel_rfl) (by simp) ?_
                          refine AllReadyH.cons (o := { dst := none, op := Go.Op.store 120 (Go.Operand.tmp 9) (Go.Operand.tmp 63), type := 0, pos := "l18_plan.go:101", after := #[{ on := 19, ground := Go.Ground.data }, { on := 18, ground := Go.Ground.data }, { on := 17, ground := Go.Ground.chain }, { on := 0, ground := Go.Ground.phase }, { on := 1, ground := Go.Ground.phase }, { on := 2, ground := Go.Ground.phase }, { on := 3, ground := Go.Ground.phase }, { on := 4, ground := Go.Ground.phase }, { on := 5, ground := Go.Ground.phase }, { on := 6, ground := Go.Ground.phase }, { on := 7, ground := Go.Ground.phase }, { on := 8, ground := Go.Ground.phase }, { on := 9, ground := Go.Ground.phase }, { on := 10, ground := Go.Ground.phase }, { on := 11, ground := Go.Ground.phase }, { on := 12, ground := Go.Ground.phase }, { on := 13, ground := Go.Ground.phase }, { on := 14, ground := Go.Ground.phase }, { on := 15, ground := Go.Ground.phase }, { on := 16, ground := Go.Ground.phase }, { on := 17, ground := Go.Ground.phase }, { on := 18, ground := Go.Ground.phase }, { on := 19, ground := Go.Ground.phase }], guard := none }) rfl (fun K hK => ?_) (AllReadyH.nil)
                          go_simp
                          refine hK.out _ _ (by exact SX.out _ TF.out.1) (fun hHeld => ?_)
                          clear hK K y0 y1 f0 f1
                          try simp only [Act.put, List.setIfInBounds_toArray, List.set_cons_zero, List.set_cons_succ]
                          refine wpAnyH_done (by kernel_rfl) ?_ _
                          refine NoPanic.normal ?_
                          clear hHeld
                          go_wp2_with fail
                          go_meet
                          exact ⟨ec, a9, p9, rfl, TF.out.2, TF.out.1, hE.out.1, hE.out.2⟩
                      · go_simp
                        have T61 := hid (T49.out.alloc T49.out.size (.cells #[.int .i64 0, .slice none 0 0] 120 (0, 0)))
                        have bb : Below V48.heap.size V48 (V48.alloc (.cells #[.int .i64 0, .slice none 0 0] 120 (0, 0))) := (Below.refl _ _).alloc (Nat.le_refl _) _
                        have E62 : Hid (CB (V48.alloc (.cells #[.int .i64 0, .slice none 0 0] 120 (0, 0))) V48.heap.size #[.int .i64 0, .slice none 0 0] 120) := hid (CB.new _ _)
                        have E63 := hid (ownsRow_below E50.out bb)
                        have E64 := hid (E51.out.below bb E51.out.lt)
                        have G65 : Hid (wi.heap.size ≤ V48.heap.size) := hid T49.out.size
                        clear bb
                        refine hK.out _ _ (by exact SX.out _ T61.out) (fun hHeld => ?_)
                        clear hK K
                        try simp only [Act.put, List.setIfInBounds_toArray, List.set_cons_zero, List.set_cons_succ]
                        generalize (V48.alloc (.cells #[.int .i64 0, .slice none 0 0] 120 (0, 0))) = V60 at T61 E62 E63 E64 ⊢
                        generalize V48.heap.size = ec at T61 E62 E63 E64 G65 ⊢
                        refine wpAnyH_ready (rs := [17]) (by kernel_rfl) (by simp) ?_
                        refine AllReadyH.cons (o := { dst := some 62, op := Go.Op.call { callee := Go.Callee.builtin Go.Builtin.append, args := #[Go.Operand.tmp 59, Go.Operand.tmp 61], argTypes := #[24, 24] }, type := 24, pos := "l18_plan.go:101", after := #[{ on := 14, ground := Go.Ground.data }, { on := 16, ground := Go.Ground.data }, { on := 14, ground := Go.Ground.chain }], guard := none }) rfl (fun K hK => ?_) (AllReadyH.nil)
                        · rw [if_pos (by rfl)]
                          refine oper_app (Operand.tmp 59) (Operand.tmp 61) 24 rfl wi.heap.size 3 i0 (.int .i64 0) 1 8 Try.underlying24 hi hz0 hz1 hz2 rfl (by decide) v7 LF (intR (fun j => (MF j : Int)) LF) rfl E63.out ⟨eb, 0, none⟩ 1 1 [.int .i64 (F : Int)] rfl rfl (cb_srcM E64.out) (fun u hu => by simp at hu; subst hu; rfl) (by have := HMF.out.2; unfold maxLen; omega) (by have := HMF.out.2; omega) T61.out.size ?_
                          intro v8 V66 hown hgr
                          have T67 := hid (bel_grownO T61.out (Nat.le_refl _) E63.out (Nat.le_refl _) hgr)
                          have E68 := hid (cb_grown3 E62.out (by decide) E63.out hgr)
                          obtain ⟨a9, p9, rfl, hm9⟩ := MkR.of (mk := fun j => if j = LF then F else MF j) hown (marks_add MF LF F)
                          have E69 := hid hm9
                          clear hown hgr hm9
                          refine hK.out _ _ (by exact SX.out _ T67.out) (fun hHeld => ?_)
                          clear hK K
                          try simp only [Act.put, List.setIfInBounds_toArray, List.set_cons_zero, List.set_cons_succ]
                          refine wpAnyH_take (i := 18) (oi := { dst := some 63, op := Go.Op.build 120 #[(0, Go.Operand.tmp 52), (1, Go.Operand.tmp 62)], type := 120, pos := "l18_plan.go:101", after := #[{ on := 7, ground := Go.Ground.data }, { on := 17, ground := Go.Ground.data }], guard := none }) (v := ?_) rfl (by kernel_rfl) (by kernel_rfl) (by kernel_rfl) (fun _ _ _ h => h) (Or.inl ⟨by rfl, ?_⟩) (by assumption) ?_
                          rotate_left
                          · (intro w hSw; (try dsimp only at hSw); go_simp <;> try with_reducible rfl)
                          try simp only [Act.put, List.setIfInBounds_toArray, List.set_cons_zero, List.set_cons_succ]
                          have y0 : V66.cell? ⟨ec, 0, none⟩ = some (.int .i64 0) := (E68.out.cell 0).trans rfl
                          have y1 : V66.cell? ⟨ec, 1, none⟩ = some (.slice none 0 0) := (E68.out.cell 1).trans rfl
                          have f0 := E68.out.fr 0
                          have f1 := E68.out.fr 1
                          have hE : Hid (CB ((V66.setCell ⟨ec, 0, none⟩ (.int .i64 (CF + su))).setCell ⟨ec, 1, none⟩ (.slice a9 (LF + 1) p9)) ec #[.int .i64 (CF + su), .slice a9 (LF + 1) p9] 120 ∧ MkR ((V66.setCell ⟨ec, 0, none⟩ (.int .i64 (CF + su))).setCell ⟨ec, 1, none⟩ (.slice a9 (LF + 1) p9)) wi.heap.size a9 (LF + 1) p9 (fun j => if j = LF then F else MF j)) := hid ⟨(E68.out.set 0 _).set 1 _, (E69.out.set E68.out (by decide) _).set (E68.out.set 0 _) (by decide) _⟩
                          have TF : Hid (Below wi.heap.size wi ((V66.setCell ⟨ec, 0, none⟩ (.int .i64 (CF + su))).setCell ⟨ec, 1, none⟩ (.slice a9 (LF + 1) p9)) ∧ wi.heap.size ≤ ec) := hid ⟨(T67.out.setCell (by show _ ≤ ec; exact G65.out) _).setCell (by show _ ≤ ec; exact G65.out) _, G65.out⟩
                          refine wpAnyH_ready (rs := [20]) (by kernel_rfl) (by simp) ?_
                          refine AllReadyH.cons (o := { dst := none, op := Go.Op.store 120 (Go.Operand.tmp 9) (Go.Operand.tmp 63), type := 0, pos := "l18_plan.go:101", after := #[{ on := 19, ground := Go.Ground.data }, { on := 18, ground := Go.Ground.data }, { on := 17, ground := Go.Ground.chain }, { on := 0, ground := Go.Ground.phase }, { on := 1, ground := Go.Ground.phase }, { on := 2, ground := Go.Ground.phase }, { on := 3, ground := Go.Ground.phase }, { on := 4, ground := Go.Ground.phase }, { on := 5, ground := Go.Ground.phase }, { on := 6, ground := Go.Ground.phase }, { on := 7, ground := Go.Ground.phase }, { on := 8, ground := Go.Ground.phase }, { on := 9, ground := Go.Ground.phase }, { on := 10, ground := Go.Ground.phase }, { on := 11, ground := Go.Ground.phase }, { on := 12, ground := Go.Ground.phase }, { on := 13, ground := Go.Ground.phase }, { on := 14, ground := Go.Ground.phase }, { on := 15, ground := Go.Ground.phase }, { on := 16, ground := Go.Ground.phase }, { on := 17, ground := Go.Ground.phase }, { on := 18, ground := Go.Ground.phase }, { on := 19, ground := Go.Ground.phase }], guard := none }) rfl (fun K hK => ?_) (AllReadyH.nil)
                          go_simp
                          refine hK.out _ _ (by exact SX.out _ TF.out.1) (fun hHeld => ?_)
                          clear hK K y0 y1 f0 f1
                          try simp only [Act.put, List.setIfInBounds_toArray, List.set_cons_zero, List.set_cons_succ]
                          refine wpAnyH_done (by kernel_rfl) ?_ _
                          refine NoPanic.normal ?_
                          clear hHeld
                          go_wp2_with fail
                          go_meet
                          exact ⟨ec, a9, p9, rfl, TF.out.2, TF.out.1, hE.out.1, hE.out.2⟩
                    · go_simp
                      have T71 := hid (T44.out.alloc T44.out.size (.cells #[.int .i64 0, .slice none 0 0] 120 (0, 0)))
                      have bb : Below V43.heap.size V43 (V43.alloc (.cells #[.int .i64 0, .slice none 0 0] 120 (0, 0))) := (Below.refl _ _).alloc (Nat.le_refl _) _
                      have E72 : Hid (CB (V43.alloc (.cells #[.int .i64 0, .slice none 0 0] 120 (0, 0))) V43.heap.size #[.int .i64 0, .slice none 0 0] 120) := hid (CB.new _ _)
                      have E73 := hid (ownsRow_below E46.out bb)
                      have E74 := hid (E45.out.below bb E45.out.lt)
                      have G75 : Hid (wi.heap.size ≤ V43.heap.size) := hid T44.out.size
                      clear bb
                      refine hK.out _ _ (by exact SX.out _ T71.out) (fun hHeld => ?_)
                      clear hK K
                      try simp only [Act.put, List.setIfInBounds_toArray, List.set_cons_zero, List.set_cons_succ]
                      generalize (V43.alloc (.cells #[.int .i64 0, .slice none 0 0] 120 (0, 0))) = V70 at T71 E72 E73 E74 ⊢
                      generalize V43.heap.size = ec at T71 E72 E73 E74 G75 ⊢
                      refine wpAnyH_ready (rs := [14]) (by kernel_rfl) (by simp) ?_
                      refine AllReadyH.cons (o := { dst := some 59, op := Go.Op.call { callee := Go.Callee.builtin Go.Builtin.append, args := #[Go.Operand.tmp 53, Go.Operand.tmp 58], argTypes := #[24, 24] }, type := 24, pos := "l18_plan.go:101", after := #[{ on := 8, ground := Go.Ground.data }, { on := 13, ground := Go.Ground.data }], guard := none }) rfl (fun K hK => ?_) (AllReadyH.nil)
                      · rw [if_pos (by rfl)]
                        refine oper_marks (Operand.tmp 53) (Operand.tmp 58) 24 rfl wi.heap.size i0 Try.underlying24 hi hz0 hz1 hz2 (.slice (some ⟨ea, 0, none⟩) 0 0) rfl E73.out rfl (HMF.out.1.below T71.out) HMF.out.2 T71.out.size ?_
                        intro v7 V76 hown hgr
                        have T77 := hid (bel_grownO T71.out (Nat.le_refl _) E73.out (Nat.le_refl _) hgr)
                        have E78 := hid hown
                        have E79 := hid (E74.out.keep (hgr.block eb E74.out.lt (fun q => N47.out (by simpa [Value.ownBlock] using q.symm))))
                        have E80 := hid (cb_grown3 E72.out (by decide) E73.out hgr)
                        clear hown hgr
                        refine hK.out _ _ (by exact SX.out _ T77.out) (fun hHeld => ?_)
                        clear hK K
                        try simp only [Act.put, List.setIfInBounds_toArray, List.set_cons_zero, List.set_cons_succ]
                        refine wpAnyH_ready (rs := [17]) (by kernel_rfl) (by simp) ?_
                        refine AllReadyH.cons (o := { dst := some 62, op := Go.Op.call { callee := Go.Callee.builtin Go.Builtin.append, args := #[Go.Operand.tmp 59, Go.Operand.tmp 61], argTypes := #[24, 24] }, type := 24, pos := "l18_plan.go:101", after := #[{ on := 14, ground := Go.Ground.data }, { on := 16, ground := Go.Ground.data }, { on := 14, ground := Go.Ground.chain }], guard := none }) rfl (fun K hK => ?_) (AllReadyH.nil)
                        · rw [if_pos (by rfl)]
                          refine oper_app (Operand.tmp 59) (Operand.tmp 61) 24 rfl wi.heap.size 3 i0 (.int .i64 0) 1 8 Try.underlying24 hi hz0 hz1 hz2 rfl (by decide) v7 LF (intR (fun j => (MF j : Int)) LF) rfl E78.out ⟨eb, 0, none⟩ 1 1 [.int .i64 (F : Int)] rfl rfl (cb_srcM E79.out) (fun u hu => by simp at hu; subst hu; rfl) (by have := HMF.out.2; unfold maxLen; omega) (by have := HMF.out.2; omega) T77.out.size ?_
                          intro v8 V81 hown hgr
                          have T82 := hid (bel_grownO T77.out (Nat.le_refl _) E78.out (Nat.le_refl _) hgr)
                          have E83 := hid (cb_grown3 E80.out (by decide) E78.out hgr)
                          obtain ⟨a9, p9, rfl, hm9⟩ := MkR.of (mk := fun j => if j = LF then F else MF j) hown (marks_add MF LF F)
                          have E84 := hid hm9
                          clear hown hgr hm9
                          refine hK.out _ _ (by exact SX.out _ T82.out) (fun hHeld => ?_)
                          clear hK K
                          try simp only [Act.put, List.setIfInBounds_toArray, List.set_cons_zero, List.set_cons_succ]
                          refine wpAnyH_take (i := 18) (oi := { dst := some 63, op := Go.Op.build 120 #[(0, Go.Operand.tmp 52), (1, Go.Operand.tmp 62)], type := 120, pos := "l18_plan.go:101", after := #[{ on := 7, ground := Go.Ground.data }, { on := 17, ground := Go.Ground.data }], guard := none }) (v := ?_) rfl (by kernel_rfl) (by kernel_rfl) (by kernel_rfl) (fun _ _ _ h => h) (Or.inl ⟨by rfl, ?_⟩) (by assumption) ?_
                          rotate_left
                          · (intro w hSw; (try dsimp only at hSw); go_simp <;> try with_reducible rfl)
                          try simp only [Act.put, List.setIfInBounds_toArray, List.set_cons_zero, List.set_cons_succ]
                          have y0 : V81.cell? ⟨ec, 0, none⟩ = some (.int .i64 0) := (E83.out.cell 0).trans rfl
                          have y1 : V81.cell? ⟨ec, 1, none⟩ = some (.slice none 0 0) := (E83.out.cell 1).trans rfl
                          have f0 := E83.out.fr 0
                          have f1 := E83.out.fr 1
                          have hE : Hid (CB ((V81.setCell ⟨ec, 0, none⟩ (.int .i64 (CF + su))).setCell ⟨ec, 1, none⟩ (.slice a9 (LF + 1) p9)) ec #[.int .i64 (CF + su), .slice a9 (LF + 1) p9] 120 ∧ MkR ((V81.setCell ⟨ec, 0, none⟩ (.int .i64 (CF + su))).setCell ⟨ec, 1, none⟩ (.slice a9 (LF + 1) p9)) wi.heap.size a9 (LF + 1) p9 (fun j => if j = LF then F else MF j)) := hid ⟨(E83.out.set 0 _).set 1 _, (E84.out.set E83.out (by decide) _).set (E83.out.set 0 _) (by decide) _⟩
                          have TF : Hid (Below wi.heap.size wi ((V81.setCell ⟨ec, 0, none⟩ (.int .i64 (CF + su))).setCell ⟨ec, 1, none⟩ (.slice a9 (LF + 1) p9)) ∧ wi.heap.size ≤ ec) := hid ⟨(T82.out.setCell (by show _ ≤ ec; exact G75.out) _).setCell (by show _ ≤ ec; exact G75.out) _, G75.out⟩
                          refine wpAnyH_ready (rs := [20]) (by kernel_rfl) (by simp) ?_
                          refine AllReadyH.cons (o := { dst := none, op := Go.Op.store 120 (Go.Operand.tmp 9) (Go.Operand.tmp 63), type := 0, pos := "l18_plan.go:101", after := #[{ on := 19, ground := Go.Ground.data }, { on := 18, ground := Go.Ground.data }, { on := 17, ground := Go.Ground.chain }, { on := 0, ground := Go.Ground.phase }, { on := 1, ground := Go.Ground.phase }, { on := 2, ground := Go.Ground.phase }, { on := 3, ground := Go.Ground.phase }, { on := 4, ground := Go.Ground.phase }, { on := 5, ground := Go.Ground.phase }, { on := 6, ground := Go.Ground.phase }, { on := 7, ground := Go.Ground.phase }, { on := 8, ground := Go.Ground.phase }, { on := 9, ground := Go.Ground.phase }, { on := 10, ground := Go.Ground.phase }, { on := 11, ground := Go.Ground.phase }, { on := 12, ground := Go.Ground.phase }, { on := 13, ground := Go.Ground.phase }, { on := 14, ground := Go.Ground.phase }, { on := 15, ground := Go.Ground.phase }, { on := 16, ground := Go.Ground.phase }, { on := 17, ground := Go.Ground.phase }, { on := 18, ground := Go.Ground.phase }, { on := 19, ground := Go.Ground.phase }], guard := none }) rfl (fun K hK => ?_) (AllReadyH.nil)
                          go_simp
                          refine hK.out _ _ (by exact SX.out _ TF.out.1) (fun hHeld => ?_)
                          clear hK K y0 y1 f0 f1
                          try simp only [Act.put, List.setIfInBounds_toArray, List.set_cons_zero, List.set_cons_succ]
                          refine wpAnyH_done (by kernel_rfl) ?_ _
                          refine NoPanic.normal ?_
                          clear hHeld
                          go_wp2_with fail
                          go_meet
                          exact ⟨ec, a9, p9, rfl, TF.out.2, TF.out.1, hE.out.1, hE.out.2⟩
                  · go_simp
                    have T86 := hid (T2.out.alloc T2.out.size (.cells #[.int .i64 0, .slice none 0 0] 120 (0, 0)))
                    have bb : Below V1.heap.size V1 (V1.alloc (.cells #[.int .i64 0, .slice none 0 0] 120 (0, 0))) := (Below.refl _ _).alloc (Nat.le_refl _) _
                    have E87 : Hid (CB (V1.alloc (.cells #[.int .i64 0, .slice none 0 0] 120 (0, 0))) V1.heap.size #[.int .i64 0, .slice none 0 0] 120) := hid (CB.new _ _)
                    have E88 := hid (ownsRow_below E3.out bb)
                    have G89 : Hid (wi.heap.size ≤ V1.heap.size) := hid T2.out.size
                    clear bb
                    refine hK.out _ _ (by exact SX.out _ T86.out) (fun hHeld => ?_)
                    clear hK K
                    try simp only [Act.put, List.setIfInBounds_toArray, List.set_cons_zero, List.set_cons_succ]
                    generalize (V1.alloc (.cells #[.int .i64 0, .slice none 0 0] 120 (0, 0))) = V85 at T86 E87 E88 ⊢
                    generalize V1.heap.size = ec at T86 E87 E88 G89 ⊢
                    refine wpAnyH_ready (rs := [14, 16]) (by kernel_rfl) (by simp) ?_
                    refine AllReadyH.cons (o := { dst := some 59, op := Go.Op.call { callee := Go.Callee.builtin Go.Builtin.append, args := #[Go.Operand.tmp 53, Go.Operand.tmp 58], argTypes := #[24, 24] }, type := 24, pos := "l18_plan.go:101", after := #[{ on := 8, ground := Go.Ground.data }, { on := 13, ground := Go.Ground.data }], guard := none }) rfl (fun K hK => ?_) (AllReadyH.cons (o := { dst := some 61, op := Go.Op.buildSlice 24 1 #[(0, Go.Operand.tmp 60)], type := 24, pos := "l18_plan.go:101", after := #[{ on := 15, ground := Go.Ground.data }], guard := none }) rfl (fun K hK => ?_) (AllReadyH.nil))
                    · rw [if_pos (by rfl)]
                      refine oper_marks (Operand.tmp 53) (Operand.tmp 58) 24 rfl wi.heap.size i0 Try.underlying24 hi hz0 hz1 hz2 (.slice (some ⟨ea, 0, none⟩) 0 0) rfl E88.out rfl (HMF.out.1.below T86.out) HMF.out.2 T86.out.size ?_
                      intro v7 V90 hown hgr
                      have T91 := hid (bel_grownO T86.out (Nat.le_refl _) E88.out (Nat.le_refl _) hgr)
                      have E92 := hid hown
                      have E93 := hid (cb_grown3 E87.out (by decide) E88.out hgr)
                      clear hown hgr
                      refine hK.out _ _ (by exact SX.out _ T91.out) (fun hHeld => ?_)
                      clear hK K
                      try simp only [Act.put, List.setIfInBounds_toArray, List.set_cons_zero, List.set_cons_succ]
                      refine wpAnyH_ready (rs := [16]) (by kernel_rfl) (by simp) ?_
                      refine AllReadyH.cons (o := { dst := some 61, op := Go.Op.buildSlice 24 1 #[(0, Go.Operand.tmp 60)], type := 24, pos := "l18_plan.go:101", after := #[{ on := 15, ground := Go.Ground.data }], guard := none }) rfl (fun K hK => ?_) (AllReadyH.nil)
                      · go_simp
                        have T95 := hid (T91.out.alloc T91.out.size (.cells #[.int .i64 (F : Int)] 3 (0, 0)))
                        have bb : Below V90.heap.size V90 (V90.alloc (.cells #[.int .i64 (F : Int)] 3 (0, 0))) := (Below.refl _ _).alloc (Nat.le_refl _) _
                        have E96 : Hid (CB (V90.alloc (.cells #[.int .i64 (F : Int)] 3 (0, 0))) V90.heap.size #[.int .i64 (F : Int)] 3) := hid (CB.new _ _)
                        have E97 := hid (ownsRow_below E92.out bb)
                        have E98 := hid (E93.out.below bb E93.out.lt)
                        clear bb
                        refine hK.out _ _ (by exact SX.out _ T95.out) (fun hHeld => ?_)
                        clear hK K
                        try simp only [Act.put, List.setIfInBounds_toArray, List.set_cons_zero, List.set_cons_succ]
                        generalize (V90.alloc (.cells #[.int .i64 (F : Int)] 3 (0, 0))) = V94 at T95 E96 E97 E98 ⊢
                        generalize V90.heap.size = eb at T95 E96 E97 E98 ⊢
                        refine wpAnyH_ready (rs := [17]) (by kernel_rfl) (by simp) ?_
                        refine AllReadyH.cons (o := { dst := some 62, op := Go.Op.call { callee := Go.Callee.builtin Go.Builtin.append, args := #[Go.Operand.tmp 59, Go.Operand.tmp 61], argTypes := #[24, 24] }, type := 24, pos := "l18_plan.go:101", after := #[{ on := 14, ground := Go.Ground.data }, { on := 16, ground := Go.Ground.data }, { on := 14, ground := Go.Ground.chain }], guard := none }) rfl (fun K hK => ?_) (AllReadyH.nil)
                        · rw [if_pos (by rfl)]
                          refine oper_app (Operand.tmp 59) (Operand.tmp 61) 24 rfl wi.heap.size 3 i0 (.int .i64 0) 1 8 Try.underlying24 hi hz0 hz1 hz2 rfl (by decide) v7 LF (intR (fun j => (MF j : Int)) LF) rfl E97.out ⟨eb, 0, none⟩ 1 1 [.int .i64 (F : Int)] rfl rfl (cb_srcM E96.out) (fun u hu => by simp at hu; subst hu; rfl) (by have := HMF.out.2; unfold maxLen; omega) (by have := HMF.out.2; omega) T95.out.size ?_
                          intro v8 V99 hown hgr
                          have T100 := hid (bel_grownO T95.out (Nat.le_refl _) E97.out (Nat.le_refl _) hgr)
                          have E101 := hid (cb_grown3 E98.out (by decide) E97.out hgr)
                          obtain ⟨a9, p9, rfl, hm9⟩ := MkR.of (mk := fun j => if j = LF then F else MF j) hown (marks_add MF LF F)
                          have E102 := hid hm9
                          clear hown hgr hm9
                          refine hK.out _ _ (by exact SX.out _ T100.out) (fun hHeld => ?_)
                          clear hK K
                          try simp only [Act.put, List.setIfInBounds_toArray, List.set_cons_zero, List.set_cons_succ]
                          refine wpAnyH_take (i := 18) (oi := { dst := some 63, op := Go.Op.build 120 #[(0, Go.Operand.tmp 52), (1, Go.Operand.tmp 62)], type := 120, pos := "l18_plan.go:101", after := #[{ on := 7, ground := Go.Ground.data }, { on := 17, ground := Go.Ground.data }], guard := none }) (v := ?_) rfl (by kernel_rfl) (by kernel_rfl) (by kernel_rfl) (fun _ _ _ h => h) (Or.inl ⟨by rfl, ?_⟩) (by assumption) ?_
                          rotate_left
                          · (intro w hSw; (try dsimp only at hSw); go_simp <;> try with_reducible rfl)
                          try simp only [Act.put, List.setIfInBounds_toArray, List.set_cons_zero, List.set_cons_succ]
                          have y0 : V99.cell? ⟨ec, 0, none⟩ = some (.int .i64 0) := (E101.out.cell 0).trans rfl
                          have y1 : V99.cell? ⟨ec, 1, none⟩ = some (.slice none 0 0) := (E101.out.cell 1).trans rfl
                          have f0 := E101.out.fr 0
                          have f1 := E101.out.fr 1
                          have hE : Hid (CB ((V99.setCell ⟨ec, 0, none⟩ (.int .i64 (CF + su))).setCell ⟨ec, 1, none⟩ (.slice a9 (LF + 1) p9)) ec #[.int .i64 (CF + su), .slice a9 (LF + 1) p9] 120 ∧ MkR ((V99.setCell ⟨ec, 0, none⟩ (.int .i64 (CF + su))).setCell ⟨ec, 1, none⟩ (.slice a9 (LF + 1) p9)) wi.heap.size a9 (LF + 1) p9 (fun j => if j = LF then F else MF j)) := hid ⟨(E101.out.set 0 _).set 1 _, (E102.out.set E101.out (by decide) _).set (E101.out.set 0 _) (by decide) _⟩
                          have TF : Hid (Below wi.heap.size wi ((V99.setCell ⟨ec, 0, none⟩ (.int .i64 (CF + su))).setCell ⟨ec, 1, none⟩ (.slice a9 (LF + 1) p9)) ∧ wi.heap.size ≤ ec) := hid ⟨(T100.out.setCell (by show _ ≤ ec; exact G89.out) _).setCell (by show _ ≤ ec; exact G89.out) _, G89.out⟩
                          refine wpAnyH_ready (rs := [20]) (by kernel_rfl) (by simp) ?_
                          refine AllReadyH.cons (o := { dst := none, op := Go.Op.store 120 (Go.Operand.tmp 9) (Go.Operand.tmp 63), type := 0, pos := "l18_plan.go:101", after := #[{ on := 19, ground := Go.Ground.data }, { on := 18, ground := Go.Ground.data }, { on := 17, ground := Go.Ground.chain }, { on := 0, ground := Go.Ground.phase }, { on := 1, ground := Go.Ground.phase }, { on := 2, ground := Go.Ground.phase }, { on := 3, ground := Go.Ground.phase }, { on := 4, ground := Go.Ground.phase }, { on := 5, ground := Go.Ground.phase }, { on := 6, ground := Go.Ground.phase }, { on := 7, ground := Go.Ground.phase }, { on := 8, ground := Go.Ground.phase }, { on := 9, ground := Go.Ground.phase }, { on := 10, ground := Go.Ground.phase }, { on := 11, ground := Go.Ground.phase }, { on := 12, ground := Go.Ground.phase }, { on := 13, ground := Go.Ground.phase }, { on := 14, ground := Go.Ground.phase }, { on := 15, ground := Go.Ground.phase }, { on := 16, ground := Go.Ground.phase }, { on := 17, ground := Go.Ground.phase }, { on := 18, ground := Go.Ground.phase }, { on := 19, ground := Go.Ground.phase }], guard := none }) rfl (fun K hK => ?_) (AllReadyH.nil)
                          go_simp
                          refine hK.out _ _ (by exact SX.out _ TF.out.1) (fun hHeld => ?_)
                          clear hK K y0 y1 f0 f1
                          try simp only [Act.put, List.setIfInBounds_toArray, List.set_cons_zero, List.set_cons_succ]
                          refine wpAnyH_done (by kernel_rfl) ?_ _
                          refine NoPanic.normal ?_
                          clear hHeld
                          go_wp2_with fail
                          go_meet
                          exact ⟨ec, a9, p9, rfl, TF.out.2, TF.out.1, hE.out.1, hE.out.2⟩
                    · go_simp
                      have T104 := hid (T86.out.alloc T86.out.size (.cells #[.int .i64 (F : Int)] 3 (0, 0)))
                      have bb : Below V85.heap.size V85 (V85.alloc (.cells #[.int .i64 (F : Int)] 3 (0, 0))) := (Below.refl _ _).alloc (Nat.le_refl _) _
                      have E105 : Hid (CB (V85.alloc (.cells #[.int .i64 (F : Int)] 3 (0, 0))) V85.heap.size #[.int .i64 (F : Int)] 3) := hid (CB.new _ _)
                      have E106 := hid (ownsRow_below E88.out bb)
                      have E107 := hid (E87.out.below bb E87.out.lt)
                      have N108 : Hid (ea ≠ V85.heap.size) := hid (by have := madeI_cb E88.out; omega)
                      clear bb
                      refine hK.out _ _ (by exact SX.out _ T104.out) (fun hHeld => ?_)
                      clear hK K
                      try simp only [Act.put, List.setIfInBounds_toArray, List.set_cons_zero, List.set_cons_succ]
                      generalize (V85.alloc (.cells #[.int .i64 (F : Int)] 3 (0, 0))) = V103 at T104 E105 E106 E107 ⊢
                      generalize V85.heap.size = eb at T104 E105 E106 E107 N108 ⊢
                      refine wpAnyH_ready (rs := [14]) (by kernel_rfl) (by simp) ?_
                      refine AllReadyH.cons (o := { dst := some 59, op := Go.Op.call { callee := Go.Callee.builtin Go.Builtin.append, args := #[Go.Operand.tmp 53, Go.Operand.tmp 58], argTypes := #[24, 24] }, type := 24, pos := "l18_plan.go:101", after := #[{ on := 8, ground := Go.Ground.data }, { on := 13, ground := Go.Ground.data }], guard := none }) rfl (fun K hK => ?_) (AllReadyH.nil)
                      · rw [if_pos (by rfl)]
                        refine oper_marks (Operand.tmp 53) (Operand.tmp 58) 24 rfl wi.heap.size i0 Try.underlying24 hi hz0 hz1 hz2 (.slice (some ⟨ea, 0, none⟩) 0 0) rfl E106.out rfl (HMF.out.1.below T104.out) HMF.out.2 T104.out.size ?_
                        intro v7 V109 hown hgr
                        have T110 := hid (bel_grownO T104.out (Nat.le_refl _) E106.out (Nat.le_refl _) hgr)
                        have E111 := hid hown
                        have E112 := hid (E105.out.keep (hgr.block eb E105.out.lt (fun q => N108.out (by simpa [Value.ownBlock] using q.symm))))
                        have E113 := hid (cb_grown3 E107.out (by decide) E106.out hgr)
                        clear hown hgr
                        refine hK.out _ _ (by exact SX.out _ T110.out) (fun hHeld => ?_)
                        clear hK K
                        try simp only [Act.put, List.setIfInBounds_toArray, List.set_cons_zero, List.set_cons_succ]
                        refine wpAnyH_ready (rs := [17]) (by kernel_rfl) (by simp) ?_
                        refine AllReadyH.cons (o := { dst := some 62, op := Go.Op.call { callee := Go.Callee.builtin Go.Builtin.append, args := #[Go.Operand.tmp 59, Go.Operand.tmp 61], argTypes := #[24, 24] }, type := 24, pos := "l18_plan.go:101", after := #[{ on := 14, ground := Go.Ground.data }, { on := 16, ground := Go.Ground.data }, { on := 14, ground := Go.Ground.chain }], guard := none }) rfl (fun K hK => ?_) (AllReadyH.nil)
                        · rw [if_pos (by rfl)]
                          refine oper_app (Operand.tmp 59) (Operand.tmp 61) 24 rfl wi.heap.size 3 i0 (.int .i64 0) 1 8 Try.underlying24 hi hz0 hz1 hz2 rfl (by decide) v7 LF (intR (fun j => (MF j : Int)) LF) rfl E111.out ⟨eb, 0, none⟩ 1 1 [.int .i64 (F : Int)] rfl rfl (cb_srcM E112.out) (fun u hu => by simp at hu; subst hu; rfl) (by have := HMF.out.2; unfold maxLen; omega) (by have := HMF.out.2; omega) T110.out.size ?_
                          intro v8 V114 hown hgr
                          have T115 := hid (bel_grownO T110.out (Nat.le_refl _) E111.out (Nat.le_refl _) hgr)
                          have E116 := hid (cb_grown3 E113.out (by decide) E111.out hgr)
                          obtain ⟨a9, p9, rfl, hm9⟩ := MkR.of (mk := fun j => if j = LF then F else MF j) hown (marks_add MF LF F)
                          have E117 := hid hm9
                          clear hown hgr hm9
                          refine hK.out _ _ (by exact SX.out _ T115.out) (fun hHeld => ?_)
                          clear hK K
                          try simp only [Act.put, List.setIfInBounds_toArray, List.set_cons_zero, List.set_cons_succ]
                          refine wpAnyH_take (i := 18) (oi := { dst := some 63, op := Go.Op.build 120 #[(0, Go.Operand.tmp 52), (1, Go.Operand.tmp 62)], type := 120, pos := "l18_plan.go:101", after := #[{ on := 7, ground := Go.Ground.data }, { on := 17, ground := Go.Ground.data }], guard := none }) (v := ?_) rfl (by kernel_rfl) (by kernel_rfl) (by kernel_rfl) (fun _ _ _ h => h) (Or.inl ⟨by rfl, ?_⟩) (by assumption) ?_
                          rotate_left
                          · (intro w hSw; (try dsimp only at hSw); go_simp <;> try with_reducible rfl)
                          try simp only [Act.put, List.setIfInBounds_toArray, List.set_cons_zero, List.set_cons_succ]
                          have y0 : V114.cell? ⟨ec, 0, none⟩ = some (.int .i64 0) := (E116.out.cell 0).trans rfl
                          have y1 : V114.cell? ⟨ec, 1, none⟩ = some (.slice none 0 0) := (E116.out.cell 1).trans rfl
                          have f0 := E116.out.fr 0
                          have f1 := E116.out.fr 1
                          have hE : Hid (CB ((V114.setCell ⟨ec, 0, none⟩ (.int .i64 (CF + su))).setCell ⟨ec, 1, none⟩ (.slice a9 (LF + 1) p9)) ec #[.int .i64 (CF + su), .slice a9 (LF + 1) p9] 120 ∧ MkR ((V114.setCell ⟨ec, 0, none⟩ (.int .i64 (CF + su))).setCell ⟨ec, 1, none⟩ (.slice a9 (LF + 1) p9)) wi.heap.size a9 (LF + 1) p9 (fun j => if j = LF then F else MF j)) := hid ⟨(E116.out.set 0 _).set 1 _, (E117.out.set E116.out (by decide) _).set (E116.out.set 0 _) (by decide) _⟩
                          have TF : Hid (Below wi.heap.size wi ((V114.setCell ⟨ec, 0, none⟩ (.int .i64 (CF + su))).setCell ⟨ec, 1, none⟩ (.slice a9 (LF + 1) p9)) ∧ wi.heap.size ≤ ec) := hid ⟨(T115.out.setCell (by show _ ≤ ec; exact G89.out) _).setCell (by show _ ≤ ec; exact G89.out) _, G89.out⟩
                          refine wpAnyH_ready (rs := [20]) (by kernel_rfl) (by simp) ?_
                          refine AllReadyH.cons (o := { dst := none, op := Go.Op.store 120 (Go.Operand.tmp 9) (Go.Operand.tmp 63), type := 0, pos := "l18_plan.go:101", after := #[{ on := 19, ground := Go.Ground.data }, { on := 18, ground := Go.Ground.data }, { on := 17, ground := Go.Ground.chain }, { on := 0, ground := Go.Ground.phase }, { on := 1, ground := Go.Ground.phase }, { on := 2, ground := Go.Ground.phase }, { on := 3, ground := Go.Ground.phase }, { on := 4, ground := Go.Ground.phase }, { on := 5, ground := Go.Ground.phase }, { on := 6, ground := Go.Ground.phase }, { on := 7, ground := Go.Ground.phase }, { on := 8, ground := Go.Ground.phase }, { on := 9, ground := Go.Ground.phase }, { on := 10, ground := Go.Ground.phase }, { on := 11, ground := Go.Ground.phase }, { on := 12, ground := Go.Ground.phase }, { on := 13, ground := Go.Ground.phase }, { on := 14, ground := Go.Ground.phase }, { on := 15, ground := Go.Ground.phase }, { on := 16, ground := Go.Ground.phase }, { on := 17, ground := Go.Ground.phase }, { on := 18, ground := Go.Ground.phase }, { on := 19, ground := Go.Ground.phase }], guard := none }) rfl (fun K hK => ?_) (AllReadyH.nil)
                          go_simp
                          refine hK.out _ _ (by exact SX.out _ TF.out.1) (fun hHeld => ?_)
                          clear hK K y0 y1 f0 f1
                          try simp only [Act.put, List.setIfInBounds_toArray, List.set_cons_zero, List.set_cons_succ]
                          refine wpAnyH_done (by kernel_rfl) ?_ _
                          refine NoPanic.normal ?_
                          clear hHeld
                          go_wp2_with fail
                          go_meet
                          exact ⟨ec, a9, p9, rfl, TF.out.2, TF.out.1, hE.out.1, hE.out.2⟩
                · go_simp
                  have T119 := hid (TD.out.alloc TD.out.size (.cells #[.int .i64 (F : Int)] 3 (0, 0)))
                  have bb : Below VD.heap.size VD (VD.alloc (.cells #[.int .i64 (F : Int)] 3 (0, 0))) := (Below.refl _ _).alloc (Nat.le_refl _) _
                  have E120 : Hid (CB (VD.alloc (.cells #[.int .i64 (F : Int)] 3 (0, 0))) VD.heap.size #[.int .i64 (F : Int)] 3) := hid (CB.new _ _)
                  clear bb
                  refine hK.out _ _ (by exact SX.out _ T119.out) (fun hHeld => ?_)
                  clear hK K
                  try simp only [Act.put, List.setIfInBounds_toArray, List.set_cons_zero, List.set_cons_succ]
                  generalize (VD.alloc (.cells #[.int .i64 (F : Int)] 3 (0, 0))) = V118 at T119 E120 ⊢
                  generalize VD.heap.size = eb at T119 E120 ⊢
                  refine wpAnyH_ready (rs := [8, 19]) (by kernel_rfl) (by simp) ?_
                  refine AllReadyH.cons (o := { dst := some 53, op := Go.Op.buildSlice 24 0 #[], type := 24, pos := "l18_plan.go:101", after := #[], guard := none }) rfl (fun K hK => ?_) (AllReadyH.cons (o := { dst := some 9, op := Go.Op.alloc 120, type := 0, pos := "l18_plan.go:101", after := #[], guard := none }) rfl (fun K hK => ?_) (AllReadyH.nil))
                  · go_simp
                    have T122 := hid (T119.out.alloc T119.out.size (.cells #[] 3 (0, 0)))
                    have bb : Below V118.heap.size V118 (V118.alloc (.cells #[] 3 (0, 0))) := (Below.refl _ _).alloc (Nat.le_refl _) _
                    have E123 : Hid ((V118.alloc (.cells #[] 3 (0, 0))).ownsRow wi.heap.size 3 1 (.slice (some ⟨V118.heap.size, 0, none⟩) 0 0) 0 []) := hid (madeI (CB.new _ _) T119.out.size)
                    have E124 := hid (E120.out.below bb E120.out.lt)
                    have N125 : Hid (V118.heap.size ≠ eb) := hid (by have := E120.out.lt; omega)
                    clear bb
                    refine hK.out _ _ (by exact SX.out _ T122.out) (fun hHeld => ?_)
                    clear hK K
                    try simp only [Act.put, List.setIfInBounds_toArray, List.set_cons_zero, List.set_cons_succ]
                    generalize (V118.alloc (.cells #[] 3 (0, 0))) = V121 at T122 E123 E124 ⊢
                    generalize V118.heap.size = ea at T122 E123 E124 N125 ⊢
                    refine wpAnyH_ready (rs := [14, 19]) (by kernel_rfl) (by simp) ?_
                    refine AllReadyH.cons (o := { dst := some 59, op := Go.Op.call { callee := Go.Callee.builtin Go.Builtin.append, args := #[Go.Operand.tmp 53, Go.Operand.tmp 58], argTypes := #[24, 24] }, type := 24, pos := "l18_plan.go:101", after := #[{ on := 8, ground := Go.Ground.data }, { on := 13, ground := Go.Ground.data }], guard := none }) rfl (fun K hK => ?_) (AllReadyH.cons (o := { dst := some 9, op := Go.Op.alloc 120, type := 0, pos := "l18_plan.go:101", after := #[], guard := none }) rfl (fun K hK => ?_) (AllReadyH.nil))
                    · rw [if_pos (by rfl)]
                      refine oper_marks (Operand.tmp 53) (Operand.tmp 58) 24 rfl wi.heap.size i0 Try.underlying24 hi hz0 hz1 hz2 (.slice (some ⟨ea, 0, none⟩) 0 0) rfl E123.out rfl (HMF.out.1.below T122.out) HMF.out.2 T122.out.size ?_
                      intro v7 V126 hown hgr
                      have T127 := hid (bel_grownO T122.out (Nat.le_refl _) E123.out (Nat.le_refl _) hgr)
                      have E128 := hid hown
                      have E129 := hid (E124.out.keep (hgr.block eb E124.out.lt (fun q => N125.out (by simpa [Value.ownBlock] using q.symm))))
                      clear hown hgr
                      refine hK.out _ _ (by exact SX.out _ T127.out) (fun hHeld => ?_)
                      clear hK K
                      try simp only [Act.put, List.setIfInBounds_toArray, List.set_cons_zero, List.set_cons_succ]
                      refine wpAnyH_ready (rs := [17, 19]) (by kernel_rfl) (by simp) ?_
                      refine AllReadyH.cons (o := { dst := some 62, op := Go.Op.call { callee := Go.Callee.builtin Go.Builtin.append, args := #[Go.Operand.tmp 59, Go.Operand.tmp 61], argTypes := #[24, 24] }, type := 24, pos := "l18_plan.go:101", after := #[{ on := 14, ground := Go.Ground.data }, { on := 16, ground := Go.Ground.data }, { on := 14, ground := Go.Ground.chain }], guard := none }) rfl (fun K hK => ?_) (AllReadyH.cons (o := { dst := some 9, op := Go.Op.alloc 120, type := 0, pos := "l18_plan.go:101", after := #[], guard := none }) rfl (fun K hK => ?_) (AllReadyH.nil))
                      · rw [if_pos (by rfl)]
                        refine oper_app (Operand.tmp 59) (Operand.tmp 61) 24 rfl wi.heap.size 3 i0 (.int .i64 0) 1 8 Try.underlying24 hi hz0 hz1 hz2 rfl (by decide) v7 LF (intR (fun j => (MF j : Int)) LF) rfl E128.out ⟨eb, 0, none⟩ 1 1 [.int .i64 (F : Int)] rfl rfl (cb_srcM E129.out) (fun u hu => by simp at hu; subst hu; rfl) (by have := HMF.out.2; unfold maxLen; omega) (by have := HMF.out.2; omega) T127.out.size ?_
                        intro v8 V130 hown hgr
                        have T131 := hid (bel_grownO T127.out (Nat.le_refl _) E128.out (Nat.le_refl _) hgr)
                        obtain ⟨a9, p9, rfl, hm9⟩ := MkR.of (mk := fun j => if j = LF then F else MF j) hown (marks_add MF LF F)
                        have E132 := hid hm9
                        clear hown hgr hm9
                        refine hK.out _ _ (by exact SX.out _ T131.out) (fun hHeld => ?_)
                        clear hK K
                        try simp only [Act.put, List.setIfInBounds_toArray, List.set_cons_zero, List.set_cons_succ]
                        refine wpAnyH_take (i := 18) (oi := { dst := some 63, op := Go.Op.build 120 #[(0, Go.Operand.tmp 52), (1, Go.Operand.tmp 62)], type := 120, pos := "l18_plan.go:101", after := #[{ on := 7, ground := Go.Ground.data }, { on := 17, ground := Go.Ground.data }], guard := none }) (v := ?_) rfl (by kernel_rfl) (by kernel_rfl) (by kernel_rfl) (fun _ _ _ h => h) (Or.inl ⟨by rfl, ?_⟩) (by assumption) ?_
                        rotate_left
                        · (intro w hSw; (try dsimp only at hSw); go_simp <;> try with_reducible rfl)
                        try simp only [Act.put, List.setIfInBounds_toArray, List.set_cons_zero, List.set_cons_succ]
                        refine wpAnyH_ready (rs := [19]) (by kernel_rfl) (by simp) ?_
                        refine AllReadyH.cons (o := { dst := some 9, op := Go.Op.alloc 120, type := 0, pos := "l18_plan.go:101", after := #[], guard := none }) rfl (fun K hK => ?_) (AllReadyH.nil)
                        · go_simp
                          have T134 := hid (T131.out.alloc T131.out.size (.cells #[.int .i64 0, .slice none 0 0] 120 (0, 0)))
                          have bb : Below V130.heap.size V130 (V130.alloc (.cells #[.int .i64 0, .slice none 0 0] 120 (0, 0))) := (Below.refl _ _).alloc (Nat.le_refl _) _
                          have E135 : Hid (CB (V130.alloc (.cells #[.int .i64 0, .slice none 0 0] 120 (0, 0))) V130.heap.size #[.int .i64 0, .slice none 0 0] 120) := hid (CB.new _ _)
                          have E136 := hid (E132.out.below bb)
                          have G137 : Hid (wi.heap.size ≤ V130.heap.size) := hid T131.out.size
                          clear bb
                          refine hK.out _ _ (by exact SX.out _ T134.out) (fun hHeld => ?_)
                          clear hK K
                          try simp only [Act.put, List.setIfInBounds_toArray, List.set_cons_zero, List.set_cons_succ]
                          generalize (V130.alloc (.cells #[.int .i64 0, .slice none 0 0] 120 (0, 0))) = V133 at T134 E135 E136 ⊢
                          generalize V130.heap.size = ec at T134 E135 E136 G137 ⊢
                          have y0 : V133.cell? ⟨ec, 0, none⟩ = some (.int .i64 0) := (E135.out.cell 0).trans rfl
                          have y1 : V133.cell? ⟨ec, 1, none⟩ = some (.slice none 0 0) := (E135.out.cell 1).trans rfl
                          have f0 := E135.out.fr 0
                          have f1 := E135.out.fr 1
                          have hE : Hid (CB ((V133.setCell ⟨ec, 0, none⟩ (.int .i64 (CF + su))).setCell ⟨ec, 1, none⟩ (.slice a9 (LF + 1) p9)) ec #[.int .i64 (CF + su), .slice a9 (LF + 1) p9] 120 ∧ MkR ((V133.setCell ⟨ec, 0, none⟩ (.int .i64 (CF + su))).setCell ⟨ec, 1, none⟩ (.slice a9 (LF + 1) p9)) wi.heap.size a9 (LF + 1) p9 (fun j => if j = LF then F else MF j)) := hid ⟨(E135.out.set 0 _).set 1 _, (E136.out.set E135.out (by decide) _).set (E135.out.set 0 _) (by decide) _⟩
                          have TF : Hid (Below wi.heap.size wi ((V133.setCell ⟨ec, 0, none⟩ (.int .i64 (CF + su))).setCell ⟨ec, 1, none⟩ (.slice a9 (LF + 1) p9)) ∧ wi.heap.size ≤ ec) := hid ⟨(T134.out.setCell (by show _ ≤ ec; exact G137.out) _).setCell (by show _ ≤ ec; exact G137.out) _, G137.out⟩
                          refine wpAnyH_ready (rs := [20]) (by kernel_rfl) (by simp) ?_
                          refine AllReadyH.cons (o := { dst := none, op := Go.Op.store 120 (Go.Operand.tmp 9) (Go.Operand.tmp 63), type := 0, pos := "l18_plan.go:101", after := #[{ on := 19, ground := Go.Ground.data }, { on := 18, ground := Go.Ground.data }, { on := 17, ground := Go.Ground.chain }, { on := 0, ground := Go.Ground.phase }, { on := 1, ground := Go.Ground.phase }, { on := 2, ground := Go.Ground.phase }, { on := 3, ground := Go.Ground.phase }, { on := 4, ground := Go.Ground.phase }, { on := 5, ground := Go.Ground.phase }, { on := 6, ground := Go.Ground.phase }, { on := 7, ground := Go.Ground.phase }, { on := 8, ground := Go.Ground.phase }, { on := 9, ground := Go.Ground.phase }, { on := 10, ground := Go.Ground.phase }, { on := 11, ground := Go.Ground.phase }, { on := 12, ground := Go.Ground.phase }, { on := 13, ground := Go.Ground.phase }, { on := 14, ground := Go.Ground.phase }, { on := 15, ground := Go.Ground.phase }, { on := 16, ground := Go.Ground.phase }, { on := 17, ground := Go.Ground.phase }, { on := 18, ground := Go.Ground.phase }, { on := 19, ground := Go.Ground.phase }], guard := none }) rfl (fun K hK => ?_) (AllReadyH.nil)
                          go_simp
                          refine hK.out _ _ (by exact SX.out _ TF.out.1) (fun hHeld => ?_)
                          clear hK K y0 y1 f0 f1
                          try simp only [Act.put, List.setIfInBounds_toArray, List.set_cons_zero, List.set_cons_succ]
                          refine wpAnyH_done (by kernel_rfl) ?_ _
                          refine NoPanic.normal ?_
                          clear hHeld
                          go_wp2_with fail
                          go_meet
                          exact ⟨ec, a9, p9, rfl, TF.out.2, TF.out.1, hE.out.1, hE.out.2⟩
                      · go_simp
                        have T139 := hid (T127.out.alloc T127.out.size (.cells #[.int .i64 0, .slice none 0 0] 120 (0, 0)))
                        have bb : Below V126.heap.size V126 (V126.alloc (.cells #[.int .i64 0, .slice none 0 0] 120 (0, 0))) := (Below.refl _ _).alloc (Nat.le_refl _) _
                        have E140 : Hid (CB (V126.alloc (.cells #[.int .i64 0, .slice none 0 0] 120 (0, 0))) V126.heap.size #[.int .i64 0, .slice none 0 0] 120) := hid (CB.new _ _)
                        have E141 := hid (ownsRow_below E128.out bb)
                        have E142 := hid (E129.out.below bb E129.out.lt)
                        have G143 : Hid (wi.heap.size ≤ V126.heap.size) := hid T127.out.size
                        clear bb
                        refine hK.out _ _ (by exact SX.out _ T139.out) (fun hHeld => ?_)
                        clear hK K
                        try simp only [Act.put, List.setIfInBounds_toArray, List.set_cons_zero, List.set_cons_succ]
                        generalize (V126.alloc (.cells #[.int .i64 0, .slice none 0 0] 120 (0, 0))) = V138 at T139 E140 E141 E142 ⊢
                        generalize V126.heap.size = ec at T139 E140 E141 E142 G143 ⊢
                        refine wpAnyH_ready (rs := [17]) (by kernel_rfl) (by simp) ?_
                        refine AllReadyH.cons (o := { dst := some 62, op := Go.Op.call { callee := Go.Callee.builtin Go.Builtin.append, args := #[Go.Operand.tmp 59, Go.Operand.tmp 61], argTypes := #[24, 24] }, type := 24, pos := "l18_plan.go:101", after := #[{ on := 14, ground := Go.Ground.data }, { on := 16, ground := Go.Ground.data }, { on := 14, ground := Go.Ground.chain }], guard := none }) rfl (fun K hK => ?_) (AllReadyH.nil)
                        · rw [if_pos (by rfl)]
                          refine oper_app (Operand.tmp 59) (Operand.tmp 61) 24 rfl wi.heap.size 3 i0 (.int .i64 0) 1 8 Try.underlying24 hi hz0 hz1 hz2 rfl (by decide) v7 LF (intR (fun j => (MF j : Int)) LF) rfl E141.out ⟨eb, 0, none⟩ 1 1 [.int .i64 (F : Int)] rfl rfl (cb_srcM E142.out) (fun u hu => by simp at hu; subst hu; rfl) (by have := HMF.out.2; unfold maxLen; omega) (by have := HMF.out.2; omega) T139.out.size ?_
                          intro v8 V144 hown hgr
                          have T145 := hid (bel_grownO T139.out (Nat.le_refl _) E141.out (Nat.le_refl _) hgr)
                          have E146 := hid (cb_grown3 E140.out (by decide) E141.out hgr)
                          obtain ⟨a9, p9, rfl, hm9⟩ := MkR.of (mk := fun j => if j = LF then F else MF j) hown (marks_add MF LF F)
                          have E147 := hid hm9
                          clear hown hgr hm9
                          refine hK.out _ _ (by exact SX.out _ T145.out) (fun hHeld => ?_)
                          clear hK K
                          try simp only [Act.put, List.setIfInBounds_toArray, List.set_cons_zero, List.set_cons_succ]
                          refine wpAnyH_take (i := 18) (oi := { dst := some 63, op := Go.Op.build 120 #[(0, Go.Operand.tmp 52), (1, Go.Operand.tmp 62)], type := 120, pos := "l18_plan.go:101", after := #[{ on := 7, ground := Go.Ground.data }, { on := 17, ground := Go.Ground.data }], guard := none }) (v := ?_) rfl (by kernel_rfl) (by kernel_rfl) (by kernel_rfl) (fun _ _ _ h => h) (Or.inl ⟨by rfl, ?_⟩) (by assumption) ?_
                          rotate_left
                          · (intro w hSw; (try dsimp only at hSw); go_simp <;> try with_reducible rfl)
                          try simp only [Act.put, List.setIfInBounds_toArray, List.set_cons_zero, List.set_cons_succ]
                          have y0 : V144.cell? ⟨ec, 0, none⟩ = some (.int .i64 0) := (E146.out.cell 0).trans rfl
                          have y1 : V144.cell? ⟨ec, 1, none⟩ = some (.slice none 0 0) := (E146.out.cell 1).trans rfl
                          have f0 := E146.out.fr 0
                          have f1 := E146.out.fr 1
                          have hE : Hid (CB ((V144.setCell ⟨ec, 0, none⟩ (.int .i64 (CF + su))).setCell ⟨ec, 1, none⟩ (.slice a9 (LF + 1) p9)) ec #[.int .i64 (CF + su), .slice a9 (LF + 1) p9] 120 ∧ MkR ((V144.setCell ⟨ec, 0, none⟩ (.int .i64 (CF + su))).setCell ⟨ec, 1, none⟩ (.slice a9 (LF + 1) p9)) wi.heap.size a9 (LF + 1) p9 (fun j => if j = LF then F else MF j)) := hid ⟨(E146.out.set 0 _).set 1 _, (E147.out.set E146.out (by decide) _).set (E146.out.set 0 _) (by decide) _⟩
                          have TF : Hid (Below wi.heap.size wi ((V144.setCell ⟨ec, 0, none⟩ (.int .i64 (CF + su))).setCell ⟨ec, 1, none⟩ (.slice a9 (LF + 1) p9)) ∧ wi.heap.size ≤ ec) := hid ⟨(T145.out.setCell (by show _ ≤ ec; exact G143.out) _).setCell (by show _ ≤ ec; exact G143.out) _, G143.out⟩
                          refine wpAnyH_ready (rs := [20]) (by kernel_rfl) (by simp) ?_
                          refine AllReadyH.cons (o := { dst := none, op := Go.Op.store 120 (Go.Operand.tmp 9) (Go.Operand.tmp 63), type := 0, pos := "l18_plan.go:101", after := #[{ on := 19, ground := Go.Ground.data }, { on := 18, ground := Go.Ground.data }, { on := 17, ground := Go.Ground.chain }, { on := 0, ground := Go.Ground.phase }, { on := 1, ground := Go.Ground.phase }, { on := 2, ground := Go.Ground.phase }, { on := 3, ground := Go.Ground.phase }, { on := 4, ground := Go.Ground.phase }, { on := 5, ground := Go.Ground.phase }, { on := 6, ground := Go.Ground.phase }, { on := 7, ground := Go.Ground.phase }, { on := 8, ground := Go.Ground.phase }, { on := 9, ground := Go.Ground.phase }, { on := 10, ground := Go.Ground.phase }, { on := 11, ground := Go.Ground.phase }, { on := 12, ground := Go.Ground.phase }, { on := 13, ground := Go.Ground.phase }, { on := 14, ground := Go.Ground.phase }, { on := 15, ground := Go.Ground.phase }, { on := 16, ground := Go.Ground.phase }, { on := 17, ground := Go.Ground.phase }, { on := 18, ground := Go.Ground.phase }, { on := 19, ground := Go.Ground.phase }], guard := none }) rfl (fun K hK => ?_) (AllReadyH.nil)
                          go_simp
                          refine hK.out _ _ (by exact SX.out _ TF.out.1) (fun hHeld => ?_)
                          clear hK K y0 y1 f0 f1
                          try simp only [Act.put, List.setIfInBounds_toArray, List.set_cons_zero, List.set_cons_succ]
                          refine wpAnyH_done (by kernel_rfl) ?_ _
                          refine NoPanic.normal ?_
                          clear hHeld
                          go_wp2_with fail
                          go_meet
                          exact ⟨ec, a9, p9, rfl, TF.out.2, TF.out.1, hE.out.1, hE.out.2⟩
                    · go_simp
                      have T149 := hid (T122.out.alloc T122.out.size (.cells #[.int .i64 0, .slice none 0 0] 120 (0, 0)))
                      have bb : Below V121.heap.size V121 (V121.alloc (.cells #[.int .i64 0, .slice none 0 0] 120 (0, 0))) := (Below.refl _ _).alloc (Nat.le_refl _) _
                      have E150 : Hid (CB (V121.alloc (.cells #[.int .i64 0, .slice none 0 0] 120 (0, 0))) V121.heap.size #[.int .i64 0, .slice none 0 0] 120) := hid (CB.new _ _)
                      have E151 := hid (ownsRow_below E123.out bb)
                      have E152 := hid (E124.out.below bb E124.out.lt)
                      have G153 : Hid (wi.heap.size ≤ V121.heap.size) := hid T122.out.size
                      clear bb
                      refine hK.out _ _ (by exact SX.out _ T149.out) (fun hHeld => ?_)
                      clear hK K
                      try simp only [Act.put, List.setIfInBounds_toArray, List.set_cons_zero, List.set_cons_succ]
                      generalize (V121.alloc (.cells #[.int .i64 0, .slice none 0 0] 120 (0, 0))) = V148 at T149 E150 E151 E152 ⊢
                      generalize V121.heap.size = ec at T149 E150 E151 E152 G153 ⊢
                      refine wpAnyH_ready (rs := [14]) (by kernel_rfl) (by simp) ?_
                      refine AllReadyH.cons (o := { dst := some 59, op := Go.Op.call { callee := Go.Callee.builtin Go.Builtin.append, args := #[Go.Operand.tmp 53, Go.Operand.tmp 58], argTypes := #[24, 24] }, type := 24, pos := "l18_plan.go:101", after := #[{ on := 8, ground := Go.Ground.data }, { on := 13, ground := Go.Ground.data }], guard := none }) rfl (fun K hK => ?_) (AllReadyH.nil)
                      · rw [if_pos (by rfl)]
                        refine oper_marks (Operand.tmp 53) (Operand.tmp 58) 24 rfl wi.heap.size i0 Try.underlying24 hi hz0 hz1 hz2 (.slice (some ⟨ea, 0, none⟩) 0 0) rfl E151.out rfl (HMF.out.1.below T149.out) HMF.out.2 T149.out.size ?_
                        intro v7 V154 hown hgr
                        have T155 := hid (bel_grownO T149.out (Nat.le_refl _) E151.out (Nat.le_refl _) hgr)
                        have E156 := hid hown
                        have E157 := hid (E152.out.keep (hgr.block eb E152.out.lt (fun q => N125.out (by simpa [Value.ownBlock] using q.symm))))
                        have E158 := hid (cb_grown3 E150.out (by decide) E151.out hgr)
                        clear hown hgr
                        refine hK.out _ _ (by exact SX.out _ T155.out) (fun hHeld => ?_)
                        clear hK K
                        try simp only [Act.put, List.setIfInBounds_toArray, List.set_cons_zero, List.set_cons_succ]
                        refine wpAnyH_ready (rs := [17]) (by kernel_rfl) (by simp) ?_
                        refine AllReadyH.cons (o := { dst := some 62, op := Go.Op.call { callee := Go.Callee.builtin Go.Builtin.append, args := #[Go.Operand.tmp 59, Go.Operand.tmp 61], argTypes := #[24, 24] }, type := 24, pos := "l18_plan.go:101", after := #[{ on := 14, ground := Go.Ground.data }, { on := 16, ground := Go.Ground.data }, { on := 14, ground := Go.Ground.chain }], guard := none }) rfl (fun K hK => ?_) (AllReadyH.nil)
                        · rw [if_pos (by rfl)]
                          refine oper_app (Operand.tmp 59) (Operand.tmp 61) 24 rfl wi.heap.size 3 i0 (.int .i64 0) 1 8 Try.underlying24 hi hz0 hz1 hz2 rfl (by decide) v7 LF (intR (fun j => (MF j : Int)) LF) rfl E156.out ⟨eb, 0, none⟩ 1 1 [.int .i64 (F : Int)] rfl rfl (cb_srcM E157.out) (fun u hu => by simp at hu; subst hu; rfl) (by have := HMF.out.2; unfold maxLen; omega) (by have := HMF.out.2; omega) T155.out.size ?_
                          intro v8 V159 hown hgr
                          have T160 := hid (bel_grownO T155.out (Nat.le_refl _) E156.out (Nat.le_refl _) hgr)
                          have E161 := hid (cb_grown3 E158.out (by decide) E156.out hgr)
                          obtain ⟨a9, p9, rfl, hm9⟩ := MkR.of (mk := fun j => if j = LF then F else MF j) hown (marks_add MF LF F)
                          have E162 := hid hm9
                          clear hown hgr hm9
                          refine hK.out _ _ (by exact SX.out _ T160.out) (fun hHeld => ?_)
                          clear hK K
                          try simp only [Act.put, List.setIfInBounds_toArray, List.set_cons_zero, List.set_cons_succ]
                          refine wpAnyH_take (i := 18) (oi := { dst := some 63, op := Go.Op.build 120 #[(0, Go.Operand.tmp 52), (1, Go.Operand.tmp 62)], type := 120, pos := "l18_plan.go:101", after := #[{ on := 7, ground := Go.Ground.data }, { on := 17, ground := Go.Ground.data }], guard := none }) (v := ?_) rfl (by kernel_rfl) (by kernel_rfl) (by kernel_rfl) (fun _ _ _ h => h) (Or.inl ⟨by rfl, ?_⟩) (by assumption) ?_
                          rotate_left
                          · (intro w hSw; (try dsimp only at hSw); go_simp <;> try with_reducible rfl)
                          try simp only [Act.put, List.setIfInBounds_toArray, List.set_cons_zero, List.set_cons_succ]
                          have y0 : V159.cell? ⟨ec, 0, none⟩ = some (.int .i64 0) := (E161.out.cell 0).trans rfl
                          have y1 : V159.cell? ⟨ec, 1, none⟩ = some (.slice none 0 0) := (E161.out.cell 1).trans rfl
                          have f0 := E161.out.fr 0
                          have f1 := E161.out.fr 1
                          have hE : Hid (CB ((V159.setCell ⟨ec, 0, none⟩ (.int .i64 (CF + su))).setCell ⟨ec, 1, none⟩ (.slice a9 (LF + 1) p9)) ec #[.int .i64 (CF + su), .slice a9 (LF + 1) p9] 120 ∧ MkR ((V159.setCell ⟨ec, 0, none⟩ (.int .i64 (CF + su))).setCell ⟨ec, 1, none⟩ (.slice a9 (LF + 1) p9)) wi.heap.size a9 (LF + 1) p9 (fun j => if j = LF then F else MF j)) := hid ⟨(E161.out.set 0 _).set 1 _, (E162.out.set E161.out (by decide) _).set (E161.out.set 0 _) (by decide) _⟩
                          have TF : Hid (Below wi.heap.size wi ((V159.setCell ⟨ec, 0, none⟩ (.int .i64 (CF + su))).setCell ⟨ec, 1, none⟩ (.slice a9 (LF + 1) p9)) ∧ wi.heap.size ≤ ec) := hid ⟨(T160.out.setCell (by show _ ≤ ec; exact G153.out) _).setCell (by show _ ≤ ec; exact G153.out) _, G153.out⟩
                          refine wpAnyH_ready (rs := [20]) (by kernel_rfl) (by simp) ?_
                          refine AllReadyH.cons (o := { dst := none, op := Go.Op.store 120 (Go.Operand.tmp 9) (Go.Operand.tmp 63), type := 0, pos := "l18_plan.go:101", after := #[{ on := 19, ground := Go.Ground.data }, { on := 18, ground := Go.Ground.data }, { on := 17, ground := Go.Ground.chain }, { on := 0, ground := Go.Ground.phase }, { on := 1, ground := Go.Ground.phase }, { on := 2, ground := Go.Ground.phase }, { on := 3, ground := Go.Ground.phase }, { on := 4, ground := Go.Ground.phase }, { on := 5, ground := Go.Ground.phase }, { on := 6, ground := Go.Ground.phase }, { on := 7, ground := Go.Ground.phase }, { on := 8, ground := Go.Ground.phase }, { on := 9, ground := Go.Ground.phase }, { on := 10, ground := Go.Ground.phase }, { on := 11, ground := Go.Ground.phase }, { on := 12, ground := Go.Ground.phase }, { on := 13, ground := Go.Ground.phase }, { on := 14, ground := Go.Ground.phase }, { on := 15, ground := Go.Ground.phase }, { on := 16, ground := Go.Ground.phase }, { on := 17, ground := Go.Ground.phase }, { on := 18, ground := Go.Ground.phase }, { on := 19, ground := Go.Ground.phase }], guard := none }) rfl (fun K hK => ?_) (AllReadyH.nil)
                          go_simp
                          refine hK.out _ _ (by exact SX.out _ TF.out.1) (fun hHeld => ?_)
                          clear hK K y0 y1 f0 f1
                          try simp only [Act.put, List.setIfInBounds_toArray, List.set_cons_zero, List.set_cons_succ]
                          refine wpAnyH_done (by kernel_rfl) ?_ _
                          refine NoPanic.normal ?_
                          clear hHeld
                          go_wp2_with fail
                          go_meet
                          exact ⟨ec, a9, p9, rfl, TF.out.2, TF.out.1, hE.out.1, hE.out.2⟩
                  · go_simp
                    have T164 := hid (T119.out.alloc T119.out.size (.cells #[.int .i64 0, .slice none 0 0] 120 (0, 0)))
                    have bb : Below V118.heap.size V118 (V118.alloc (.cells #[.int .i64 0, .slice none 0 0] 120 (0, 0))) := (Below.refl _ _).alloc (Nat.le_refl _) _
                    have E165 : Hid (CB (V118.alloc (.cells #[.int .i64 0, .slice none 0 0] 120 (0, 0))) V118.heap.size #[.int .i64 0, .slice none 0 0] 120) := hid (CB.new _ _)
                    have E166 := hid (E120.out.below bb E120.out.lt)
                    have G167 : Hid (wi.heap.size ≤ V118.heap.size) := hid T119.out.size
                    clear bb
                    refine hK.out _ _ (by exact SX.out _ T164.out) (fun hHeld => ?_)
                    clear hK K
                    try simp only [Act.put, List.setIfInBounds_toArray, List.set_cons_zero, List.set_cons_succ]
                    generalize (V118.alloc (.cells #[.int .i64 0, .slice none 0 0] 120 (0, 0))) = V163 at T164 E165 E166 ⊢
                    generalize V118.heap.size = ec at T164 E165 E166 G167 ⊢
                    refine wpAnyH_ready (rs := [8]) (by kernel_rfl) (by simp) ?_
                    refine AllReadyH.cons (o := { dst := some 53, op := Go.Op.buildSlice 24 0 #[], type := 24, pos := "l18_plan.go:101", after := #[], guard := none }) rfl (fun K hK => ?_) (AllReadyH.nil)
                    · go_simp
                      have T169 := hid (T164.out.alloc T164.out.size (.cells #[] 3 (0, 0)))
                      have bb : Below V163.heap.size V163 (V163.alloc (.cells #[] 3 (0, 0))) := (Below.refl _ _).alloc (Nat.le_refl _) _
                      have E170 : Hid ((V163.alloc (.cells #[] 3 (0, 0))).ownsRow wi.heap.size 3 1 (.slice (some ⟨V163.heap.size, 0, none⟩) 0 0) 0 []) := hid (madeI (CB.new _ _) T164.out.size)
                      have E171 := hid (E166.out.below bb E166.out.lt)
                      have E172 := hid (E165.out.below bb E165.out.lt)
                      have N173 : Hid (V163.heap.size ≠ eb) := hid (by have := E166.out.lt; omega)
                      clear bb
                      refine hK.out _ _ (by exact SX.out _ T169.out) (fun hHeld => ?_)
                      clear hK K
                      try simp only [Act.put, List.setIfInBounds_toArray, List.set_cons_zero, List.set_cons_succ]
                      generalize (V163.alloc (.cells #[] 3 (0, 0))) = V168 at T169 E170 E171 E172 ⊢
                      generalize V163.heap.size = ea at T169 E170 E171 E172 N173 ⊢
                      refine wpAnyH_ready (rs := [14]) (by kernel_rfl) (by simp) ?_
                      refine AllReadyH.cons (o := { dst := some 59, op := Go.Op.call { callee := Go.Callee.builtin Go.Builtin.append, args := #[Go.Operand.tmp 53, Go.Operand.tmp 58], argTypes := #[24, 24] }, type := 24, pos := "l18_plan.go:101", after := #[{ on := 8, ground := Go.Ground.data }, { on := 13, ground := Go.Ground.data }], guard := none }) rfl (fun K hK => ?_) (AllReadyH.nil)
                      · rw [if_pos (by rfl)]
                        refine oper_marks (Operand.tmp 53) (Operand.tmp 58) 24 rfl wi.heap.size i0 Try.underlying24 hi hz0 hz1 hz2 (.slice (some ⟨ea, 0, none⟩) 0 0) rfl E170.out rfl (HMF.out.1.below T169.out) HMF.out.2 T169.out.size ?_
                        intro v7 V174 hown hgr
                        have T175 := hid (bel_grownO T169.out (Nat.le_refl _) E170.out (Nat.le_refl _) hgr)
                        have E176 := hid hown
                        have E177 := hid (E171.out.keep (hgr.block eb E171.out.lt (fun q => N173.out (by simpa [Value.ownBlock] using q.symm))))
                        have E178 := hid (cb_grown3 E172.out (by decide) E170.out hgr)
                        clear hown hgr
                        refine hK.out _ _ (by exact SX.out _ T175.out) (fun hHeld => ?_)
                        clear hK K
                        try simp only [Act.put, List.setIfInBounds_toArray, List.set_cons_zero, List.set_cons_succ]
                        refine wpAnyH_ready (rs := [17]) (by kernel_rfl) (by simp) ?_
                        refine AllReadyH.cons (o := { dst := some 62, op := Go.Op.call { callee := Go.Callee.builtin Go.Builtin.append, args := #[Go.Operand.tmp 59, Go.Operand.tmp 61], argTypes := #[24, 24] }, type := 24, pos := "l18_plan.go:101", after := #[{ on := 14, ground := Go.Ground.data }, { on := 16, ground := Go.Ground.data }, { on := 14, ground := Go.Ground.chain }], guard := none }) rfl (fun K hK => ?_) (AllReadyH.nil)
                        · rw [if_pos (by rfl)]
                          refine oper_app (Operand.tmp 59) (Operand.tmp 61) 24 rfl wi.heap.size 3 i0 (.int .i64 0) 1 8 Try.underlying24 hi hz0 hz1 hz2 rfl (by decide) v7 LF (intR (fun j => (MF j : Int)) LF) rfl E176.out ⟨eb, 0, none⟩ 1 1 [.int .i64 (F : Int)] rfl rfl (cb_srcM E177.out) (fun u hu => by simp at hu; subst hu; rfl) (by have := HMF.out.2; unfold maxLen; omega) (by have := HMF.out.2; omega) T175.out.size ?_
                          intro v8 V179 hown hgr
                          have T180 := hid (bel_grownO T175.out (Nat.le_refl _) E176.out (Nat.le_refl _) hgr)
                          have E181 := hid (cb_grown3 E178.out (by decide) E176.out hgr)
                          obtain ⟨a9, p9, rfl, hm9⟩ := MkR.of (mk := fun j => if j = LF then F else MF j) hown (marks_add MF LF F)
                          have E182 := hid hm9
                          clear hown hgr hm9
                          refine hK.out _ _ (by exact SX.out _ T180.out) (fun hHeld => ?_)
                          clear hK K
                          try simp only [Act.put, List.setIfInBounds_toArray, List.set_cons_zero, List.set_cons_succ]
                          refine wpAnyH_take (i := 18) (oi := { dst := some 63, op := Go.Op.build 120 #[(0, Go.Operand.tmp 52), (1, Go.Operand.tmp 62)], type := 120, pos := "l18_plan.go:101", after := #[{ on := 7, ground := Go.Ground.data }, { on := 17, ground := Go.Ground.data }], guard := none }) (v := ?_) rfl (by kernel_rfl) (by kernel_rfl) (by kernel_rfl) (fun _ _ _ h => h) (Or.inl ⟨by rfl, ?_⟩) (by assumption) ?_
                          rotate_left
                          · (intro w hSw; (try dsimp only at hSw); go_simp <;> try with_reducible rfl)
                          try simp only [Act.put, List.setIfInBounds_toArray, List.set_cons_zero, List.set_cons_succ]
                          have y0 : V179.cell? ⟨ec, 0, none⟩ = some (.int .i64 0) := (E181.out.cell 0).trans rfl
                          have y1 : V179.cell? ⟨ec, 1, none⟩ = some (.slice none 0 0) := (E181.out.cell 1).trans rfl
                          have f0 := E181.out.fr 0
                          have f1 := E181.out.fr 1
                          have hE : Hid (CB ((V179.setCell ⟨ec, 0, none⟩ (.int .i64 (CF + su))).setCell ⟨ec, 1, none⟩ (.slice a9 (LF + 1) p9)) ec #[.int .i64 (CF + su), .slice a9 (LF + 1) p9] 120 ∧ MkR ((V179.setCell ⟨ec, 0, none⟩ (.int .i64 (CF + su))).setCell ⟨ec, 1, none⟩ (.slice a9 (LF + 1) p9)) wi.heap.size a9 (LF + 1) p9 (fun j => if j = LF then F else MF j)) := hid ⟨(E181.out.set 0 _).set 1 _, (E182.out.set E181.out (by decide) _).set (E181.out.set 0 _) (by decide) _⟩
                          have TF : Hid (Below wi.heap.size wi ((V179.setCell ⟨ec, 0, none⟩ (.int .i64 (CF + su))).setCell ⟨ec, 1, none⟩ (.slice a9 (LF + 1) p9)) ∧ wi.heap.size ≤ ec) := hid ⟨(T180.out.setCell (by show _ ≤ ec; exact G167.out) _).setCell (by show _ ≤ ec; exact G167.out) _, G167.out⟩
                          refine wpAnyH_ready (rs := [20]) (by kernel_rfl) (by simp) ?_
                          refine AllReadyH.cons (o := { dst := none, op := Go.Op.store 120 (Go.Operand.tmp 9) (Go.Operand.tmp 63), type := 0, pos := "l18_plan.go:101", after := #[{ on := 19, ground := Go.Ground.data }, { on := 18, ground := Go.Ground.data }, { on := 17, ground := Go.Ground.chain }, { on := 0, ground := Go.Ground.phase }, { on := 1, ground := Go.Ground.phase }, { on := 2, ground := Go.Ground.phase }, { on := 3, ground := Go.Ground.phase }, { on := 4, ground := Go.Ground.phase }, { on := 5, ground := Go.Ground.phase }, { on := 6, ground := Go.Ground.phase }, { on := 7, ground := Go.Ground.phase }, { on := 8, ground := Go.Ground.phase }, { on := 9, ground := Go.Ground.phase }, { on := 10, ground := Go.Ground.phase }, { on := 11, ground := Go.Ground.phase }, { on := 12, ground := Go.Ground.phase }, { on := 13, ground := Go.Ground.phase }, { on := 14, ground := Go.Ground.phase }, { on := 15, ground := Go.Ground.phase }, { on := 16, ground := Go.Ground.phase }, { on := 17, ground := Go.Ground.phase }, { on := 18, ground := Go.Ground.phase }, { on := 19, ground := Go.Ground.phase }], guard := none }) rfl (fun K hK => ?_) (AllReadyH.nil)
                          go_simp
                          refine hK.out _ _ (by exact SX.out _ TF.out.1) (fun hHeld => ?_)
                          clear hK K y0 y1 f0 f1
                          try simp only [Act.put, List.setIfInBounds_toArray, List.set_cons_zero, List.set_cons_succ]
                          refine wpAnyH_done (by kernel_rfl) ?_ _
                          refine NoPanic.normal ?_
                          clear hHeld
                          go_wp2_with fail
                          go_meet
                          exact ⟨ec, a9, p9, rfl, TF.out.2, TF.out.1, hE.out.1, hE.out.2⟩
                · go_simp
                  have T184 := hid (TD.out.alloc TD.out.size (.cells #[.int .i64 0, .slice none 0 0] 120 (0, 0)))
                  have bb : Below VD.heap.size VD (VD.alloc (.cells #[.int .i64 0, .slice none 0 0] 120 (0, 0))) := (Below.refl _ _).alloc (Nat.le_refl _) _
                  have E185 : Hid (CB (VD.alloc (.cells #[.int .i64 0, .slice none 0 0] 120 (0, 0))) VD.heap.size #[.int .i64 0, .slice none 0 0] 120) := hid (CB.new _ _)
                  have G186 : Hid (wi.heap.size ≤ VD.heap.size) := hid TD.out.size
                  clear bb
                  refine hK.out _ _ (by exact SX.out _ T184.out) (fun hHeld => ?_)
                  clear hK K
                  try simp only [Act.put, List.setIfInBounds_toArray, List.set_cons_zero, List.set_cons_succ]
                  generalize (VD.alloc (.cells #[.int .i64 0, .slice none 0 0] 120 (0, 0))) = V183 at T184 E185 ⊢
                  generalize VD.heap.size = ec at T184 E185 G186 ⊢
                  refine wpAnyH_ready (rs := [8, 16]) (by kernel_rfl) (by simp) ?_
                  refine AllReadyH.cons (o := { dst := some 53, op := Go.Op.buildSlice 24 0 #[], type := 24, pos := "l18_plan.go:101", after := #[], guard := none }) rfl (fun K hK => ?_) (AllReadyH.cons (o := { dst := some 61, op := Go.Op.buildSlice 24 1 #[(0, Go.Operand.tmp 60)], type := 24, pos := "l18_plan.go:101", after := #[{ on := 15, ground := Go.Ground.data }], guard := none }) rfl (fun K hK => ?_) (AllReadyH.nil))
                  · go_simp
                    have T188 := hid (T184.out.alloc T184.out.size (.cells #[] 3 (0, 0)))
                    have bb : Below V183.heap.size V183 (V183.alloc (.cells #[] 3 (0, 0))) := (Below.refl _ _).alloc (Nat.le_refl _) _
                    have E189 : Hid ((V183.alloc (.cells #[] 3 (0, 0))).ownsRow wi.heap.size 3 1 (.slice (some ⟨V183.heap.size, 0, none⟩) 0 0) 0 []) := hid (madeI (CB.new _ _) T184.out.size)
                    have E190 := hid (E185.out.below bb E185.out.lt)
                    clear bb
                    refine hK.out _ _ (by exact SX.out _ T188.out) (fun hHeld => ?_)
                    clear hK K
                    try simp only [Act.put, List.setIfInBounds_toArray, List.set_cons_zero, List.set_cons_succ]
                    generalize (V183.alloc (.cells #[] 3 (0, 0))) = V187 at T188 E189 E190 ⊢
                    generalize V183.heap.size = ea at T188 E189 E190 ⊢
                    refine wpAnyH_ready (rs := [14, 16]) (by kernel_rfl) (by simp) ?_
                    refine AllReadyH.cons (o := { dst := some 59, op := Go.Op.call { callee := Go.Callee.builtin Go.Builtin.append, args := #[Go.Operand.tmp 53, Go.Operand.tmp 58], argTypes := #[24, 24] }, type := 24, pos := "l18_plan.go:101", after := #[{ on := 8, ground := Go.Ground.data }, { on := 13, ground := Go.Ground.data }], guard := none }) rfl (fun K hK => ?_) (AllReadyH.cons (o := { dst := some 61, op := Go.Op.buildSlice 24 1 #[(0, Go.Operand.tmp 60)], type := 24, pos := "l18_plan.go:101", after := #[{ on := 15, ground := Go.Ground.data }], guard := none }) rfl (fun K hK => ?_) (AllReadyH.nil))
                    · rw [if_pos (by rfl)]
                      refine oper_marks (Operand.tmp 53) (Operand.tmp 58) 24 rfl wi.heap.size i0 Try.underlying24 hi hz0 hz1 hz2 (.slice (some ⟨ea, 0, none⟩) 0 0) rfl E189.out rfl (HMF.out.1.below T188.out) HMF.out.2 T188.out.size ?_
                      intro v7 V191 hown hgr
                      have T192 := hid (bel_grownO T188.out (Nat.le_refl _) E189.out (Nat.le_refl _) hgr)
                      have E193 := hid hown
                      have E194 := hid (cb_grown3 E190.out (by decide) E189.out hgr)
                      clear hown hgr
                      refine hK.out _ _ (by exact SX.out _ T192.out) (fun hHeld => ?_)
                      clear hK K
                      try simp only [Act.put, List.setIfInBounds_toArray, List.set_cons_zero, List.set_cons_succ]
                      refine wpAnyH_ready (rs := [16]) (by kernel_rfl) (by simp) ?_
                      refine AllReadyH.cons (o := { dst := some 61, op := Go.Op.buildSlice 24 1 #[(0, Go.Operand.tmp 60)], type := 24, pos := "l18_plan.go:101", after := #[{ on := 15, ground := Go.Ground.data }], guard := none }) rfl (fun K hK => ?_) (AllReadyH.nil)
                      · go_simp
                        have T196 := hid (T192.out.alloc T192.out.size (.cells #[.int .i64 (F : Int)] 3 (0, 0)))
                        have bb : Below V191.heap.size V191 (V191.alloc (.cells #[.int .i64 (F : Int)] 3 (0, 0))) := (Below.refl _ _).alloc (Nat.le_refl _) _
                        have E197 : Hid (CB (V191.alloc (.cells #[.int .i64 (F : Int)] 3 (0, 0))) V191.heap.size #[.int .i64 (F : Int)] 3) := hid (CB.new _ _)
                        have E198 := hid (ownsRow_below E193.out bb)
                        have E199 := hid (E194.out.below bb E194.out.lt)
                        clear bb
                        refine hK.out _ _ (by exact SX.out _ T196.out) (fun hHeld => ?_)
                        clear hK K
                        try simp only [Act.put, List.setIfInBounds_toArray, List.set_cons_zero, List.set_cons_succ]
                        generalize (V191.alloc (.cells #[.int .i64 (F : Int)] 3 (0, 0))) = V195 at T196 E197 E198 E199 ⊢
                        generalize V191.heap.size = eb at T196 E197 E198 E199 ⊢
                        refine wpAnyH_ready (rs := [17]) (by kernel_rfl) (by simp) ?_
                        refine AllReadyH.cons (o := { dst := some 62, op := Go.Op.call { callee := Go.Callee.builtin Go.Builtin.append, args := #[Go.Operand.tmp 59, Go.Operand.tmp 61], argTypes := #[24, 24] }, type := 24, pos := "l18_plan.go:101", after := #[{ on := 14, ground := Go.Ground.data }, { on := 16, ground := Go.Ground.data }, { on := 14, ground := Go.Ground.chain }], guard := none }) rfl (fun K hK => ?_) (AllReadyH.nil)
                        · rw [if_pos (by rfl)]
                          refine oper_app (Operand.tmp 59) (Operand.tmp 61) 24 rfl wi.heap.size 3 i0 (.int .i64 0) 1 8 Try.underlying24 hi hz0 hz1 hz2 rfl (by decide) v7 LF (intR (fun j => (MF j : Int)) LF) rfl E198.out ⟨eb, 0, none⟩ 1 1 [.int .i64 (F : Int)] rfl rfl (cb_srcM E197.out) (fun u hu => by simp at hu; subst hu; rfl) (by have := HMF.out.2; unfold maxLen; omega) (by have := HMF.out.2; omega) T196.out.size ?_
                          intro v8 V200 hown hgr
                          have T201 := hid (bel_grownO T196.out (Nat.le_refl _) E198.out (Nat.le_refl _) hgr)
                          have E202 := hid (cb_grown3 E199.out (by decide) E198.out hgr)
                          obtain ⟨a9, p9, rfl, hm9⟩ := MkR.of (mk := fun j => if j = LF then F else MF j) hown (marks_add MF LF F)
                          have E203 := hid hm9
                          clear hown hgr hm9
                          refine hK.out _ _ (by exact SX.out _ T201.out) (fun hHeld => ?_)
                          clear hK K
                          try simp only [Act.put, List.setIfInBounds_toArray, List.set_cons_zero, List.set_cons_succ]
                          refine wpAnyH_take (i := 18) (oi := { dst := some 63, op := Go.Op.build 120 #[(0, Go.Operand.tmp 52), (1, Go.Operand.tmp 62)], type := 120, pos := "l18_plan.go:101", after := #[{ on := 7, ground := Go.Ground.data }, { on := 17, ground := Go.Ground.data }], guard := none }) (v := ?_) rfl (by kernel_rfl) (by kernel_rfl) (by kernel_rfl) (fun _ _ _ h => h) (Or.inl ⟨by rfl, ?_⟩) (by assumption) ?_
                          rotate_left
                          · (intro w hSw; (try dsimp only at hSw); go_simp <;> try with_reducible rfl)
                          try simp only [Act.put, List.setIfInBounds_toArray, List.set_cons_zero, List.set_cons_succ]
                          have y0 : V200.cell? ⟨ec, 0, none⟩ = some (.int .i64 0) := (E202.out.cell 0).trans rfl
                          have y1 : V200.cell? ⟨ec, 1, none⟩ = some (.slice none 0 0) := (E202.out.cell 1).trans rfl
                          have f0 := E202.out.fr 0
                          have f1 := E202.out.fr 1
                          have hE : Hid (CB ((V200.setCell ⟨ec, 0, none⟩ (.int .i64 (CF + su))).setCell ⟨ec, 1, none⟩ (.slice a9 (LF + 1) p9)) ec #[.int .i64 (CF + su), .slice a9 (LF + 1) p9] 120 ∧ MkR ((V200.setCell ⟨ec, 0, none⟩ (.int .i64 (CF + su))).setCell ⟨ec, 1, none⟩ (.slice a9 (LF + 1) p9)) wi.heap.size a9 (LF + 1) p9 (fun j => if j = LF then F else MF j)) := hid ⟨(E202.out.set 0 _).set 1 _, (E203.out.set E202.out (by decide) _).set (E202.out.set 0 _) (by decide) _⟩
                          have TF : Hid (Below wi.heap.size wi ((V200.setCell ⟨ec, 0, none⟩ (.int .i64 (CF + su))).setCell ⟨ec, 1, none⟩ (.slice a9 (LF + 1) p9)) ∧ wi.heap.size ≤ ec) := hid ⟨(T201.out.setCell (by show _ ≤ ec; exact G186.out) _).setCell (by show _ ≤ ec; exact G186.out) _, G186.out⟩
                          refine wpAnyH_ready (rs := [20]) (by kernel_rfl) (by simp) ?_
                          refine AllReadyH.cons (o := { dst := none, op := Go.Op.store 120 (Go.Operand.tmp 9) (Go.Operand.tmp 63), type := 0, pos := "l18_plan.go:101", after := #[{ on := 19, ground := Go.Ground.data }, { on := 18, ground := Go.Ground.data }, { on := 17, ground := Go.Ground.chain }, { on := 0, ground := Go.Ground.phase }, { on := 1, ground := Go.Ground.phase }, { on := 2, ground := Go.Ground.phase }, { on := 3, ground := Go.Ground.phase }, { on := 4, ground := Go.Ground.phase }, { on := 5, ground := Go.Ground.phase }, { on := 6, ground := Go.Ground.phase }, { on := 7, ground := Go.Ground.phase }, { on := 8, ground := Go.Ground.phase }, { on := 9, ground := Go.Ground.phase }, { on := 10, ground := Go.Ground.phase }, { on := 11, ground := Go.Ground.phase }, { on := 12, ground := Go.Ground.phase }, { on := 13, ground := Go.Ground.phase }, { on := 14, ground := Go.Ground.phase }, { on := 15, ground := Go.Ground.phase }, { on := 16, ground := Go.Ground.phase }, { on := 17, ground := Go.Ground.phase }, { on := 18, ground := Go.Ground.phase }, { on := 19, ground := Go.Ground.phase }], guard := none }) rfl (fun K hK => ?_) (AllReadyH.nil)
                          go_simp
                          refine hK.out _ _ (by exact SX.out _ TF.out.1) (fun hHeld => ?_)
                          clear hK K y0 y1 f0 f1
                          try simp only [Act.put, List.setIfInBounds_toArray, List.set_cons_zero, List.set_cons_succ]
                          refine wpAnyH_done (by kernel_rfl) ?_ _
                          refine NoPanic.normal ?_
                          clear hHeld
                          go_wp2_with fail
                          go_meet
                          exact ⟨ec, a9, p9, rfl, TF.out.2, TF.out.1, hE.out.1, hE.out.2⟩
                    · go_simp
                      have T205 := hid (T188.out.alloc T188.out.size (.cells #[.int .i64 (F : Int)] 3 (0, 0)))
                      have bb : Below V187.heap.size V187 (V187.alloc (.cells #[.int .i64 (F : Int)] 3 (0, 0))) := (Below.refl _ _).alloc (Nat.le_refl _) _
                      have E206 : Hid (CB (V187.alloc (.cells #[.int .i64 (F : Int)] 3 (0, 0))) V187.heap.size #[.int .i64 (F : Int)] 3) := hid (CB.new _ _)
                      have E207 := hid (ownsRow_below E189.out bb)
                      have E208 := hid (E190.out.below bb E190.out.lt)
                      have N209 : Hid (ea ≠ V187.heap.size) := hid (by have := madeI_cb E189.out; omega)
                      clear bb
                      refine hK.out _ _ (by exact SX.out _ T205.out) (fun hHeld => ?_)
                      clear hK K
                      try simp only [Act.put, List.setIfInBounds_toArray, List.set_cons_zero, List.set_cons_succ]
                      generalize (V187.alloc (.cells #[.int .i64 (F : Int)] 3 (0, 0))) = V204 at T205 E206 E207 E208 ⊢
                      generalize V187.heap.size = eb at T205 E206 E207 E208 N209 ⊢
                      refine wpAnyH_ready (rs := [14]) (by kernel_rfl) (by simp) ?_
                      refine AllReadyH.cons (o := { dst := some 59, op := Go.Op.call { callee := Go.Callee.builtin Go.Builtin.append, args := #[Go.Operand.tmp 53, Go.Operand.tmp 58], argTypes := #[24, 24] }, type := 24, pos := "l18_plan.go:101", after := #[{ on := 8, ground := Go.Ground.data }, { on := 13, ground := Go.Ground.data }], guard := none }) rfl (fun K hK => ?_) (AllReadyH.nil)
                      · rw [if_pos (by rfl)]
                        refine oper_marks (Operand.tmp 53) (Operand.tmp 58) 24 rfl wi.heap.size i0 Try.underlying24 hi hz0 hz1 hz2 (.slice (some ⟨ea, 0, none⟩) 0 0) rfl E207.out rfl (HMF.out.1.below T205.out) HMF.out.2 T205.out.size ?_
                        intro v7 V210 hown hgr
                        have T211 := hid (bel_grownO T205.out (Nat.le_refl _) E207.out (Nat.le_refl _) hgr)
                        have E212 := hid hown
                        have E213 := hid (E206.out.keep (hgr.block eb E206.out.lt (fun q => N209.out (by simpa [Value.ownBlock] using q.symm))))
                        have E214 := hid (cb_grown3 E208.out (by decide) E207.out hgr)
                        clear hown hgr
                        refine hK.out _ _ (by exact SX.out _ T211.out) (fun hHeld => ?_)
                        clear hK K
                        try simp only [Act.put, List.setIfInBounds_toArray, List.set_cons_zero, List.set_cons_succ]
                        refine wpAnyH_ready (rs := [17]) (by kernel_rfl) (by simp) ?_
                        refine AllReadyH.cons (o := { dst := some 62, op := Go.Op.call { callee := Go.Callee.builtin Go.Builtin.append, args := #[Go.Operand.tmp 59, Go.Operand.tmp 61], argTypes := #[24, 24] }, type := 24, pos := "l18_plan.go:101", after := #[{ on := 14, ground := Go.Ground.data }, { on := 16, ground := Go.Ground.data }, { on := 14, ground := Go.Ground.chain }], guard := none }) rfl (fun K hK => ?_) (AllReadyH.nil)
                        · rw [if_pos (by rfl)]
                          refine oper_app (Operand.tmp 59) (Operand.tmp 61) 24 rfl wi.heap.size 3 i0 (.int .i64 0) 1 8 Try.underlying24 hi hz0 hz1 hz2 rfl (by decide) v7 LF (intR (fun j => (MF j : Int)) LF) rfl E212.out ⟨eb, 0, none⟩ 1 1 [.int .i64 (F : Int)] rfl rfl (cb_srcM E213.out) (fun u hu => by simp at hu; subst hu; rfl) (by have := HMF.out.2; unfold maxLen; omega) (by have := HMF.out.2; omega) T211.out.size ?_
                          intro v8 V215 hown hgr
                          have T216 := hid (bel_grownO T211.out (Nat.le_refl _) E212.out (Nat.le_refl _) hgr)
                          have E217 := hid (cb_grown3 E214.out (by decide) E212.out hgr)
                          obtain ⟨a9, p9, rfl, hm9⟩ := MkR.of (mk := fun j => if j = LF then F else MF j) hown (marks_add MF LF F)
                          have E218 := hid hm9
                          clear hown hgr hm9
                          refine hK.out _ _ (by exact SX.out _ T216.out) (fun hHeld => ?_)
                          clear hK K
                          try simp only [Act.put, List.setIfInBounds_toArray, List.set_cons_zero, List.set_cons_succ]
                          refine wpAnyH_take (i := 18) (oi := { dst := some 63, op := Go.Op.build 120 #[(0, Go.Operand.tmp 52), (1, Go.Operand.tmp 62)], type := 120, pos := "l18_plan.go:101", after := #[{ on := 7, ground := Go.Ground.data }, { on := 17, ground := Go.Ground.data }], guard := none }) (v := ?_) rfl (by kernel_rfl) (by kernel_rfl) (by kernel_rfl) (fun _ _ _ h => h) (Or.inl ⟨by rfl, ?_⟩) (by assumption) ?_
                          rotate_left
                          · (intro w hSw; (try dsimp only at hSw); go_simp <;> try with_reducible rfl)
                          try simp only [Act.put, List.setIfInBounds_toArray, List.set_cons_zero, List.set_cons_succ]
                          have y0 : V215.cell? ⟨ec, 0, none⟩ = some (.int .i64 0) := (E217.out.cell 0).trans rfl
                          have y1 : V215.cell? ⟨ec, 1, none⟩ = some (.slice none 0 0) := (E217.out.cell 1).trans rfl
                          have f0 := E217.out.fr 0
                          have f1 := E217.out.fr 1
                          have hE : Hid (CB ((V215.setCell ⟨ec, 0, none⟩ (.int .i64 (CF + su))).setCell ⟨ec, 1, none⟩ (.slice a9 (LF + 1) p9)) ec #[.int .i64 (CF + su), .slice a9 (LF + 1) p9] 120 ∧ MkR ((V215.setCell ⟨ec, 0, none⟩ (.int .i64 (CF + su))).setCell ⟨ec, 1, none⟩ (.slice a9 (LF + 1) p9)) wi.heap.size a9 (LF + 1) p9 (fun j => if j = LF then F else MF j)) := hid ⟨(E217.out.set 0 _).set 1 _, (E218.out.set E217.out (by decide) _).set (E217.out.set 0 _) (by decide) _⟩
                          have TF : Hid (Below wi.heap.size wi ((V215.setCell ⟨ec, 0, none⟩ (.int .i64 (CF + su))).setCell ⟨ec, 1, none⟩ (.slice a9 (LF + 1) p9)) ∧ wi.heap.size ≤ ec) := hid ⟨(T216.out.setCell (by show _ ≤ ec; exact G186.out) _).setCell (by show _ ≤ ec; exact G186.out) _, G186.out⟩
                          refine wpAnyH_ready (rs := [20]) (by kernel_rfl) (by simp) ?_
                          refine AllReadyH.cons (o := { dst := none, op := Go.Op.store 120 (Go.Operand.tmp 9) (Go.Operand.tmp 63), type := 0, pos := "l18_plan.go:101", after := #[{ on := 19, ground := Go.Ground.data }, { on := 18, ground := Go.Ground.data }, { on := 17, ground := Go.Ground.chain }, { on := 0, ground := Go.Ground.phase }, { on := 1, ground := Go.Ground.phase }, { on := 2, ground := Go.Ground.phase }, { on := 3, ground := Go.Ground.phase }, { on := 4, ground := Go.Ground.phase }, { on := 5, ground := Go.Ground.phase }, { on := 6, ground := Go.Ground.phase }, { on := 7, ground := Go.Ground.phase }, { on := 8, ground := Go.Ground.phase }, { on := 9, ground := Go.Ground.phase }, { on := 10, ground := Go.Ground.phase }, { on := 11, ground := Go.Ground.phase }, { on := 12, ground := Go.Ground.phase }, { on := 13, ground := Go.Ground.phase }, { on := 14, ground := Go.Ground.phase }, { on := 15, ground := Go.Ground.phase }, { on := 16, ground := Go.Ground.phase }, { on := 17, ground := Go.Ground.phase }, { on := 18, ground := Go.Ground.phase }, { on := 19, ground := Go.Ground.phase }], guard := none }) rfl (fun K hK => ?_) (AllReadyH.nil)
                          go_simp
                          refine hK.out _ _ (by exact SX.out _ TF.out.1) (fun hHeld => ?_)
                          clear hK K y0 y1 f0 f1
                          try simp only [Act.put, List.setIfInBounds_toArray, List.set_cons_zero, List.set_cons_succ]
                          refine wpAnyH_done (by kernel_rfl) ?_ _
                          refine NoPanic.normal ?_
                          clear hHeld
                          go_wp2_with fail
                          go_meet
                          exact ⟨ec, a9, p9, rfl, TF.out.2, TF.out.1, hE.out.1, hE.out.2⟩
                  · go_simp
                    have T220 := hid (T184.out.alloc T184.out.size (.cells #[.int .i64 (F : Int)] 3 (0, 0)))
                    have bb : Below V183.heap.size V183 (V183.alloc (.cells #[.int .i64 (F : Int)] 3 (0, 0))) := (Below.refl _ _).alloc (Nat.le_refl _) _
                    have E221 : Hid (CB (V183.alloc (.cells #[.int .i64 (F : Int)] 3 (0, 0))) V183.heap.size #[.int .i64 (F : Int)] 3) := hid (CB.new _ _)
                    have E222 := hid (E185.out.below bb E185.out.lt)
                    clear bb
                    refine hK.out _ _ (by exact SX.out _ T220.out) (fun hHeld => ?_)
                    clear hK K
                    try simp only [Act.put, List.setIfInBounds_toArray, List.set_cons_zero, List.set_cons_succ]
                    generalize (V183.alloc (.cells #[.int .i64 (F : Int)] 3 (0, 0))) = V219 at T220 E221 E222 ⊢
                    generalize V183.heap.size = eb at T220 E221 E222 ⊢
                    refine wpAnyH_ready (rs := [8]) (by kernel_rfl) (by simp) ?_
                    refine AllReadyH.cons (o := { dst := some 53, op := Go.Op.buildSlice 24 0 #[], type := 24, pos := "l18_plan.go:101", after := #[], guard := none }) rfl (fun K hK => ?_) (AllReadyH.nil)
                    · go_simp
                      have T224 := hid (T220.out.alloc T220.out.size (.cells #[] 3 (0, 0)))
                      have bb : Below V219.heap.size V219 (V219.alloc (.cells #[] 3 (0, 0))) := (Below.refl _ _).alloc (Nat.le_refl _) _
                      have E225 : Hid ((V219.alloc (.cells #[] 3 (0, 0))).ownsRow wi.heap.size 3 1 (.slice (some ⟨V219.heap.size, 0, none⟩) 0 0) 0 []) := hid (madeI (CB.new _ _) T220.out.size)
                      have E226 := hid (E221.out.below bb E221.out.lt)
                      have E227 := hid (E222.out.below bb E222.out.lt)
                      have N228 : Hid (V219.heap.size ≠ eb) := hid (by have := E221.out.lt; omega)
                      clear bb
                      refine hK.out _ _ (by exact SX.out _ T224.out) (fun hHeld => ?_)
                      clear hK K
                      try simp only [Act.put, List.setIfInBounds_toArray, List.set_cons_zero, List.set_cons_succ]
                      generalize (V219.alloc (.cells #[] 3 (0, 0))) = V223 at T224 E225 E226 E227 ⊢
                      generalize V219.heap.size = ea at T224 E225 E226 E227 N228 ⊢
                      refine wpAnyH_ready (rs := [14]) (by kernel_rfl) (by simp) ?_
                      refine AllReadyH.cons (o := { dst := some 59, op := Go.Op.call { callee := Go.Callee.builtin Go.Builtin.append, args := #[Go.Operand.tmp 53, Go.Operand.tmp 58], argTypes := #[24, 24] }, type := 24, pos := "l18_plan.go:101", after := #[{ on := 8, ground := Go.Ground.data }, { on := 13, ground := Go.Ground.data }], guard := none }) rfl (fun K hK => ?_) (AllReadyH.nil)
                      · rw [if_pos (by rfl)]
                        refine oper_marks (Operand.tmp 53) (Operand.tmp 58) 24 rfl wi.heap.size i0 Try.underlying24 hi hz0 hz1 hz2 (.slice (some ⟨ea, 0, none⟩) 0 0) rfl E225.out rfl (HMF.out.1.below T224.out) HMF.out.2 T224.out.size ?_
                        intro v7 V229 hown hgr
                        have T230 := hid (bel_grownO T224.out (Nat.le_refl _) E225.out (Nat.le_refl _) hgr)
                        have E231 := hid hown
                        have E232 := hid (E226.out.keep (hgr.block eb E226.out.lt (fun q => N228.out (by simpa [Value.ownBlock] using q.symm))))
                        have E233 := hid (cb_grown3 E227.out (by decide) E225.out hgr)
                        clear hown hgr
                        refine hK.out _ _ (by exact SX.out _ T230.out) (fun hHeld => ?_)
                        clear hK K
                        try simp only [Act.put, List.setIfInBounds_toArray, List.set_cons_zero, List.set_cons_succ]
                        refine wpAnyH_ready (rs := [17]) (by kernel_rfl) (by simp) ?_
                        refine AllReadyH.cons (o := { dst := some 62, op := Go.Op.call { callee := Go.Callee.builtin Go.Builtin.append, args := #[Go.Operand.tmp 59, Go.Operand.tmp 61], argTypes := #[24, 24] }, type := 24, pos := "l18_plan.go:101", after := #[{ on := 14, ground := Go.Ground.data }, { on := 16, ground := Go.Ground.data }, { on := 14, ground := Go.Ground.chain }], guard := none }) rfl (fun K hK => ?_) (AllReadyH.nil)
                        · rw [if_pos (by rfl)]
                          refine oper_app (Operand.tmp 59) (Operand.tmp 61) 24 rfl wi.heap.size 3 i0 (.int .i64 0) 1 8 Try.underlying24 hi hz0 hz1 hz2 rfl (by decide) v7 LF (intR (fun j => (MF j : Int)) LF) rfl E231.out ⟨eb, 0, none⟩ 1 1 [.int .i64 (F : Int)] rfl rfl (cb_srcM E232.out) (fun u hu => by simp at hu; subst hu; rfl) (by have := HMF.out.2; unfold maxLen; omega) (by have := HMF.out.2; omega) T230.out.size ?_
                          intro v8 V234 hown hgr
                          have T235 := hid (bel_grownO T230.out (Nat.le_refl _) E231.out (Nat.le_refl _) hgr)
                          have E236 := hid (cb_grown3 E233.out (by decide) E231.out hgr)
                          obtain ⟨a9, p9, rfl, hm9⟩ := MkR.of (mk := fun j => if j = LF then F else MF j) hown (marks_add MF LF F)
                          have E237 := hid hm9
                          clear hown hgr hm9
                          refine hK.out _ _ (by exact SX.out _ T235.out) (fun hHeld => ?_)
                          clear hK K
                          try simp only [Act.put, List.setIfInBounds_toArray, List.set_cons_zero, List.set_cons_succ]
                          refine wpAnyH_take (i := 18) (oi := { dst := some 63, op := Go.Op.build 120 #[(0, Go.Operand.tmp 52), (1, Go.Operand.tmp 62)], type := 120, pos := "l18_plan.go:101", after := #[{ on := 7, ground := Go.Ground.data }, { on := 17, ground := Go.Ground.data }], guard := none }) (v := ?_) rfl (by kernel_rfl) (by kernel_rfl) (by kernel_rfl) (fun _ _ _ h => h) (Or.inl ⟨by rfl, ?_⟩) (by assumption) ?_
                          rotate_left
                          · (intro w hSw; (try dsimp only at hSw); go_simp <;> try with_reducible rfl)
                          try simp only [Act.put, List.setIfInBounds_toArray, List.set_cons_zero, List.set_cons_succ]
                          have y0 : V234.cell? ⟨ec, 0, none⟩ = some (.int .i64 0) := (E236.out.cell 0).trans rfl
                          have y1 : V234.cell? ⟨ec, 1, none⟩ = some (.slice none 0 0) := (E236.out.cell 1).trans rfl
                          have f0 := E236.out.fr 0
                          have f1 := E236.out.fr 1
                          have hE : Hid (CB ((V234.setCell ⟨ec, 0, none⟩ (.int .i64 (CF + su))).setCell ⟨ec, 1, none⟩ (.slice a9 (LF + 1) p9)) ec #[.int .i64 (CF + su), .slice a9 (LF + 1) p9] 120 ∧ MkR ((V234.setCell ⟨ec, 0, none⟩ (.int .i64 (CF + su))).setCell ⟨ec, 1, none⟩ (.slice a9 (LF + 1) p9)) wi.heap.size a9 (LF + 1) p9 (fun j => if j = LF then F else MF j)) := hid ⟨(E236.out.set 0 _).set 1 _, (E237.out.set E236.out (by decide) _).set (E236.out.set 0 _) (by decide) _⟩
                          have TF : Hid (Below wi.heap.size wi ((V234.setCell ⟨ec, 0, none⟩ (.int .i64 (CF + su))).setCell ⟨ec, 1, none⟩ (.slice a9 (LF + 1) p9)) ∧ wi.heap.size ≤ ec) := hid ⟨(T235.out.setCell (by show _ ≤ ec; exact G186.out) _).setCell (by show _ ≤ ec; exact G186.out) _, G186.out⟩
                          refine wpAnyH_ready (rs := [20]) (by kernel_rfl) (by simp) ?_
                          refine AllReadyH.cons (o := { dst := none, op := Go.Op.store 120 (Go.Operand.tmp 9) (Go.Operand.tmp 63), type := 0, pos := "l18_plan.go:101", after := #[{ on := 19, ground := Go.Ground.data }, { on := 18, ground := Go.Ground.data }, { on := 17, ground := Go.Ground.chain }, { on := 0, ground := Go.Ground.phase }, { on := 1, ground := Go.Ground.phase }, { on := 2, ground := Go.Ground.phase }, { on := 3, ground := Go.Ground.phase }, { on := 4, ground := Go.Ground.phase }, { on := 5, ground := Go.Ground.phase }, { on := 6, ground := Go.Ground.phase }, { on := 7, ground := Go.Ground.phase }, { on := 8, ground := Go.Ground.phase }, { on := 9, ground := Go.Ground.phase }, { on := 10, ground := Go.Ground.phase }, { on := 11, ground := Go.Ground.phase }, { on := 12, ground := Go.Ground.phase }, { on := 13, ground := Go.Ground.phase }, { on := 14, ground := Go.Ground.phase }, { on := 15, ground := Go.Ground.phase }, { on := 16, ground := Go.Ground.phase }, { on := 17, ground := Go.Ground.phase }, { on := 18, ground := Go.Ground.phase }, { on := 19, ground := Go.Ground.phase }], guard := none }) rfl (fun K hK => ?_) (AllReadyH.nil)
                          go_simp
                          refine hK.out _ _ (by exact SX.out _ TF.out.1) (fun hHeld => ?_)
                          clear hK K y0 y1 f0 f1
                          try simp only [Act.put, List.setIfInBounds_toArray, List.set_cons_zero, List.set_cons_succ]
                          refine wpAnyH_done (by kernel_rfl) ?_ _
                          refine NoPanic.normal ?_
                          clear hHeld
                          go_wp2_with fail
                          go_meet
                          exact ⟨ec, a9, p9, rfl, TF.out.2, TF.out.1, hE.out.1, hE.out.2⟩
              case rest =>
                obtain ⟨g9, a9, p9, rfl, hg9, hb9, hc9, hm9⟩ := hcut
                obtain ⟨wd, hwd⟩ : ∃ wd, wd = wc := ⟨_, rfl⟩
                subst hwd
                have HIN : Hid (Below wi.heap.size wi wd ∧ CB wd g9 #[.int .i64 (xP su ho m CF F (e + 1) F), .slice a9 (LF + 1) p9] 120 ∧ MkR wd wi.heap.size a9 (LF + 1) p9 (fun j => if j = LF then F else MF j)) := hid ⟨hb9, by rw [xP_0]; exact hc9, hm9⟩
                have HG9 : Hid (wi.heap.size ≤ g9 ∧ wo.heap.size < wi.heap.size ∧ w.heap.size ≤ wo.heap.size) := hid ⟨hg9, HB.out.bt.lt, HA.out.bel.size⟩
                have HXF : Hid (0 ≤ xP su ho m CF F (e + 1) F ∧ xP su ho m CF F (e + 1) F ≤ 100000000000000 + 100000000000 * (F : Int)) := hid (by rw [xP_0]; have := HWF.out; have := HSH.out.1; constructor <;> omega)
                clear hb9 hc9 hm9 hg9 SX hwf1
                go_wp2
                go_loopw [10] (fun u wr => ∃ (t : Nat) (x : Int), F ≤ t ∧ t ≤ e + 1 ∧ u = .int .i64 (t : Int) ∧ 0 ≤ x ∧ x ≤ 100000000000000 + 100000000000 * (t : Int) ∧ Hid (x = xP su ho m CF F (e + 1) t) ∧ Hid (Below wi.heap.size wi wr ∧ CB wr g9 #[.int .i64 x, .slice a9 (LF + 1) p9] 120 ∧ MkR wr wi.heap.size a9 (LF + 1) p9 (fun j => if j = LF then F else MF j))) (fun u _ => e + 1 - (intOf u).toNat)
                case atStart => exact ⟨F, _, Nat.le_refl _, hF, rfl, HXF.out.1, HXF.out.2, hid rfl, HIN⟩
                case round =>
                  clear HIN HXF
                  obtain ⟨t, x, ht1, ht2, rfl, hx0, hx1, HX, HH⟩ := hrel
                  obtain ⟨wt, rfl⟩ : ∃ x, x = wr := ⟨wr, rfl⟩
                  have HWT := hid (HB.out.below HH.out.1)
                  have y0 : wt.cell? ⟨g9, 0, none⟩ = some (.int .i64 x) := (HH.out.2.1.cell 0).trans rfl
                  have y1 : wt.cell? ⟨g9, 1, none⟩ = some (.slice a9 (LF + 1) p9) := (HH.out.2.1.cell 1).trans rfl
                  by_cases hte : t < e + 1
                  · have hte2 : (t : Int) < (e : Int) + 1 := by omega
                    have f0 := HH.out.2.1.fr 0
                    have k3 : wt.cell? ⟨w.heap.size, 3, none⟩ = some (.int .i64 ho) := ((HA.out.below HWT.out.b).box.cell 3).trans rfl
                    have HSM : Hid (∀ u v, u = ((t + 1 : Nat) : Int) → v = ((e + 1 : Nat) : Int) → ∀ W, W.heap = wt.heap → Calls Try.prog 83 #[.slice (some ⟨kb, off, none⟩) n cap, .int .i64 u, .int .i64 v] W fun e' w' => e' = .returned (.int .i64 (smQ m (e + 1) - smQ m (t + 1))) ∧ w' = W) := hid (fun u v hu hv W hW => by
                      have hiw : IR W (some ⟨kb, off, none⟩) n m := by
                        have := HR.out.below (bel_on HA.out.bel HWT.out.b)
                        unfold IR World.cell? at this ⊢
                        rw [hW]; exact this
                      have := l18Sum_eq (some ⟨kb, off, none⟩) n cap m (t + 1) (e + 1) u v hu hv W (by omega) (by omega) (smB_q hn40 HQ.out) hiw
                      rwa [rsV_in m (by omega) (by omega)] at this)
                    have d1 := smq_mono (z := m) (k := t + 1) (e + 1) (by omega) (fun j hj => (HQ.out j (by omega)).1)
                    have d2 := smq_bd (z := m) (M := 1000000) (e + 1) (fun j hj => HQ.out j (by omega))
                    have d3 := smq_bd (z := m) (M := 1000000) (t + 1) (fun j hj => HQ.out j (by omega))
                    have HXS := hid (xP_s su ho m CF (F := F) (E := e + 1) (t := t) ht1)
                    obtain ⟨D, hD⟩ : ∃ D, smQ m (e + 1) - smQ m (t + 1) = D := ⟨_, rfl⟩
                    have hD0 : 0 ≤ D ∧ D ≤ 41000000 := by omega
                    rw [hD] at HSM HXS
                    have hP := IntWalk.i64_in (ho * D) (by
                      have h1 := Int.mul_nonneg HSH.out.2.1 hD0.1
                      have h2 := Int.mul_le_mul HSH.out.2.2 hD0.2 hD0.1 (by decide : (0 : Int) ≤ 1000)
                      constructor <;> omega)
                    have hP0 := Int.mul_nonneg HSH.out.2.1 hD0.1
                    have hP1 : ho * D ≤ 41000000000 := by
                      have h2 := Int.mul_le_mul HSH.out.2.2 hD0.2 hD0.1 (by decide : (0 : Int) ≤ 1000)
                      omega
                    obtain ⟨P, hPe⟩ : ∃ P, ho * D = P := ⟨_, rfl⟩
                    have HPE := hid hPe
                    rw [hPe] at hP hP0 hP1
                    have hPw : IntKind.i64.wrap (ho * D) = P := by rw [hPe]; exact hP
                    have hxw : IntKind.i64.wrap (x + P) = x + P := IntWalk.i64_in _ ⟨by omega, by omega⟩
                    have hwt : IntKind.i64.wrap ((t : Int) + 1) = (t : Int) + 1 := IntWalk.i64_in _ ⟨by omega, by omega⟩
                    have HW1 := hid hwt
                    have HXN : Hid (x + P = xP su ho m CF F (e + 1) (t + 1)) := hid (by rw [HXS.out, ← HX.out, HPE.out])
                    have HNX : Hid (Below wi.heap.size wi (wt.setCell ⟨g9, 0, none⟩ (.int .i64 (x + P))).drew ∧ CB (wt.setCell ⟨g9, 0, none⟩ (.int .i64 (x + P))).drew g9 #[.int .i64 (x + P), .slice a9 (LF + 1) p9] 120 ∧ MkR (wt.setCell ⟨g9, 0, none⟩ (.int .i64 (x + P))).drew wi.heap.size a9 (LF + 1) p9 (fun j => if j = LF then F else MF j)) := hid ⟨(HH.out.1.setCell HG9.out.1 _).drew, HH.out.2.1.set 0 _, HH.out.2.2.set HH.out.2.1 (by decide) _⟩
                    clear hD d1 d2 d3 hPe hP
                    go_wp2_with fail
                    go_region_with (go_at_call 83; go_loud (refine (HSM.out ((t : Int) + 1) ((e : Int) + 1) (by omega) (by omega) wt.drew rfl).mono ?_; rintro e' w5 ⟨rfl, ew⟩; replace ew := ew.symm; subst ew))
                    all_goals go_wp2
                    all_goals go_roundw
                    all_goals first
                      | exact ⟨t + 1, x + P, by omega, by omega, by go_num, by omega, by omega, HXN, HNX⟩
                      | (simp [intOf]; done)
                      | (simp [intOf]; omega)
                  · obtain rfl : t = e + 1 := by omega
                    have lkt : ¬ (e : Int) + 1 < (e : Int) + 1 := by omega
                    have HXE : Hid (x = (wT su ho m F F).1 + su + ho * kF m F (e + 1)) := hid (by rw [HX.out, xP_e, HCE.out])
                    have hst := best_step (S := su) (H := ho) (m := m) (F := F) (e := e + 1) (l := lb) (lF := LF) (c := c) (mk := mb) (mF := MF) HZ2.out hFe (wT_bd hn40 HSH.out.1 HSH.out.2 HQ.out F (e + 1) (by omega) (by omega)).1 (wT_bd hn40 HSH.out.1 HSH.out.2 HQ.out (e + 1) (e + 1) (by omega) (by omega)).1 HB.out.bs HCF.out
                    rw [← HXE.out] at hst
                    have HLE : Hid (lb ≤ 40) := hid (by have := HB.out.bs.le; omega)
                    have b0 : wt.cell? ⟨wo.heap.size, 0, none⟩ = some (.int .i64 c) := (HWT.out.bt.cell 0).trans rfl
                    have b1 : wt.cell? ⟨wo.heap.size, 1, none⟩ = some (.slice ab lb pb) := (HWT.out.bt.cell 1).trans rfl
                    have HWW : Hid (WB wo su ho m w.heap.size F (e + 1) c ab lb pb mb wt ∧ MkR wt wi.heap.size a9 (LF + 1) p9 (fun j => if j = LF then F else MF j)) := hid ⟨HWT.out, HH.out.2.2⟩
                    have HC9 : Hid (CB wt g9 #[.int .i64 x, .slice a9 (LF + 1) p9] 120) := hid HH.out.2.1
                    clear HX HXE hx0 hx1
                    rcases hst with ⟨hc, hnew⟩ | ⟨hc, v, hcond, hT, hFF⟩
                    · have hcd : decide (c < 0) = true := decide_eq_true hc
                      have f0 := HWT.out.bt.fr 0
                      have f1 := HWT.out.bt.fr 1
                      have HNB : Hid (WB wo su ho m w.heap.size (F + 1) (e + 1) x a9 (LF + 1) p9 (fun j => if j = LF then F else MF j) ((wt.setCell ⟨wo.heap.size, 0, none⟩ (.int .i64 x)).setCell ⟨wo.heap.size, 1, none⟩ (.slice a9 (LF + 1) p9))) := hid ⟨(HWW.out.1.b.setCell (Nat.le_refl _) _).setCell (Nat.le_refl _) _, (HWW.out.1.bt.set 0 _).set 1 _, ((HWW.out.2.mono (by have := HG9.out; omega)).set HWW.out.1.bt (by decide) _).set (HWW.out.1.bt.set 0 _) (by decide) _, hnew⟩
                      clear hnew
                      go_wp2
                      go_roundg (gk - 1)
                      case measure => omega
                      case rel => exact ⟨F + 1, _, _, _, _, _, by omega, by omega, by go_num, HNB⟩
                    · have hcd : decide (c < 0) = false := decide_eq_false (by omega)
                      have hcn : ¬ c < 0 := by omega
                      have HLS : Hid (Calls Try.prog 121 #[.agg #[.int .i64 x, .slice a9 (LF + 1) p9], .agg #[.int .i64 c, .slice ab lb pb]] wt fun e' w' => e' = .returned (.bool v) ∧ Below wt.heap.size wt w') := hid (less_any x c a9 ab (LF + 1) lb p9 pb (fun j => if j = LF then F else MF j) mb v wt (by have := HCF.out.le; omega) HLE.out HH.out.2.2.row HWT.out.mr.row hcond)
                      clear hcond
                      cases v
                      · have hnew := hFF rfl
                        have HNW := hid hnew
                        clear hFF hT hnew
                        go_wp2_with (go_at_call 121; refine HLS.out.mono ?_; rintro e' w6 ⟨rfl, b6⟩; have HNB : Hid (WB wo su ho m w.heap.size (F + 1) (e + 1) c ab lb pb mb w6) := hid ⟨(HWW.out.1.below b6).b, (HWW.out.1.below b6).bt, (HWW.out.1.below b6).mr, HNW.out⟩; clear b6)
                        go_roundg (gk - 1)
                        case measure => omega
                        case rel => exact ⟨F + 1, _, _, _, _, _, by omega, by omega, by go_num, HNB⟩
                      · have hnew := hT rfl
                        have HNW := hid hnew
                        clear hFF hT hnew
                        go_wp2_with (go_at_call 121; refine HLS.out.mono ?_; rintro e' w6 ⟨rfl, b6⟩; replace HWW : Hid (WB wo su ho m w.heap.size F (e + 1) c ab lb pb mb w6 ∧ MkR w6 wi.heap.size a9 (LF + 1) p9 (fun j => if j = LF then F else MF j)) := hid ⟨HWW.out.1.below b6, HWW.out.2.below b6⟩; replace HC9 := hid (HC9.out.below b6 HC9.out.lt); have z0 : w6.cell? ⟨g9, 0, none⟩ = some (.int .i64 x) := (HC9.out.cell 0).trans rfl; have z1 : w6.cell? ⟨g9, 1, none⟩ = some (.slice a9 (LF + 1) p9) := (HC9.out.cell 1).trans rfl; have z2 : w6.cell? ⟨wo.heap.size, 0, none⟩ = some (.int .i64 c) := (HWW.out.1.bt.cell 0).trans rfl; have z3 : w6.cell? ⟨wo.heap.size, 1, none⟩ = some (.slice ab lb pb) := (HWW.out.1.bt.cell 1).trans rfl; have f0 := HWW.out.1.bt.fr 0; have f1 := HWW.out.1.bt.fr 1; have hnew := HNW.out; have HNB : Hid (WB wo su ho m w.heap.size (F + 1) (e + 1) x a9 (LF + 1) p9 (fun j => if j = LF then F else MF j) ((w6.setCell ⟨wo.heap.size, 0, none⟩ (.int .i64 x)).setCell ⟨wo.heap.size, 1, none⟩ (.slice a9 (LF + 1) p9))) := hid ⟨(HWW.out.1.b.setCell (Nat.le_refl _) _).setCell (Nat.le_refl _) _, (HWW.out.1.bt.set 0 _).set 1 _, ((HWW.out.2.mono (by have := HG9.out; omega)).set HWW.out.1.bt (by decide) _).set (HWW.out.1.bt.set 0 _) (by decide) _, hnew⟩; clear hnew b6)
                        go_roundg (gk - 1)
                        case measure => omega
                        case rel => exact ⟨F + 1, _, _, _, _, _, by omega, by omega, by go_num, HNB⟩
          · obtain rfl : F = e + 1 := by omega
            have lkk : ¬ (e : Int) + 1 < (e : Int) + 1 := by omega
            have HAi := hid (HA.out.below HB.out.b)
            obtain ⟨hce, hche⟩ := best_end (by omega) HB.out.bs
            have HCE := hid hce
            have HCH := hid hche
            have b0 : wi.cell? ⟨wo.heap.size, 0, none⟩ = some (.int .i64 c) := (HB.out.bt.cell 0).trans rfl
            have b1 : wi.cell? ⟨wo.heap.size, 1, none⟩ = some (.slice ab lb pb) := (HB.out.bt.cell 1).trans rfl
            have hw2 : IntKind.i64.wrap ((e : Int) + 1 + 1) = (e : Int) + 1 + 1 := IntWalk.i64_in _ ⟨by omega, by omega⟩
            clear hce hche HWC
            go_wp2_with (at_builtin; go_loud (refine wpList_append_own_at _ rfl _ _ 121 rfl w.heap.size 120 i1 (.agg #[.int .i64 0, .slice none 0 0]) 2 32 Try.underlying121 hi1 hz10 hz11 hz12 rfl (by decide) (.slice (some ⟨g, 0, none⟩) (e + 1) wc) (e + 1) (wyL (fun j => (wT su ho m j j).1) a l p (e + 1)) rfl (ownsRow_below HAi.out.ws.own ((Below.refl _ _).alloc (Nat.le_refl _) _)) ⟨_, 0, none⟩ 1 1 [.int .i64 c, .slice ab lb pb] rfl rfl (cb_srcM (CB.new _ _)) (fun u hu => by simp at hu; rcases hu with rfl | rfl <;> rfl) (by unfold maxLen; omega) (by omega) (by have := HAi.out.bel.size; simp; omega) ?_; intro v9 w9 hown hgr _ _; have HOA := hid (ownsRow_below HAi.out.ws.own ((Below.refl wi.heap.size wi).alloc (Nat.le_refl _) (.cells #[.int .i64 c, .slice ab lb pb] 120 (0, 0)))); obtain ⟨wa9, wc9, rfl, hws⟩ := HAi.out.ws.grow HCE.out HCH.out HB.out.mr ((Below.refl wi.heap.size wi).alloc (Nat.le_refl _) _) hown hgr; have HNN : Hid (WA w #[.int .i64 ki, .int .i64 sz, .int .i64 su, .int .i64 ho] su ho m wa9 (e + 1 + 1) wc9 (fun j => if j = e + 1 then ab else a j) (fun j => if j = e + 1 then lb else l j) (fun j => if j = e + 1 then pb else p j) (fun j => if j = e + 1 then mb else mk j) w9) := hid ⟨bel_grownO (HAi.out.bel.alloc HAi.out.bel.size _) (Nat.le_refl _) HOA.out (Nat.le_refl _) hgr, cb_grown3 (HAi.out.box.alloc _) (by decide) HOA.out hgr, hws⟩; clear hown hgr hws HOA))
            go_roundw
            case rel => exact ⟨e + 1, _, _, _, _, _, _, by omega, rfl, by go_num, HNN⟩
            case measure => first | (simp [intOf]; done) | (simp [intOf]; omega)
    · obtain rfl : e = n := by omega
      have lkk : ¬ (e : Int) + 1 ≤ (e : Int) := by omega
      obtain ⟨g, hwa, hg1, hg2, hg3, _, hwc⟩ := HA.out.ws.at (j := e) (by omega)
      subst hwa
      obtain ⟨_, q2⟩ := hwc e (by omega)
      have HMN : Hid (MkR wo w.heap.size (a e) (l e) (p e) (mk e) ∧ IsCh su ho m (l e) e (mk e)) := hid (HA.out.ws.mks e (by omega))
      have HBO : Hid (Below w.heap.size w wo) := hid HA.out.bel
      have hee : (e : Int) < (e : Int) + 1 := by omega
      obtain ⟨AN, hAN⟩ : ∃ x, a e = x := ⟨_, rfl⟩
      obtain ⟨LN, hLN⟩ : ∃ x, l e = x := ⟨_, rfl⟩
      obtain ⟨PN, hPN⟩ : ∃ x, p e = x := ⟨_, rfl⟩
      obtain ⟨MN, hMN⟩ : ∃ x, mk e = x := ⟨_, rfl⟩
      rw [hAN, hLN, hPN] at q2
      rw [hAN, hLN, hPN, hMN] at HMN
      have HLN : Hid (LN ≤ e) := hid HMN.out.2.le
      have hLN4 : (LN : Int) ≤ 40 := by have := HLN.out; omega
      have z2 : (wo.alloc (.cells (zeros e) 3)).cell? ⟨g, e * 2 + 1, none⟩ = some (.slice AN LN PN) := (World.cell?_of_block (((Below.refl wo.heap.size wo).alloc (Nat.le_refl _) (.cells (zeros e) 3)).block g hg1)).trans q2
      have HST : Hid (Below wo.heap.size wo (wo.alloc (.cells (zeros e) 3)) ∧ TI (wo.alloc (.cells (zeros e) 3)) wo.heap.size e (fun j => if j < limM LN e MN 0 then orL su ho m e j else 0)) := hid ⟨(Below.refl _ _).alloc (Nat.le_refl _) _, (TI.made wo e).congr (lim_0 HMN.out.2)⟩
      clear hAN hLN hPN hMN hwc q2 HA
      go_wp2
      generalize hWV : wo.alloc (.cells (zeros e) 3) = WV at HST ⊢
      clear hWV z2
      go_loopw [13] (fun u wr => ∃ k : Nat, k ≤ LN ∧ u = .int .i64 (k : Int) ∧ Hid (Below wo.heap.size wo wr ∧ TI wr wo.heap.size e (fun j => if j < limM LN e MN k then orL su ho m e j else 0))) (fun u _ => LN - (intOf u).toNat)
      case atStart => exact ⟨0, Nat.zero_le _, rfl, HST⟩
      case round =>
        clear HST
        obtain ⟨k, hk, rfl, HH⟩ := hrel
        obtain ⟨wt, rfl⟩ : ∃ x, x = wr := ⟨wr, rfl⟩
        by_cases hkl : k < LN
        · have hkl2 : (k : Int) < (LN : Int) := by omega
          have hwk : IntKind.i64.wrap ((k : Int) + 1) = (k : Int) + 1 := IntWalk.i64_in _ ⟨by omega, by omega⟩
          obtain ⟨gm, rfl⟩ : ∃ gm, AN = some ⟨gm, 0, none⟩ := by
            rcases HMN.out.1 with ⟨_, h, _⟩ | ⟨gm, cm, h, _⟩
            · omega
            · exact ⟨gm, h⟩
          have HMC : Hid (∀ j, j < LN → wt.cell? ⟨gm, j, none⟩ = some (.int .i64 (MN j : Int))) := hid (fun j hj => by have := (HMN.out.1.row.below HH.out.1).cell hj; simpa using this)
          have c1 := HMC.out k hkl
          have m1 := HMN.out.2.lt k hkl
          have hm1 : ((MN k : Nat) : Int) < (e : Int) := by omega
          have q1 := HH.out.2.cell (k := MN k) m1.1
          rw [if_neg (by unfold limM; rw [if_pos hkl]; omega)] at q1
          have f1 := HH.out.2.fr (MN k)
          by_cases hk2 : k + 1 < LN
          · have hk3 : (k : Int) + 1 < (LN : Int) := by omega
            have m2 := HMN.out.2.lt (k + 1) hk2
            have m3 := HMN.out.2.asc k (k + 1) (by omega) hk2
            have c2 := HMC.out (k + 1) hk2
            have HOV : Hid (orL su ho m e (MN k) = smQ m (MN (k + 1)) - smQ m (MN k)) := hid (by have := HMN.out.2.at k hkl; unfold nxM at this; rw [if_pos hk2] at this; exact this)
            have HSM : Hid (∀ W, W.heap = wt.heap → Calls Try.prog 83 #[.slice (some ⟨kb, off, none⟩) e cap, .int .i64 (MN k : Int), .int .i64 ((MN (k + 1) : Nat) : Int)] W fun e' w' => e' = .returned (.int .i64 (orL su ho m e (MN k))) ∧ w' = W) := hid (fun W hW => by
              have hiw : IR W (some ⟨kb, off, none⟩) e m := by
                have := HR.out.below (bel_on HBO.out HH.out.1)
                unfold IR World.cell? at this ⊢
                rw [hW]; exact this
              have := l18Sum_eq (some ⟨kb, off, none⟩) e cap m (MN k) (MN (k + 1)) _ _ rfl rfl W (by omega) (by omega) (smB_q hn40 HQ.out) hiw
              rw [rsV_in m (by omega) (by omega), ← HOV.out] at this; exact this)
            obtain ⟨V, hV⟩ : ∃ V, orL su ho m e (MN k) = V := ⟨_, rfl⟩
            have HVV := hid hV
            rw [hV] at HSM
            have HNX : Hid (Below wo.heap.size wo (wt.setCell ⟨wo.heap.size, MN k, none⟩ (.int .i64 V)).drew ∧ TI (wt.setCell ⟨wo.heap.size, MN k, none⟩ (.int .i64 V)).drew wo.heap.size e (fun j => if j < limM LN e MN (k + 1) then orL su ho m e j else 0)) := hid ⟨(HH.out.1.setCell (Nat.le_refl _) _).drew, (HH.out.2.set m1.1 V).congr (lim_s HMN.out.2 hkl HVV.out)⟩
            clear hV HOV
            go_wp2_with fail
            go_region_with (go_at_call 83; go_loud (refine (HSM.out wt.drew rfl).mono ?_; rintro e' w5 ⟨rfl, ew⟩; replace ew := ew.symm; subst ew))
            all_goals go_wp2
            all_goals go_roundw
            all_goals first
              | exact ⟨k + 1, by omega, by go_num, HNX⟩
              | (simp [intOf]; done)
              | (simp [intOf]; omega)
          · have hk3 : ¬ (k : Int) + 1 < (LN : Int) := by omega
            have HOV : Hid (orL su ho m e (MN k) = smQ m (e) - smQ m (MN k)) := hid (by have := HMN.out.2.at k hkl; unfold nxM at this; rw [if_neg hk2] at this; exact this)
            have HSM : Hid (∀ W, W.heap = wt.heap → Calls Try.prog 83 #[.slice (some ⟨kb, off, none⟩) e cap, .int .i64 (MN k : Int), .int .i64 ((e : Nat) : Int)] W fun e' w' => e' = .returned (.int .i64 (orL su ho m e (MN k))) ∧ w' = W) := hid (fun W hW => by
              have hiw : IR W (some ⟨kb, off, none⟩) e m := by
                have := HR.out.below (bel_on HBO.out HH.out.1)
                unfold IR World.cell? at this ⊢
                rw [hW]; exact this
              have := l18Sum_eq (some ⟨kb, off, none⟩) e cap m (MN k) (e) _ _ rfl rfl W (by omega) (by omega) (smB_q hn40 HQ.out) hiw
              rw [rsV_in m (by omega) (by omega), ← HOV.out] at this; exact this)
            obtain ⟨V, hV⟩ : ∃ V, orL su ho m e (MN k) = V := ⟨_, rfl⟩
            have HVV := hid hV
            rw [hV] at HSM
            have HNX : Hid (Below wo.heap.size wo (wt.setCell ⟨wo.heap.size, MN k, none⟩ (.int .i64 V)).drew ∧ TI (wt.setCell ⟨wo.heap.size, MN k, none⟩ (.int .i64 V)).drew wo.heap.size e (fun j => if j < limM LN e MN (k + 1) then orL su ho m e j else 0)) := hid ⟨(HH.out.1.setCell (Nat.le_refl _) _).drew, (HH.out.2.set m1.1 V).congr (lim_s HMN.out.2 hkl HVV.out)⟩
            clear hV HOV
            go_wp2_with fail
            go_region_with (go_at_call 83; go_loud (refine (HSM.out wt.drew rfl).mono ?_; rintro e' w5 ⟨rfl, ew⟩; replace ew := ew.symm; subst ew))
            all_goals go_wp2
            all_goals go_roundw
            all_goals first
              | exact ⟨k + 1, by omega, by go_num, HNX⟩
              | (simp [intOf]; done)
              | (simp [intOf]; omega)
        · obtain rfl : k = LN := by omega
          have lkl : ¬ (k : Int) < (k : Int) := by omega
          have HT : Hid (TI wt wo.heap.size e (orL su ho m e) ∧ Below w.heap.size w wt) := hid ⟨HH.out.2.congr (fun j hj => if_pos (by unfold limM; rw [if_neg (by omega)]; exact hj)), bel_on HBO.out HH.out.1⟩
          go_wp2
          go_returns
          exact ⟨_, _, rfl, HT.out.1.own HBO.out.size, HT.out.2⟩
end Go.Proofs.Ytmbdeafpfdeigaa
