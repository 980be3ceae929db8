/- symMerge. -/
import Derived.Test.YtogolmbgboihdaaZj
namespace Go.Proofs.Ytogolmbgboihdaa.Srt
open Go Go.ChangeShapes Go.WideShapes Go.ChangeAt Go.RowKit
set_option linter.unusedVariables false
set_option linter.unusedSimpArgs false
variable {aj : Option Addr} {jk : Nat} {rule : Int} {jc : Nat → JB}


/-- What a merged run is. -/
def Mg2P (aj : Option Addr) (rule : Int) (jc : Nat → JB) (B N : Nat) (t : TypeId) (a b : Nat) (f : Nat → Int) (w w' : World) : Prop := ∃ g, RP aj rule jc w' B N t g ∧ PermOn a b f g ∧ SortedOn (ltP jc rule) g a b ∧ But B w w'

section
variable {B N a m b md s e : Nat} {t : TypeId} {f g1 g2 : Nat → Int} {w w' w1 w2 : World}
/-- The parted search: s is where it ends. -/
def CutP (jc : Nat → JB) (rule : Int) (a m b md s e : Nat) (f : Nat → Int) : Prop := a ≤ s ∧ s ≤ m ∧ m ≤ e ∧ e ≤ b ∧ s ≤ md ∧ md ≤ e ∧ s + e = md + m ∧ (a < s → e < b → ltP jc rule (f (s - 1)) (f e)) ∧ (s < m → m < e → ltP jc rule (f (e - 1)) (f s))

theorem rot_same_lP (hme : m ≤ e) : rot m m e f = f := by
  funext i; unfold rot
  repeat' split
  all_goals first | omega | rfl | (congr 1; omega)
theorem rot_same_rP (hsm : s ≤ m) : rot s m m f = f := by
  funext i; unfold rot
  repeat' split
  all_goals first | omega | rfl | (congr 1; omega)

/-- Both halves done. -/
theorem sym_finP (ham : a < m) (hmb : m < b) (hmd : a ≤ md ∧ md ≤ b) (C : CutP jc rule a m b md s e f) (x : SortedOn (ltP jc rule) f a m) (y : SortedOn (ltP jc rule) f m b)
    (p1 : PermOn a md (rot s m e f) g1) (s1 : SortedOn (ltP jc rule) g1 a md) (p2 : PermOn md b g1 g2) (s2 : SortedOn (ltP jc rule) g2 md b) : PermOn a b f g2 ∧ SortedOn (ltP jc rule) g2 a b := by
  obtain ⟨c1, c2, c3, c4, c5, c6, c7, c8, c9⟩ := C
  have M := merge_step (lt := ltP jc rule) (fun x y z => ltP_trans) (by omega) (by omega) hmd c7 c1 c2 c3 c4 x y c8 c9
  refine ⟨(((rot_perm (by omega) (by omega)).mono c1 c4).trans (p1.mono (Nat.le_refl _) hmd.2)).trans (p2.mono hmd.1 (Nat.le_refl _)), ?_⟩
  refine sorted_join (m := md) ?_ s2 (cross_perm M.2.2.2.2 p1 p2 hmd.1)
  exact s1.congr (fun i h1 h2 => p2.1 i (by omega))
/-- The first half, and what the second one has to start from. -/
theorem sym_midP (ham : a < m) (hmb : m < b) (hmd : a ≤ md ∧ md ≤ b) (C : CutP jc rule a m b md s e f) (x : SortedOn (ltP jc rule) f a m) (y : SortedOn (ltP jc rule) f m b) :
    SortedOn (ltP jc rule) (rot s m e f) a s ∧ SortedOn (ltP jc rule) (rot s m e f) s md ∧ ∀ g1, PermOn a md (rot s m e f) g1 → SortedOn (ltP jc rule) g1 md e ∧ SortedOn (ltP jc rule) g1 e b := by
  obtain ⟨c1, c2, c3, c4, c5, c6, c7, c8, c9⟩ := C
  have M := merge_step (lt := ltP jc rule) (fun x y z => ltP_trans) (by omega) (by omega) hmd c7 c1 c2 c3 c4 x y c8 c9
  exact ⟨M.1, M.2.1, fun g1 p => ⟨M.2.2.1.congr (fun i h1 h2 => p.1 i (by omega)), M.2.2.2.1.congr (fun i h1 h2 => p.1 i (by omega))⟩⟩
theorem sorted_lP {h : Nat → Int} (q : s = a ∨ s = md) (x : SortedOn (ltP jc rule) h a s) (y : SortedOn (ltP jc rule) h s md) : SortedOn (ltP jc rule) h a md := by
  rcases q with q | q
  · rw [q] at y; exact y
  · rw [q] at x; exact x
theorem cut_permP (C : CutP jc rule a m b md s e f) : PermOn a b f (rot s m e f) := (rot_perm C.2.1 C.2.2.1).mono C.1 C.2.2.2.1
theorem pl_left (C : CutP jc rule a m b md s e f) (D : PLo a m b f) : PLo a s md (rot s m e f) := fun i j h1 h2 h3 h4 => by
  obtain ⟨c1, c2, c3, c4, c5, c6, c7, c8, c9⟩ := C
  unfold rot
  repeat' split
  all_goals first | omega | exact D _ _ (by omega) (by omega) (by omega) (by omega)
theorem pl_right (C : CutP jc rule a m b md s e f) (D : PLo a m b f) (p : PermOn a md (rot s m e f) g1) : PLo md e b g1 := fun i j h1 h2 h3 h4 => by
  obtain ⟨c1, c2, c3, c4, c5, c6, c7, c8, c9⟩ := C
  rw [p.1 i (by omega), p.1 j (by omega)]
  unfold rot
  repeat' split
  all_goals first | omega | exact D _ _ (by omega) (by omega) (by omega) (by omega)
end

theorem rotateP_at (B N cap a m b : Nat) (t : TypeId) (f : Nat → Int) (fv : Value) (w : World) (hN : (N : Int) ≤ 1048576) (ha : (a : Int) < m) (hm : (m : Int) < b) (hb : b ≤ N) (H : RP aj rule jc w B N t f) :
    Calls Try.prog 118 #[.slice (some ⟨B, 0, none⟩) N cap, .int .i64 a, .int .i64 m, .int .i64 b, fv] w fun e w' => e = .returned (.tuple #[]) ∧ RP aj rule jc w' B N t (rot a m b f) ∧ But B w w' :=
  rotateP_any B N cap a m b t f fv w hN (by omega) (by omega) hb H

/-- What symMerge is to keep, for runs of at most d places. -/
def SymOkP (aj : Option Addr) (jk : Nat) (rule : Int) (jc : Nat → JB) (B N cap : Nat) (t : TypeId) (d : Nat) : Prop := ∀ (a m b : Nat) (f : Nat → Int) (w : World), b - a ≤ d → a < m → m < b → b ≤ N → RP aj rule jc w B N t f → PLo a m b f → SortedOn (ltP jc rule) f a m → SortedOn (ltP jc rule) f m b →
    Calls Try.prog 117 #[.slice (some ⟨B, 0, none⟩) N cap, .int .i64 a, .int .i64 m, .int .i64 b, .func (Fn.func 64) #[.agg #[.slice aj N jk, .int .i64 rule]] #[]] w fun e w' => e = .returned (.tuple #[]) ∧ Mg2P aj rule jc B N t a b f w w'

set_option maxRecDepth 20000 in
set_option maxHeartbeats 8000000 in
theorem sym_bigP (B N cap d a m b : Nat) (t : TypeId) (f : Nat → Int) (w : World) (hN : (N : Int) ≤ 1048576) (ih : SymOkP aj jk rule jc B N cap t d) (hd : b - a ≤ d + 1) (ham2 : a + 1 < m) (hmb2 : m + 1 < b) (hb : b ≤ N) (H : RP aj rule jc w B N t f) (D : PLo a m b f) (X : SortedOn (ltP jc rule) f a m) (Y : SortedOn (ltP jc rule) f m b) (hmd : (a + b) / 2 < m) :
    Calls Try.prog 117 #[.slice (some ⟨B, 0, none⟩) N cap, .int .i64 a, .int .i64 m, .int .i64 b, .func (Fn.func 64) #[.agg #[.slice aj N jk, .int .i64 rule]] #[]] w fun e w' => e = .returned (.tuple #[]) ∧ Mg2P aj rule jc B N t a b f w w' := by
  have HR : Hid (RP aj rule jc w B N t f) := H
  have HD : Hid (PLo a m b f) := D
  have HX : Hid (SortedOn (ltP jc rule) f a m) := X
  have HY : Hid (SortedOn (ltP jc rule) f m b) := Y
  have HI : Hid (SymOkP aj jk rule jc B N cap t d) := ih
  have ham : a < m := by omega
  have hmb : m < b := by omega
  obtain ⟨md, hmid⟩ : ∃ md : Nat, (a + b) / 2 = md := ⟨_, rfl⟩
  have hmdb : a ≤ md ∧ md ≤ b := by omega
  have emd : ((a : Int) + (b : Int)) / 2 = (md : Int) := by omega
  obtain ⟨n, hn⟩ : ∃ n : Nat, n = md + m := ⟨_, rfl⟩
  obtain ⟨p, hp⟩ : ∃ p : Nat, p = n - 1 := ⟨_, rfl⟩
  have en : (md : Int) + (m : Int) = (n : Int) := by omega
  have ep : (n : Int) - 1 = (p : Int) := by omega
  have Hn : Hid (n = md + m ∧ 2 * md ≤ a + b ∧ a + b ≤ 2 * md + 1) := ⟨hn, by omega, by omega⟩
  have Hp : Hid (p = n - 1) := hp
  have ia : (a : Int) ≤ 1048576 := by omega
  have im : (m : Int) ≤ 1048576 := by omega
  have ib : (b : Int) ≤ 1048576 := by omega
  have imd : (md : Int) ≤ 1048576 := by omega
  have lamd : (a : Int) < md := by omega
  have lmdb : (md : Int) < b := by omega
  have em0 : ((m : Int) - (a : Int) == 1) = false := by simp; omega
  have em1 : ((b : Int) - (m : Int) == 1) = false := by simp; omega
  have lbm : (md : Int) < m := by omega
  clear H D X Y ih hmid hn hp
  go_enter Try.func117, Try.ntmps117
  go_wp2
  go_loopw [20, 21] (fun u v wr => ∃ s r : Nat, u = .int .i64 (s : Int) ∧ v = .int .i64 (r : Int) ∧ n - b ≤ s ∧ s ≤ r ∧ r ≤ md ∧ Hid ((s = n - b ∨ ¬ ltP jc rule (f (n - s)) (f (s - 1))) ∧ (r = md ∨ ltP jc rule (f (n - 1 - r)) (f r))) ∧ Hid (RP aj rule jc wr B N t f ∧ But B w wr)) (fun u v _ => (intOf v).toNat - (intOf u).toNat)
  case atStart => exact ⟨n - b, md, by congr 1; have := Hn.out; omega, rfl, Nat.le_refl _, by have := Hn.out; omega, Nat.le_refl _, ⟨.inl rfl, .inl rfl⟩, HR.out, But.refl _ _⟩
  case round =>
    obtain ⟨s, r, rfl, rfl, hls, hsr, hrh, HP, HW⟩ := hrel
    by_cases hlt : s < r
    · obtain ⟨c, hc⟩ : ∃ c : Nat, (s + r) / 2 = c := ⟨_, rfl⟩
      have ec : ((s : Int) + (r : Int)) / 2 = (c : Int) := by omega
      have c1 : s ≤ c := by omega
      have c2 : c < r := by omega
      obtain ⟨q, hq⟩ : ∃ q : Nat, q = p - c := ⟨_, rfl⟩
      have hqN : q < N := by have := Hn.out; have := Hp.out; omega
      have eq : (p : Int) - (c : Int) = (q : Int) := by have := Hn.out; have := Hp.out; omega
      have hwr : IntKind.i64.wrap ((p : Int) - (c : Int)) = (q : Int) := by rw [IntWalk.i64_in _ ⟨by omega, by omega⟩]; exact eq
      have Hq : Hid (q = n - 1 - c) := by have := Hn.out; have := Hp.out; show _ = _; omega
      have lcN : (c : Int) < (N : Int) := by have := Hn.out; omega
      have lqN : (q : Int) < (N : Int) := by omega
      have lsr : (s : Int) < (r : Int) := by omega
      have lrN : (r : Int) ≤ (N : Int) := by have := Hn.out; omega
      have cN : c < N := by omega
      clear hc hq eq
      obtain ⟨hR, hB⟩ := HW.out
      obtain ⟨dx1, dx1r⟩ := hR.cell (j := q) hqN
      obtain ⟨dy1, dy1r⟩ := hR.cell (j := c) cN
      obtain ⟨x1, hx⟩ : ∃ x1, f q = x1 := ⟨_, rfl⟩
      obtain ⟨y1, hy⟩ : ∃ y1, f c = y1 := ⟨_, rfl⟩
      rw [hx] at dx1 dx1r
      rw [hy] at dy1 dy1r
      have hRd : RP aj rule jc wr.drew B N t f := hR.drew
      have hBd : But B w wr.drew := hB.drew
      have Hx : Hid (f q = x1) := hx
      have Hy : Hid (f c = y1) := hy
      have HL : Hid (y1 < x1) := hid (by have := HD.out c q (by have := Hn.out; have := Hq.out; omega) (by have := Hn.out; have := Hq.out; omega) (by have := Hn.out; have := Hq.out; omega) (by have := Hn.out; have := Hq.out; omega); rw [hx, hy] at this; exact this)
      clear hx hy hR hB HW
      by_cases hc : ltP jc rule x1 y1
      · obtain ⟨V, hV, HV⟩ : ∃ V, V < 0 ∧ Hid (cvE jc rule x1 y1 = V) := ⟨_, (cm_ltP (a := x1) (b := y1) HL.out).2 hc, rfl⟩
        have dV : decide (V < 0) = true := decide_eq_true hV
        have HP2 : Hid ((s = n - b ∨ ¬ ltP jc rule (f (n - s)) (f (s - 1))) ∧ (c = md ∨ ltP jc rule (f (n - 1 - c)) (f c))) := ⟨HP.out.1, .inr (by rw [← Hq.out, Hx.out, Hy.out]; exact hc)⟩
        clear hc
        go_wp2
        go_region_held3 (fun w' => w'.cell? ⟨B, q, none⟩ = some (.int .i64 x1) ∧ w'.cell? ⟨B, c, none⟩ = some (.int .i64 y1) ∧ RP aj rule jc w' B N t f ∧ But B w w')
          (refine ⟨?_, ?_, ?_, ?_⟩ <;> first | assumption | (simp [*]; done))
          (first | (go_at_call 64; refine (cmp_eq _ _ V (by assumption) (by assumption) (by assumption) HV).mono ?_; rintro e w2 ⟨rfl, b2⟩; have qa0 : w2.cell? ⟨B, q, none⟩ = some (.int .i64 x1) := keep_cell b2 (by simp [*]); have qa1 : w2.cell? ⟨B, c, none⟩ = some (.int .i64 y1) := keep_cell b2 (by simp [*]); have q4 : RP aj rule jc w2 B N t f := rp_on (by assumption) b2; have q5 : But B w w2 := bel_rp (g := f) (N := N) (t := t) (by assumption) (by assumption) b2))
        go_wp2
        go_roundw
        case rel => exact ⟨s, c, rfl, by go_num, hls, c1, by omega, HP2, q4, q5⟩
        case measure => simp [intOf]; omega
      · obtain ⟨V, hV, HV⟩ : ∃ V, 0 ≤ V ∧ Hid (cvE jc rule x1 y1 = V) := ⟨_, by have := mt (cm_ltP (a := x1) (b := y1) HL.out).1 hc; omega, rfl⟩
        have dV : decide (V < 0) = false := decide_eq_false (by omega)
        have HP2 : Hid ((c + 1 = n - b ∨ ¬ ltP jc rule (f (n - (c + 1))) (f (c + 1 - 1))) ∧ (r = md ∨ ltP jc rule (f (n - 1 - r)) (f r))) := ⟨.inr (by rw [show n - (c + 1) = q by have := Hq.out; omega, show c + 1 - 1 = c by omega, Hx.out, Hy.out]; exact hc), HP.out.2⟩
        clear hc
        go_wp2
        go_region_held3 (fun w' => w'.cell? ⟨B, q, none⟩ = some (.int .i64 x1) ∧ w'.cell? ⟨B, c, none⟩ = some (.int .i64 y1) ∧ RP aj rule jc w' B N t f ∧ But B w w')
          (refine ⟨?_, ?_, ?_, ?_⟩ <;> first | assumption | (simp [*]; done))
          (first | (go_at_call 64; refine (cmp_eq _ _ V (by assumption) (by assumption) (by assumption) HV).mono ?_; rintro e w2 ⟨rfl, b2⟩; have qa0 : w2.cell? ⟨B, q, none⟩ = some (.int .i64 x1) := keep_cell b2 (by simp [*]); have qa1 : w2.cell? ⟨B, c, none⟩ = some (.int .i64 y1) := keep_cell b2 (by simp [*]); have q4 : RP aj rule jc w2 B N t f := rp_on (by assumption) b2; have q5 : But B w w2 := bel_rp (g := f) (N := N) (t := t) (by assumption) (by assumption) b2))
        go_wp2
        go_roundw
        case rel => exact ⟨c + 1, r, by go_num, rfl, by omega, by omega, hrh, HP2, q4, q5⟩
        case measure => simp [intOf]; omega
    · obtain rfl : s = r := by omega
      have lss : ¬ (s : Int) < (s : Int) := by omega
      obtain ⟨e, he⟩ : ∃ e : Nat, (e : Int) = (n : Int) - (s : Int) := ⟨n - s, by have := Hn.out; omega⟩
      have ee : (n : Int) - (s : Int) = (e : Int) := he.symm
      have HC : Hid (CutP jc rule a m b md s e f) := by
        have hn := Hn.out
        have c1 := HP.out.1
        have c2 := HP.out.2
        refine ⟨by omega, by omega, by omega, by omega, by omega, by omega, by omega, fun h1 h2 => ?_, fun h1 h2 => ?_⟩
        · rcases c1 with c | c
          · omega
          · rw [show n - s = e by omega] at c; exact ltP_total (by have := HD.out (s - 1) e (by omega) (by omega) (by omega) (by omega); omega) c
        · rcases c2 with c | c
          · omega
          · rw [show n - 1 - s = e - 1 by omega] at c; exact c
      have HM : Hid (SortedOn (ltP jc rule) (rot s m e f) a s ∧ SortedOn (ltP jc rule) (rot s m e f) s md ∧ ∀ g1, PermOn a md (rot s m e f) g1 → SortedOn (ltP jc rule) g1 md e ∧ SortedOn (ltP jc rule) g1 e b) := sym_midP ham hmb hmdb HC.out HX.out HY.out
      have hse : (s : Int) + (e : Int) = (md : Int) + (m : Int) := by have := HC.out.2.2.2.2.2.2.1; omega
      have hsm : (s : Int) ≤ m := by have := HC.out.2.1; omega
      have hme : (m : Int) ≤ e := by have := HC.out.2.2.1; omega
      have heb : (e : Int) ≤ b := by have := HC.out.2.2.2.1; omega
      have has : (a : Int) ≤ s := by have := HC.out.1; omega
      have hsd : (s : Int) ≤ md := by have := HC.out.2.2.2.2.1; omega
      have hde : (md : Int) ≤ e := by have := HC.out.2.2.2.2.2.1; omega
      have tok1 : True := trivial
      clear he HP
      by_cases z1 : (s : Int) < md ∧ (s : Int) < m
      · have z2 : (m : Int) < e := by omega
        have z3 : (md : Int) < e := by omega
        obtain ⟨z4, z5⟩ := z1
        by_cases z6 : (a : Int) < s
        · by_cases z7 : (e : Int) < b
          · go_wp2_with (first
              | (go_at_call 118; refine (rotateP_at B N cap s m e t f _ _ hN (by omega) (by omega) (by have := HC.out.2.2.2.1; omega) HW.out.1).mono ?_; rintro ee w1 ⟨rfl, r1, r2⟩; have HW1 : Hid (RP aj rule jc w1 B N t (rot s m e f) ∧ But B w w1) := ⟨r1, HW.out.2.trans r2⟩; clear r1 r2)
              | (go_at_call 117; clear tok1; refine (HI.out a s md _ _ (by omega) (by omega) (by omega) (by omega) HW1.out.1 (pl_left HC.out HD.out) HM.out.1 HM.out.2.1).mono ?_; rintro ee w2 ⟨rfl, g1, r1, r2, r3, r4⟩; have HW2 : Hid (∃ g1, RP aj rule jc w2 B N t g1 ∧ PermOn a md (rot s m e f) g1 ∧ SortedOn (ltP jc rule) g1 a md ∧ But B w w2) := ⟨g1, r1, r2, r3, HW1.out.2.trans r4⟩; clear r1 r2 r3 r4)
              | (go_at_call 117; obtain ⟨g1, k1, k2, k3, k4⟩ := HW2.out; refine (HI.out md e b g1 _ (by omega) (by omega) (by omega) (by omega) k1 (pl_right HC.out HD.out k2) (HM.out.2.2 g1 k2).1 (HM.out.2.2 g1 k2).2).mono ?_; rintro ee w3 ⟨rfl, g2, r1, r2, r3, r4⟩; have HF : Hid (Mg2P aj rule jc B N t a b f w w3) := ⟨g2, r1, (sym_finP ham hmb hmdb HC.out HX.out HY.out k2 k3 r2 r3).1, (sym_finP ham hmb hmdb HC.out HX.out HY.out k2 k3 r2 r3).2, k4.trans r4⟩; clear r1 r2 r3 r4 k1 k2 k3 k4))
            go_returns
            exact ⟨rfl, HF.out⟩
          · have HQ2 : Hid (e = md ∨ e = b) := .inr (by omega)
            go_wp2_with (first
              | (go_at_call 118; refine (rotateP_at B N cap s m e t f _ _ hN (by omega) (by omega) (by have := HC.out.2.2.2.1; omega) HW.out.1).mono ?_; rintro ee w1 ⟨rfl, r1, r2⟩; have HW1 : Hid (RP aj rule jc w1 B N t (rot s m e f) ∧ But B w w1) := ⟨r1, HW.out.2.trans r2⟩; clear r1 r2)
              | (go_at_call 117; clear tok1; refine (HI.out a s md _ _ (by omega) (by omega) (by omega) (by omega) HW1.out.1 (pl_left HC.out HD.out) HM.out.1 HM.out.2.1).mono ?_; rintro ee w2 ⟨rfl, g1, r1, r2, r3, r4⟩; have HW2 : Hid (∃ g1, RP aj rule jc w2 B N t g1 ∧ PermOn a md (rot s m e f) g1 ∧ SortedOn (ltP jc rule) g1 a md ∧ But B w w2) := ⟨g1, r1, r2, r3, HW1.out.2.trans r4⟩; clear r1 r2 r3 r4; have HF : Hid (Mg2P aj rule jc B N t a b f w w2) := (by obtain ⟨g1, k1, k2, k3, k4⟩ := HW2.out; have z := sym_finP ham hmb hmdb HC.out HX.out HY.out k2 k3 (PermOn.refl _ _ _) (sorted_lP HQ2.out (HM.out.2.2 g1 k2).1 (HM.out.2.2 g1 k2).2); exact ⟨g1, k1, z.1, z.2, k4⟩)))
            go_returns
            exact ⟨rfl, HF.out⟩
        · have HQ : Hid (s = a ∨ s = md) := .inl (by omega)
          by_cases z7 : (e : Int) < b
          · exfalso; have := Hn.out; omega
          · have HQ2 : Hid (e = md ∨ e = b) := .inr (by omega)
            go_wp2_with (first
              | (go_at_call 118; refine (rotateP_at B N cap s m e t f _ _ hN (by omega) (by omega) (by have := HC.out.2.2.2.1; omega) HW.out.1).mono ?_; rintro ee w1 ⟨rfl, r1, r2⟩; have HW1 : Hid (RP aj rule jc w1 B N t (rot s m e f) ∧ But B w w1) := ⟨r1, HW.out.2.trans r2⟩; clear r1 r2; have HW2 : Hid (∃ g1, RP aj rule jc w1 B N t g1 ∧ PermOn a md (rot s m e f) g1 ∧ SortedOn (ltP jc rule) g1 a md ∧ But B w w1) := ⟨_, HW1.out.1, PermOn.refl _ _ _, sorted_lP HQ.out HM.out.1 HM.out.2.1, HW1.out.2⟩; have HF : Hid (Mg2P aj rule jc B N t a b f w w1) := (by obtain ⟨g1, k1, k2, k3, k4⟩ := HW2.out; have z := sym_finP ham hmb hmdb HC.out HX.out HY.out k2 k3 (PermOn.refl _ _ _) (sorted_lP HQ2.out (HM.out.2.2 g1 k2).1 (HM.out.2.2 g1 k2).2); exact ⟨g1, k1, z.1, z.2, k4⟩)))
            go_returns
            exact ⟨rfl, HF.out⟩
      · have z4 : (s : Int) = md := by omega
        have z4n : ¬ (s : Int) < md := by omega
        have z5 : (s : Int) < m := by omega
        have z2 : ¬ (m : Int) < e := by omega
        have z3 : (md : Int) < e := by omega
        have z7 : (e : Int) < b := by omega
        have z6 : decide ((s : Int) < md) = false := decide_eq_false z4n
        have HE : Hid (rot s m e f = f) := by rw [show e = m by omega]; exact rot_same_rP (by omega)
        have HQ : Hid (s = a ∨ s = md) := .inr (by omega)
        clear z1 tok1 z4
        by_cases z8 : (a : Int) < s
        · have HW1 : Hid (RP aj rule jc wr B N t (rot s m e f) ∧ But B w wr) := by rw [HE.out]; exact HW.out
          have HW2 : Hid (∃ g1, RP aj rule jc wr B N t g1 ∧ PermOn a md (rot s m e f) g1 ∧ SortedOn (ltP jc rule) g1 a md ∧ But B w wr) := ⟨_, HW1.out.1, PermOn.refl _ _ _, sorted_lP HQ.out HM.out.1 HM.out.2.1, HW1.out.2⟩
          go_wp2_with (first
            | (go_at_call 117; obtain ⟨g1, k1, k2, k3, k4⟩ := HW2.out; refine (HI.out md e b g1 _ (by omega) (by omega) (by omega) (by omega) k1 (pl_right HC.out HD.out k2) (HM.out.2.2 g1 k2).1 (HM.out.2.2 g1 k2).2).mono ?_; rintro ee w3 ⟨rfl, g2, r1, r2, r3, r4⟩; have HF : Hid (Mg2P aj rule jc B N t a b f w w3) := ⟨g2, r1, (sym_finP ham hmb hmdb HC.out HX.out HY.out k2 k3 r2 r3).1, (sym_finP ham hmb hmdb HC.out HX.out HY.out k2 k3 r2 r3).2, k4.trans r4⟩; clear r1 r2 r3 r4 k1 k2 k3 k4))
          go_returns
          exact ⟨rfl, HF.out⟩
        · have HW1 : Hid (RP aj rule jc wr B N t (rot s m e f) ∧ But B w wr) := by rw [HE.out]; exact HW.out
          have HW2 : Hid (∃ g1, RP aj rule jc wr B N t g1 ∧ PermOn a md (rot s m e f) g1 ∧ SortedOn (ltP jc rule) g1 a md ∧ But B w wr) := ⟨_, HW1.out.1, PermOn.refl _ _ _, sorted_lP HQ.out HM.out.1 HM.out.2.1, HW1.out.2⟩
          go_wp2_with (first
            | (go_at_call 117; obtain ⟨g1, k1, k2, k3, k4⟩ := HW2.out; refine (HI.out md e b g1 _ (by omega) (by omega) (by omega) (by omega) k1 (pl_right HC.out HD.out k2) (HM.out.2.2 g1 k2).1 (HM.out.2.2 g1 k2).2).mono ?_; rintro ee w3 ⟨rfl, g2, r1, r2, r3, r4⟩; have HF : Hid (Mg2P aj rule jc B N t a b f w w3) := ⟨g2, r1, (sym_finP ham hmb hmdb HC.out HX.out HY.out k2 k3 r2 r3).1, (sym_finP ham hmb hmdb HC.out HX.out HY.out k2 k3 r2 r3).2, k4.trans r4⟩; clear r1 r2 r3 r4 k1 k2 k3 k4))
          go_returns
          exact ⟨rfl, HF.out⟩

set_option maxRecDepth 20000 in
set_option maxHeartbeats 8000000 in
theorem sym_smallP (B N cap d a m b : Nat) (t : TypeId) (f : Nat → Int) (w : World) (hN : (N : Int) ≤ 1048576) (ih : SymOkP aj jk rule jc B N cap t d) (hd : b - a ≤ d + 1) (ham2 : a + 1 < m) (hmb2 : m + 1 < b) (hb : b ≤ N) (H : RP aj rule jc w B N t f) (D : PLo a m b f) (X : SortedOn (ltP jc rule) f a m) (Y : SortedOn (ltP jc rule) f m b) (hmd : m ≤ (a + b) / 2) :
    Calls Try.prog 117 #[.slice (some ⟨B, 0, none⟩) N cap, .int .i64 a, .int .i64 m, .int .i64 b, .func (Fn.func 64) #[.agg #[.slice aj N jk, .int .i64 rule]] #[]] w fun e w' => e = .returned (.tuple #[]) ∧ Mg2P aj rule jc B N t a b f w w' := by
  have HR : Hid (RP aj rule jc w B N t f) := H
  have HD : Hid (PLo a m b f) := D
  have HX : Hid (SortedOn (ltP jc rule) f a m) := X
  have HY : Hid (SortedOn (ltP jc rule) f m b) := Y
  have HI : Hid (SymOkP aj jk rule jc B N cap t d) := ih
  have ham : a < m := by omega
  have hmb : m < b := by omega
  obtain ⟨md, hmid⟩ : ∃ md : Nat, (a + b) / 2 = md := ⟨_, rfl⟩
  have hmdb : a ≤ md ∧ md ≤ b := by omega
  have emd : ((a : Int) + (b : Int)) / 2 = (md : Int) := by omega
  obtain ⟨n, hn⟩ : ∃ n : Nat, n = md + m := ⟨_, rfl⟩
  obtain ⟨p, hp⟩ : ∃ p : Nat, p = n - 1 := ⟨_, rfl⟩
  have en : (md : Int) + (m : Int) = (n : Int) := by omega
  have ep : (n : Int) - 1 = (p : Int) := by omega
  have Hn : Hid (n = md + m ∧ 2 * md ≤ a + b ∧ a + b ≤ 2 * md + 1) := ⟨hn, by omega, by omega⟩
  have Hp : Hid (p = n - 1) := hp
  have ia : (a : Int) ≤ 1048576 := by omega
  have im : (m : Int) ≤ 1048576 := by omega
  have ib : (b : Int) ≤ 1048576 := by omega
  have imd : (md : Int) ≤ 1048576 := by omega
  have lamd : (a : Int) < md := by omega
  have lmdb : (md : Int) < b := by omega
  have em0 : ((m : Int) - (a : Int) == 1) = false := by simp; omega
  have em1 : ((b : Int) - (m : Int) == 1) = false := by simp; omega
  have lbm : ¬ (md : Int) < m := by omega
  clear H D X Y ih hmid hn hp
  go_enter Try.func117, Try.ntmps117
  go_wp2
  go_loopw [20, 21] (fun u v wr => ∃ s r : Nat, u = .int .i64 (s : Int) ∧ v = .int .i64 (r : Int) ∧ a ≤ s ∧ s ≤ r ∧ r ≤ m ∧ Hid ((s = a ∨ ¬ ltP jc rule (f (n - s)) (f (s - 1))) ∧ (r = m ∨ ltP jc rule (f (n - 1 - r)) (f r))) ∧ Hid (RP aj rule jc wr B N t f ∧ But B w wr)) (fun u v _ => (intOf v).toNat - (intOf u).toNat)
  case atStart => exact ⟨a, m, rfl, rfl, Nat.le_refl _, by have := Hn.out; omega, Nat.le_refl _, ⟨.inl rfl, .inl rfl⟩, HR.out, But.refl _ _⟩
  case round =>
    obtain ⟨s, r, rfl, rfl, hls, hsr, hrh, HP, HW⟩ := hrel
    by_cases hlt : s < r
    · obtain ⟨c, hc⟩ : ∃ c : Nat, (s + r) / 2 = c := ⟨_, rfl⟩
      have ec : ((s : Int) + (r : Int)) / 2 = (c : Int) := by omega
      have c1 : s ≤ c := by omega
      have c2 : c < r := by omega
      obtain ⟨q, hq⟩ : ∃ q : Nat, q = p - c := ⟨_, rfl⟩
      have hqN : q < N := by have := Hn.out; have := Hp.out; omega
      have eq : (p : Int) - (c : Int) = (q : Int) := by have := Hn.out; have := Hp.out; omega
      have hwr : IntKind.i64.wrap ((p : Int) - (c : Int)) = (q : Int) := by rw [IntWalk.i64_in _ ⟨by omega, by omega⟩]; exact eq
      have Hq : Hid (q = n - 1 - c) := by have := Hn.out; have := Hp.out; show _ = _; omega
      have lcN : (c : Int) < (N : Int) := by have := Hn.out; omega
      have lqN : (q : Int) < (N : Int) := by omega
      have lsr : (s : Int) < (r : Int) := by omega
      have lrN : (r : Int) ≤ (N : Int) := by have := Hn.out; omega
      have cN : c < N := by omega
      clear hc hq eq
      obtain ⟨hR, hB⟩ := HW.out
      obtain ⟨dx1, dx1r⟩ := hR.cell (j := q) hqN
      obtain ⟨dy1, dy1r⟩ := hR.cell (j := c) cN
      obtain ⟨x1, hx⟩ : ∃ x1, f q = x1 := ⟨_, rfl⟩
      obtain ⟨y1, hy⟩ : ∃ y1, f c = y1 := ⟨_, rfl⟩
      rw [hx] at dx1 dx1r
      rw [hy] at dy1 dy1r
      have hRd : RP aj rule jc wr.drew B N t f := hR.drew
      have hBd : But B w wr.drew := hB.drew
      have Hx : Hid (f q = x1) := hx
      have Hy : Hid (f c = y1) := hy
      have HL : Hid (y1 < x1) := hid (by have := HD.out c q (by have := Hn.out; have := Hq.out; omega) (by have := Hn.out; have := Hq.out; omega) (by have := Hn.out; have := Hq.out; omega) (by have := Hn.out; have := Hq.out; omega); rw [hx, hy] at this; exact this)
      clear hx hy hR hB HW
      by_cases hc : ltP jc rule x1 y1
      · obtain ⟨V, hV, HV⟩ : ∃ V, V < 0 ∧ Hid (cvE jc rule x1 y1 = V) := ⟨_, (cm_ltP (a := x1) (b := y1) HL.out).2 hc, rfl⟩
        have dV : decide (V < 0) = true := decide_eq_true hV
        have HP2 : Hid ((s = a ∨ ¬ ltP jc rule (f (n - s)) (f (s - 1))) ∧ (c = m ∨ ltP jc rule (f (n - 1 - c)) (f c))) := ⟨HP.out.1, .inr (by rw [← Hq.out, Hx.out, Hy.out]; exact hc)⟩
        clear hc
        go_wp2
        go_region_held3 (fun w' => w'.cell? ⟨B, q, none⟩ = some (.int .i64 x1) ∧ w'.cell? ⟨B, c, none⟩ = some (.int .i64 y1) ∧ RP aj rule jc w' B N t f ∧ But B w w')
          (refine ⟨?_, ?_, ?_, ?_⟩ <;> first | assumption | (simp [*]; done))
          (first | (go_at_call 64; refine (cmp_eq _ _ V (by assumption) (by assumption) (by assumption) HV).mono ?_; rintro e w2 ⟨rfl, b2⟩; have qa0 : w2.cell? ⟨B, q, none⟩ = some (.int .i64 x1) := keep_cell b2 (by simp [*]); have qa1 : w2.cell? ⟨B, c, none⟩ = some (.int .i64 y1) := keep_cell b2 (by simp [*]); have q4 : RP aj rule jc w2 B N t f := rp_on (by assumption) b2; have q5 : But B w w2 := bel_rp (g := f) (N := N) (t := t) (by assumption) (by assumption) b2))
        go_wp2
        go_roundw
        case rel => exact ⟨s, c, rfl, by go_num, hls, c1, by omega, HP2, q4, q5⟩
        case measure => simp [intOf]; omega
      · obtain ⟨V, hV, HV⟩ : ∃ V, 0 ≤ V ∧ Hid (cvE jc rule x1 y1 = V) := ⟨_, by have := mt (cm_ltP (a := x1) (b := y1) HL.out).1 hc; omega, rfl⟩
        have dV : decide (V < 0) = false := decide_eq_false (by omega)
        have HP2 : Hid ((c + 1 = a ∨ ¬ ltP jc rule (f (n - (c + 1))) (f (c + 1 - 1))) ∧ (r = m ∨ ltP jc rule (f (n - 1 - r)) (f r))) := ⟨.inr (by rw [show n - (c + 1) = q by have := Hq.out; omega, show c + 1 - 1 = c by omega, Hx.out, Hy.out]; exact hc), HP.out.2⟩
        clear hc
        go_wp2
        go_region_held3 (fun w' => w'.cell? ⟨B, q, none⟩ = some (.int .i64 x1) ∧ w'.cell? ⟨B, c, none⟩ = some (.int .i64 y1) ∧ RP aj rule jc w' B N t f ∧ But B w w')
          (refine ⟨?_, ?_, ?_, ?_⟩ <;> first | assumption | (simp [*]; done))
          (first | (go_at_call 64; refine (cmp_eq _ _ V (by assumption) (by assumption) (by assumption) HV).mono ?_; rintro e w2 ⟨rfl, b2⟩; have qa0 : w2.cell? ⟨B, q, none⟩ = some (.int .i64 x1) := keep_cell b2 (by simp [*]); have qa1 : w2.cell? ⟨B, c, none⟩ = some (.int .i64 y1) := keep_cell b2 (by simp [*]); have q4 : RP aj rule jc w2 B N t f := rp_on (by assumption) b2; have q5 : But B w w2 := bel_rp (g := f) (N := N) (t := t) (by assumption) (by assumption) b2))
        go_wp2
        go_roundw
        case rel => exact ⟨c + 1, r, by go_num, rfl, by omega, by omega, hrh, HP2, q4, q5⟩
        case measure => simp [intOf]; omega
    · obtain rfl : s = r := by omega
      have lss : ¬ (s : Int) < (s : Int) := by omega
      obtain ⟨e, he⟩ : ∃ e : Nat, (e : Int) = (n : Int) - (s : Int) := ⟨n - s, by have := Hn.out; omega⟩
      have ee : (n : Int) - (s : Int) = (e : Int) := he.symm
      have HC : Hid (CutP jc rule a m b md s e f) := by
        have hn := Hn.out
        have c1 := HP.out.1
        have c2 := HP.out.2
        refine ⟨by omega, by omega, by omega, by omega, by omega, by omega, by omega, fun h1 h2 => ?_, fun h1 h2 => ?_⟩
        · rcases c1 with c | c
          · omega
          · rw [show n - s = e by omega] at c; exact ltP_total (by have := HD.out (s - 1) e (by omega) (by omega) (by omega) (by omega); omega) c
        · rcases c2 with c | c
          · omega
          · rw [show n - 1 - s = e - 1 by omega] at c; exact c
      have HM : Hid (SortedOn (ltP jc rule) (rot s m e f) a s ∧ SortedOn (ltP jc rule) (rot s m e f) s md ∧ ∀ g1, PermOn a md (rot s m e f) g1 → SortedOn (ltP jc rule) g1 md e ∧ SortedOn (ltP jc rule) g1 e b) := sym_midP ham hmb hmdb HC.out HX.out HY.out
      have hse : (s : Int) + (e : Int) = (md : Int) + (m : Int) := by have := HC.out.2.2.2.2.2.2.1; omega
      have hsm : (s : Int) ≤ m := by have := HC.out.2.1; omega
      have hme : (m : Int) ≤ e := by have := HC.out.2.2.1; omega
      have heb : (e : Int) ≤ b := by have := HC.out.2.2.2.1; omega
      have has : (a : Int) ≤ s := by have := HC.out.1; omega
      have hsd : (s : Int) ≤ md := by have := HC.out.2.2.2.2.1; omega
      have hde : (md : Int) ≤ e := by have := HC.out.2.2.2.2.2.1; omega
      have tok1 : True := trivial
      clear he HP
      by_cases z1 : (s : Int) < md ∧ (s : Int) < m
      · have z2 : (m : Int) < e := by omega
        have z3 : (md : Int) < e := by omega
        obtain ⟨z4, z5⟩ := z1
        by_cases z6 : (a : Int) < s
        · by_cases z7 : (e : Int) < b
          · go_wp2_with (first
              | (go_at_call 118; refine (rotateP_at B N cap s m e t f _ _ hN (by omega) (by omega) (by have := HC.out.2.2.2.1; omega) HW.out.1).mono ?_; rintro ee w1 ⟨rfl, r1, r2⟩; have HW1 : Hid (RP aj rule jc w1 B N t (rot s m e f) ∧ But B w w1) := ⟨r1, HW.out.2.trans r2⟩; clear r1 r2)
              | (go_at_call 117; clear tok1; refine (HI.out a s md _ _ (by omega) (by omega) (by omega) (by omega) HW1.out.1 (pl_left HC.out HD.out) HM.out.1 HM.out.2.1).mono ?_; rintro ee w2 ⟨rfl, g1, r1, r2, r3, r4⟩; have HW2 : Hid (∃ g1, RP aj rule jc w2 B N t g1 ∧ PermOn a md (rot s m e f) g1 ∧ SortedOn (ltP jc rule) g1 a md ∧ But B w w2) := ⟨g1, r1, r2, r3, HW1.out.2.trans r4⟩; clear r1 r2 r3 r4)
              | (go_at_call 117; obtain ⟨g1, k1, k2, k3, k4⟩ := HW2.out; refine (HI.out md e b g1 _ (by omega) (by omega) (by omega) (by omega) k1 (pl_right HC.out HD.out k2) (HM.out.2.2 g1 k2).1 (HM.out.2.2 g1 k2).2).mono ?_; rintro ee w3 ⟨rfl, g2, r1, r2, r3, r4⟩; have HF : Hid (Mg2P aj rule jc B N t a b f w w3) := ⟨g2, r1, (sym_finP ham hmb hmdb HC.out HX.out HY.out k2 k3 r2 r3).1, (sym_finP ham hmb hmdb HC.out HX.out HY.out k2 k3 r2 r3).2, k4.trans r4⟩; clear r1 r2 r3 r4 k1 k2 k3 k4))
            go_returns
            exact ⟨rfl, HF.out⟩
          · exfalso; have := Hn.out; omega
        · have HQ : Hid (s = a ∨ s = md) := .inl (by omega)
          by_cases z7 : (e : Int) < b
          · clear tok1
            go_wp2_with (first
              | (go_at_call 118; refine (rotateP_at B N cap s m e t f _ _ hN (by omega) (by omega) (by have := HC.out.2.2.2.1; omega) HW.out.1).mono ?_; rintro ee w1 ⟨rfl, r1, r2⟩; have HW1 : Hid (RP aj rule jc w1 B N t (rot s m e f) ∧ But B w w1) := ⟨r1, HW.out.2.trans r2⟩; clear r1 r2; have HW2 : Hid (∃ g1, RP aj rule jc w1 B N t g1 ∧ PermOn a md (rot s m e f) g1 ∧ SortedOn (ltP jc rule) g1 a md ∧ But B w w1) := ⟨_, HW1.out.1, PermOn.refl _ _ _, sorted_lP HQ.out HM.out.1 HM.out.2.1, HW1.out.2⟩)
              | (go_at_call 117; obtain ⟨g1, k1, k2, k3, k4⟩ := HW2.out; refine (HI.out md e b g1 _ (by omega) (by omega) (by omega) (by omega) k1 (pl_right HC.out HD.out k2) (HM.out.2.2 g1 k2).1 (HM.out.2.2 g1 k2).2).mono ?_; rintro ee w3 ⟨rfl, g2, r1, r2, r3, r4⟩; have HF : Hid (Mg2P aj rule jc B N t a b f w w3) := ⟨g2, r1, (sym_finP ham hmb hmdb HC.out HX.out HY.out k2 k3 r2 r3).1, (sym_finP ham hmb hmdb HC.out HX.out HY.out k2 k3 r2 r3).2, k4.trans r4⟩; clear r1 r2 r3 r4 k1 k2 k3 k4))
            go_returns
            exact ⟨rfl, HF.out⟩
          · have HQ2 : Hid (e = md ∨ e = b) := .inr (by omega)
            go_wp2_with (first
              | (go_at_call 118; refine (rotateP_at B N cap s m e t f _ _ hN (by omega) (by omega) (by have := HC.out.2.2.2.1; omega) HW.out.1).mono ?_; rintro ee w1 ⟨rfl, r1, r2⟩; have HW1 : Hid (RP aj rule jc w1 B N t (rot s m e f) ∧ But B w w1) := ⟨r1, HW.out.2.trans r2⟩; clear r1 r2; have HW2 : Hid (∃ g1, RP aj rule jc w1 B N t g1 ∧ PermOn a md (rot s m e f) g1 ∧ SortedOn (ltP jc rule) g1 a md ∧ But B w w1) := ⟨_, HW1.out.1, PermOn.refl _ _ _, sorted_lP HQ.out HM.out.1 HM.out.2.1, HW1.out.2⟩; have HF : Hid (Mg2P aj rule jc B N t a b f w w1) := (by obtain ⟨g1, k1, k2, k3, k4⟩ := HW2.out; have z := sym_finP ham hmb hmdb HC.out HX.out HY.out k2 k3 (PermOn.refl _ _ _) (sorted_lP HQ2.out (HM.out.2.2 g1 k2).1 (HM.out.2.2 g1 k2).2); exact ⟨g1, k1, z.1, z.2, k4⟩)))
            go_returns
            exact ⟨rfl, HF.out⟩
      · have z5 : ¬ (s : Int) < m := by omega
        have z3 : ¬ (md : Int) < e := by omega
        have z6 : (a : Int) < s := by omega
        have HE : Hid (rot s m e f = f) := by rw [show s = m by omega]; exact rot_same_lP (by omega)
        have HQ2 : Hid (e = md ∨ e = b) := .inl (by omega)
        clear z1
        by_cases z7 : (s : Int) < md
        · have HW1 : Hid (RP aj rule jc wr B N t (rot s m e f) ∧ But B w wr) := by rw [HE.out]; exact HW.out
          go_wp2_with (first
            | (go_at_call 117; clear tok1; refine (HI.out a s md _ _ (by omega) (by omega) (by omega) (by omega) HW1.out.1 (pl_left HC.out HD.out) HM.out.1 HM.out.2.1).mono ?_; rintro ee w2 ⟨rfl, g1, r1, r2, r3, r4⟩; have HW2 : Hid (∃ g1, RP aj rule jc w2 B N t g1 ∧ PermOn a md (rot s m e f) g1 ∧ SortedOn (ltP jc rule) g1 a md ∧ But B w w2) := ⟨g1, r1, r2, r3, HW1.out.2.trans r4⟩; clear r1 r2 r3 r4; have HF : Hid (Mg2P aj rule jc B N t a b f w w2) := (by obtain ⟨g1, k1, k2, k3, k4⟩ := HW2.out; have z := sym_finP ham hmb hmdb HC.out HX.out HY.out k2 k3 (PermOn.refl _ _ _) (sorted_lP HQ2.out (HM.out.2.2 g1 k2).1 (HM.out.2.2 g1 k2).2); exact ⟨g1, k1, z.1, z.2, k4⟩)))
          go_returns
          exact ⟨rfl, HF.out⟩
        · have HQ : Hid (s = a ∨ s = md) := .inr (by omega)
          have HW1 : Hid (RP aj rule jc wr B N t (rot s m e f) ∧ But B w wr) := by rw [HE.out]; exact HW.out
          have HW2 : Hid (∃ g1, RP aj rule jc wr B N t g1 ∧ PermOn a md (rot s m e f) g1 ∧ SortedOn (ltP jc rule) g1 a md ∧ But B w wr) := ⟨_, HW1.out.1, PermOn.refl _ _ _, sorted_lP HQ.out HM.out.1 HM.out.2.1, HW1.out.2⟩
          have HF : Hid (Mg2P aj rule jc B N t a b f w wr) := (by obtain ⟨g1, k1, k2, k3, k4⟩ := HW2.out; have z := sym_finP ham hmb hmdb HC.out HX.out HY.out k2 k3 (PermOn.refl _ _ _) (sorted_lP HQ2.out (HM.out.2.2 g1 k2).1 (HM.out.2.2 g1 k2).2); exact ⟨g1, k1, z.1, z.2, k4⟩)
          go_wp2
          go_returns
          exact ⟨rfl, HF.out⟩

theorem symMergeP_any (B N cap : Nat) (t : TypeId) (hN : (N : Int) ≤ 1048576) : ∀ d, SymOkP aj jk rule jc B N cap t d
  | 0 => fun a m b f w hd h1 h2 => by omega
  | d + 1 => fun a m b f w hd h1 h2 hb H D X Y => by
    by_cases q1 : m = a + 1
    · subst q1; exact symP_left B N cap a b t f w hN h2 hb H D Y
    · by_cases q2 : b = m + 1
      · subst q2; exact symP_right B N cap a m t f w hN (by omega) hb H D X
      · by_cases q3 : (a + b) / 2 < m
        · exact sym_bigP B N cap d a m b t f w hN (symMergeP_any B N cap t hN d) hd (by omega) (by omega) hb H D X Y q3
        · exact sym_smallP B N cap d a m b t f w hN (symMergeP_any B N cap t hN d) hd (by omega) (by omega) hb H D X Y (by omega)
end Go.Proofs.Ytogolmbgboihdaa.Srt
