/- The stable sort, whole. -/
import Derived.Test.YtogolmbgboihdaaZk
namespace Go.Proofs.Ytogolmbgboihdaa.Srt
open Go Go.ChangeShapes Go.WideShapes Go.ChangeAt Go.RowKit
set_option linter.unusedVariables false
set_option linter.unusedSimpArgs false
variable {aj : Option Addr} {jk : Nat} {rule : Int} {jc : Nat → JB}

/-- A sorted run that holds what lay there. -/
def SO (jc : Nat → JB) (rule : Int) (f g : Nat → Int) (a b : Nat) : Prop := SortedOn (ltP jc rule) g a b ∧ ∀ i, a ≤ i → i < b → ∃ j, a ≤ j ∧ j < b ∧ g i = f j
theorem SO.congr {f g h : Nat → Int} {a b : Nat} (x : SO jc rule f g a b) (e : ∀ i, a ≤ i → i < b → h i = g i) : SO jc rule f h a b := ⟨x.1.congr e, fun i h1 h2 => by rw [e i h1 h2]; exact x.2 i h1 h2⟩
/-- From jc rule a on, runs of s places are sorted, each by itself. -/
inductive From (jc : Nat → JB) (rule : Int) (s N : Nat) (f g : Nat → Int) : Nat → Prop
  | last (a : Nat) : SO jc rule f g a N → N ≤ a + s → From jc rule s N f g a
  | cons (a : Nat) : a + s ≤ N → SO jc rule f g a (a + s) → From jc rule s N f g (a + s) → From jc rule s N f g a
section
variable {s N a : Nat} {f g h : Nat → Int}
theorem From.congr (x : From jc rule s N f g a) (e : ∀ i, a ≤ i → h i = g i) : From jc rule s N f h a := by
  induction x with
  | last a q1 q2 => exact .last a (q1.congr (fun i h1 _ => e i h1)) q2
  | cons a q0 q1 q2 ih => exact .cons a q0 (q1.congr (fun i h1 _ => e i h1)) (ih (fun i hi => e i (by omega)))
theorem From.one (x : From jc rule s N f g a) (h : N ≤ a + s) : SO jc rule f g a N := by
  cases x with
  | last _ q1 q2 => exact q1
  | cons _ q0 q1 q2 => rw [show a + s = N by omega] at q1; exact q1
theorem From.half (x : From jc rule s N f g a) (h1 : a + s < N) (h2 : N ≤ a + 2 * s) : SO jc rule f g a (a + s) ∧ SO jc rule f g (a + s) N := by
  cases x with
  | last _ q1 q2 => omega
  | cons _ q0 q1 q2 => exact ⟨q1, q2.one (by omega)⟩
theorem From.two (x : From jc rule s N f g a) (h1 : a + 2 * s ≤ N) (hs : 0 < s) : SO jc rule f g a (a + s) ∧ SO jc rule f g (a + s) (a + 2 * s) ∧ From jc rule s N f g (a + 2 * s) := by
  cases x with
  | last _ q1 q2 => omega
  | cons _ q0 q1 q2 =>
    cases q2 with
    | last _ r1 r2 =>
      obtain rfl : N = a + 2 * s := by omega
      exact ⟨q1, r1, .last _ ⟨fun i j _ _ _ => by omega, fun i _ _ => by omega⟩ (by omega)⟩
    | cons _ r0 r1 r2 => rw [show a + s + s = a + 2 * s by omega] at r1 r2; exact ⟨q1, r1, r2⟩

/-- All up to a is laid: with the rest from a on it is so from the start on. -/
def Upto (jc : Nat → JB) (rule : Int) (s N : Nat) (f g : Nat → Int) (a : Nat) : Prop := ∀ h, (∀ i, i < a → h i = g i) → From jc rule s N f h a → From jc rule s N f h 0
theorem Upto.zero : Upto jc rule s N f g 0 := fun h _ x => x
theorem Upto.step (x : Upto jc rule s N f g a) (hs : a + s ≤ N) (e : ∀ i, i < a → h i = g i) (q : SO jc rule f h a (a + s)) : Upto jc rule s N f h (a + s) := fun k e1 y =>
  x k (fun i hi => (e1 i (by omega)).trans (e i hi)) (.cons a hs (q.congr (fun i _ h2 => e1 i h2)) y)
theorem Upto.done (x : Upto jc rule s N f g a) (e : ∀ i, i < a → h i = g i) (q : SO jc rule f h a N) (hs : N ≤ a + s) : From jc rule s N f h 0 := x h e (.last a q hs)
theorem perm_lo {b : Nat} (x : PermOn a b g h) : ∀ i, i < a → h i = g i := fun i hi => x.1 i (by omega)
theorem perm_hi {b : Nat} (x : PermOn a b g h) : ∀ i, b ≤ i → h i = g i := fun i hi => x.1 i (by omega)
end

/-- What the sort is to keep: the row is rearranged. -/
def Kept (aj : Option Addr) (rule : Int) (jc : Nat → JB) (B N : Nat) (t : TypeId) (f : Nat → Int) (w w' : World) (g : Nat → Int) : Prop := RP aj rule jc w' B N t g ∧ PermOn 0 N f g ∧ But B w w'

theorem ins_at (B N cap a b : Nat) (t : TypeId) (f g : Nat → Int) (w W : World) (hN : (N : Int) ≤ 1048576) (ha : a ≤ b) (hb : b ≤ N) (K : Kept aj rule jc B N t f w W g) (G : ∀ i, a ≤ i → g i = f i) (D : Asc 0 N f) :
    Calls Try.prog 116 #[.slice (some ⟨B, 0, none⟩) N cap, .int .i64 a, .int .i64 b, .func (Fn.func 64) #[.agg #[.slice aj N jk, .int .i64 rule]] #[]] W fun e w' => e = .returned (.tuple #[]) ∧ ∃ h, Kept aj rule jc B N t f w w' h ∧ PermOn a b g h ∧ SO jc rule f h a b := by
  refine (insertionP_any B N cap a b t g W hN ha hb K.1 (fun i j h1 h2 h3 => by rw [G i h1, G j (by omega)]; exact D i j (Nat.zero_le _) h2 (by omega))).mono ?_
  rintro e w' ⟨rfl, h, r1, r2, r3, r4⟩
  refine ⟨rfl, h, ⟨r1, K.2.1.trans (r2.mono (Nat.zero_le _) hb), K.2.2.trans r4⟩, r2, r3, fun i h1 h2 => ?_⟩
  obtain ⟨p, hp, _⟩ := r2.2
  obtain ⟨p1, p2, p3⟩ := hp i h1 h2
  exact ⟨p i, p1, p2, p3.trans (G _ p1)⟩

theorem sym_at (B N cap a m b : Nat) (t : TypeId) (f g : Nat → Int) (w W : World) (x : Int) (hx : x = (m : Int)) (hN : (N : Int) ≤ 1048576) (ha : a < m) (hm : m < b) (hb : b ≤ N) (K : Kept aj rule jc B N t f w W g) (D : Asc 0 N f) (X : SO jc rule f g a m) (Y : SO jc rule f g m b) :
    Calls Try.prog 117 #[.slice (some ⟨B, 0, none⟩) N cap, .int .i64 a, .int .i64 x, .int .i64 b, .func (Fn.func 64) #[.agg #[.slice aj N jk, .int .i64 rule]] #[]] W fun e w' => e = .returned (.tuple #[]) ∧ ∃ h, Kept aj rule jc B N t f w w' h ∧ PermOn a b g h ∧ SO jc rule f h a b := by
  subst hx
  have P : PLo a m b g := fun i j h1 h2 h3 h4 => by
    obtain ⟨i', a1, a2, a3⟩ := X.2 i h1 h2
    obtain ⟨j', b1, b2, b3⟩ := Y.2 j h3 h4
    rw [a3, b3]; exact D i' j' (Nat.zero_le _) (by omega) (by omega)
  refine (symMergeP_any B N cap t hN (b - a) a m b g W (Nat.le_refl _) ha hm hb K.1 P X.1 Y.1).mono ?_
  rintro e w' ⟨rfl, h, r1, r2, r3, r4⟩
  refine ⟨rfl, h, ⟨r1, K.2.1.trans (r2.mono (Nat.zero_le _) hb), K.2.2.trans r4⟩, r2, r3, fun i h1 h2 => ?_⟩
  obtain ⟨p, hp, _⟩ := r2.2
  obtain ⟨p1, p2, p3⟩ := hp i h1 h2
  rw [p3]
  by_cases q : p i < m
  · obtain ⟨j, a1, a2, a3⟩ := X.2 _ p1 q; exact ⟨j, a1, by omega, a3⟩
  · obtain ⟨j, a1, a2, a3⟩ := Y.2 _ (by omega) p2; exact ⟨j, by omega, a2, a3⟩

set_option maxRecDepth 20000 in
set_option maxHeartbeats 8000000 in
theorem stableP_any (B N cap : Nat) (t : TypeId) (f : Nat → Int) (w : World) (hN : (N : Int) ≤ 1048576) (H : RP aj rule jc w B N t f) (D : Asc 0 N f) :
    Calls Try.prog 108 #[.slice (some ⟨B, 0, none⟩) N cap, .int .i64 N, .func (Fn.func 64) #[.agg #[.slice aj N jk, .int .i64 rule]] #[]] w fun e w' => e = .returned (.tuple #[]) ∧ ∃ g, Kept aj rule jc B N t f w w' g ∧ SO jc rule f g 0 N := by
  have HR : Hid (RP aj rule jc w B N t f) := H
  have HD : Hid (Asc 0 N f) := D
  clear H D
  go_enter Try.func108, Try.ntmps108
  go_wp2
  go_loopw [7, 8] (fun u v wr => ∃ a b : Nat, u = .int .i64 (a : Int) ∧ v = .int .i64 (b : Int) ∧ b = a + 20 ∧ a ≤ N ∧ Hid (∃ g, Kept aj rule jc B N t f w wr g ∧ Upto jc rule 20 N f g a ∧ ∀ i, a ≤ i → g i = f i)) (fun u v _ => N - (intOf u).toNat)
  case atStart => exact ⟨0, 20, rfl, rfl, rfl, Nat.zero_le _, f, ⟨HR.out, PermOn.refl _ _ _, But.refl _ _⟩, Upto.zero, fun _ _ => rfl⟩
  case round =>
    obtain ⟨a, b, rfl, rfl, hba, haN, HP⟩ := hrel
    by_cases hlt : b ≤ N
    · have l1 : (b : Int) ≤ (N : Int) := by omega
      have Hb : Hid (b = a + 20) := hba
      obtain ⟨g, hK, hU, hG⟩ := HP.out
      have HG : Hid (∀ i, a ≤ i → g i = f i) := hG
      have HK : Hid (Kept aj rule jc B N t f w wr g) := hK
      have HU : Hid (Upto jc rule 20 N f g a) := hU
      clear hba HP hK hU hG
      go_wp2_with (go_at_call 116; refine (ins_at B N cap a b t f g w wr hN (by have := Hb.out; omega) hlt HK.out HG.out HD.out).mono ?_; rintro ee w2 ⟨rfl, h, r1, r2, r3⟩; have HN2 : Hid (∃ g, Kept aj rule jc B N t f w w2 g ∧ Upto jc rule 20 N f g b ∧ ∀ i, b ≤ i → g i = f i) := ⟨h, r1, (by have e := Hb.out; rw [e] at r2 r3 ⊢; exact HU.out.step (by omega) (perm_lo r2) r3), fun i hi => (perm_hi r2 i hi).trans (HG.out i (by have := Hb.out; omega))⟩; clear r1 r2 r3)
      go_roundw
      case rel => exact ⟨b, b + 20, rfl, by go_num, rfl, hlt, HN2⟩
      case measure => have := Hb.out; simp [intOf]; omega
    · have l1 : ¬ (b : Int) ≤ (N : Int) := by omega
      have Hb : Hid (b = a + 20) := hba
      obtain ⟨g, hK, hU, hG⟩ := HP.out
      have HG : Hid (∀ i, a ≤ i → g i = f i) := hG
      have HK : Hid (Kept aj rule jc B N t f w wr g) := hK
      have HU : Hid (Upto jc rule 20 N f g a) := hU
      clear hba HP hK hU hG
      go_wp2_with (go_at_call 116; refine (ins_at B N cap a N t f g w wr hN haN (Nat.le_refl _) HK.out HG.out HD.out).mono ?_; rintro ee w2 ⟨rfl, h, r1, r2, r3⟩; have HN2 : Hid (∃ g, Kept aj rule jc B N t f w w2 g ∧ From jc rule 20 N f g 0) := ⟨h, r1, HU.out.done (perm_lo r2) r3 (by have := Hb.out; omega)⟩; clear r1 r2 r3)
      clear HK HU
      rename_i wr0
      go_loopw [6] (fun u wr => ∃ s : Nat, u = .int .i64 (s : Int) ∧ 0 < s ∧ (s = 20 ∨ s ≤ 2 * N) ∧ Hid (∃ g, Kept aj rule jc B N t f w wr g ∧ From jc rule s N f g 0)) (fun u _ => N - (intOf u).toNat)
      case atStart => exact ⟨20, rfl, by omega, .inl rfl, HN2⟩
      case round =>
        clear HN2
        obtain ⟨s, rfl, hs0, hsN, HP⟩ := hrel
        have is : (s : Int) ≤ 2097152 := by omega
        by_cases hsl : s < N
        · have l2 : (s : Int) < (N : Int) := by omega
          obtain ⟨d, hd⟩ : ∃ d : Nat, d = 2 * s := ⟨_, rfl⟩
          have ed : 2 * (s : Int) = (d : Int) := by omega
          have ed2 : (s : Int) * 2 = (d : Int) := by omega
          have Hd : Hid (d = 2 * s) := hd
          have id : (d : Int) ≤ 2097152 := by omega
          clear hd
          go_wp2
          go_loopw [7, 8] (fun u v wq => ∃ a b : Nat, u = .int .i64 (a : Int) ∧ v = .int .i64 (b : Int) ∧ b = a + d ∧ a ≤ N ∧ Hid (∃ g, Kept aj rule jc B N t f w wq g ∧ Upto jc rule d N f g a ∧ From jc rule s N f g a)) (fun u v _ => N - (intOf u).toNat)
          case atStart =>
            obtain ⟨g, k1, k2⟩ := HP.out
            exact ⟨0, d, rfl, rfl, by omega, Nat.zero_le _, g, k1, Upto.zero, k2⟩
          case round =>
            clear HP
            obtain ⟨a', b', rfl, rfl, hba', haN', HP⟩ := hrel
            have Hb' : Hid (b' = a' + d) := hba'
            have hd := Hd.out
            obtain ⟨g', hK, hU, hF⟩ := HP.out
            have ia' : (a' : Int) ≤ (N : Int) := by omega
            by_cases hl : b' ≤ N
            · have l3 : (b' : Int) ≤ (N : Int) := by omega
              have HK : Hid (Kept aj rule jc B N t f w wr g') := hK
              have HU : Hid (Upto jc rule d N f g' a') := hU
              have HF : Hid (SO jc rule f g' a' (a' + s) ∧ SO jc rule f g' (a' + s) b' ∧ From jc rule s N f g' b') := by
                have := hF.two (by omega) hs0
                rw [show a' + 2 * s = b' by omega] at this; exact this
              have q1 : a' + s < b' := by omega
              clear hd
              clear hba' HP hK hU hF
              go_wp2_with (go_at_call 117; refine (sym_at B N cap a' (a' + s) b' t f g' w wr _ (by omega) hN (by omega) q1 hl HK.out HD.out HF.out.1 HF.out.2.1).mono ?_; rintro ee w2 ⟨rfl, h, r1, r2, r3⟩; have HN2 : Hid (∃ g, Kept aj rule jc B N t f w w2 g ∧ Upto jc rule d N f g b' ∧ From jc rule s N f g b') := ⟨h, r1, by have e := Hb'.out; rw [e] at r2 r3 ⊢; exact HU.out.step (by omega) (perm_lo r2) r3, HF.out.2.2.congr (perm_hi r2)⟩; clear r1 r2 r3)
              go_roundw
              case rel => exact ⟨b', b' + d, rfl, by go_num, rfl, hl, HN2⟩
              case measure => have := Hb'.out; have := Hd.out; simp [intOf]; omega
            · have l3 : ¬ (b' : Int) ≤ (N : Int) := by omega
              by_cases hm : a' + s < N
              · have l4 : (a' : Int) + (s : Int) < (N : Int) := by omega
                have HK : Hid (Kept aj rule jc B N t f w wr g') := hK
                have HU : Hid (Upto jc rule d N f g' a') := hU
                have HF : Hid (SO jc rule f g' a' (a' + s) ∧ SO jc rule f g' (a' + s) N) := hF.half hm (by omega)
                have hbd : Hid (N ≤ a' + d) := by show _ ≤ _; omega
                clear hd
                clear hba' HP hK hU hF
                go_wp2_with (go_at_call 117; refine (sym_at B N cap a' (a' + s) N t f g' w wr _ (by omega) hN (by omega) hm (Nat.le_refl _) HK.out HD.out HF.out.1 HF.out.2).mono ?_; rintro ee w2 ⟨rfl, h, r1, r2, r3⟩; have HN2 : Hid (∃ g, Kept aj rule jc B N t f w w2 g ∧ From jc rule d N f g 0) := ⟨h, r1, HU.out.done (perm_lo r2) r3 hbd.out⟩; clear r1 r2 r3)
                go_roundw
                case rel => exact ⟨d, by go_num, by have := Hd.out; omega, .inr (by have := Hd.out; omega), HN2⟩
                case measure => have := Hd.out; simp [intOf]; omega
              · have l4 : ¬ (a' : Int) + (s : Int) < (N : Int) := by omega
                have HN2 : Hid (∃ g, Kept aj rule jc B N t f w wr g ∧ From jc rule d N f g 0) := ⟨g', hK, hU.done (fun _ _ => rfl) (hF.one (by omega)) (by omega)⟩
                clear hd
                clear hba' HP hK hU hF
                go_wp2
                go_roundw
                case rel => exact ⟨d, by go_num, by have := Hd.out; omega, .inr (by have := Hd.out; omega), HN2⟩
                case measure => have := Hd.out; simp [intOf]; omega
        · have l2 : ¬ (s : Int) < (N : Int) := by omega
          have HF : Hid (∃ g, Kept aj rule jc B N t f w wr g ∧ SO jc rule f g 0 N) := by
            obtain ⟨g, k1, k2⟩ := HP.out
            exact ⟨g, k1, k2.one (by omega)⟩
          clear HP
          go_wp2
          go_returns
          exact ⟨rfl, HF.out⟩

theorem sortStableP_any (B N cap : Nat) (t : TypeId) (f : Nat → Int) (w : World) (hN : (N : Int) ≤ 1048576) (H : RP aj rule jc w B N t f) (D : Asc 0 N f) :
    Calls Try.prog 91 #[.slice (some ⟨B, 0, none⟩) N cap, .func (Fn.func 64) #[.agg #[.slice aj N jk, .int .i64 rule]] #[]] w fun e w' => e = .returned (.tuple #[]) ∧ ∃ g, Kept aj rule jc B N t f w w' g ∧ SO jc rule f g 0 N := by
  have HR : Hid (RP aj rule jc w B N t f) := H
  have HD : Hid (Asc 0 N f) := D
  clear H D
  go_enter Try.func91, Try.ntmps91
  go_wp2_with (go_at_call 108; refine (stableP_any B N cap t f w hN HR.out HD.out).mono ?_; rintro ee w2 ⟨rfl, r⟩; have HF : Hid (∃ g, Kept aj rule jc B N t f w w2 g ∧ SO jc rule f g 0 N) := r; clear r)
  go_returns
  exact ⟨rfl, HF.out⟩

theorem sortByP_any (B N cap : Nat) (t : TypeId) (f : Nat → Int) (w : World) (hN : (N : Int) ≤ 1048576) (H : RP aj rule jc w B N t f) (D : Asc 0 N f) :
    Calls Try.prog 63 #[.slice (some ⟨B, 0, none⟩) N cap, .func (Fn.func 64) #[.agg #[.slice aj N jk, .int .i64 rule]] #[]] w fun e w' => e = .returned (.tuple #[]) ∧ ∃ g, Kept aj rule jc B N t f w w' g ∧ SO jc rule f g 0 N := by
  have HR : Hid (RP aj rule jc w B N t f) := H
  have HD : Hid (Asc 0 N f) := D
  clear H D
  go_enter Try.func63, Try.ntmps63
  go_wp2_with (go_at_call 91; refine (sortStableP_any B N cap t f w hN HR.out HD.out).mono ?_; rintro ee w2 ⟨rfl, r⟩; have HF : Hid (∃ g, Kept aj rule jc B N t f w w2 g ∧ SO jc rule f g 0 N) := r; clear r)
  go_returns
  exact ⟨rfl, HF.out⟩
end Go.Proofs.Ytogolmbgboihdaa.Srt
