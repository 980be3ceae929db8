/- The rule of a code on a day, and the rules of all codes: plain, and in the program. -/
import Derived.Test.YtbhghghkgojpgaaTe
namespace Go.Proofs.Ytbhghghkgojpgaa
open Go.ChangeShapes Go.WideShapes Go.ChangeAt Go.RowKit
set_option linter.unusedVariables false
set_option linter.unusedSimpArgs false

def onB (r : T5) (s : ByteArray) (d : Int) : Bool := decide (r.code = s) && inB d r.fr r.to
/-- The place of the rule of a code on a day. -/
def ixR (n : Nat) (c : Nat → T5) (s : ByteArray) (d : Int) : Int := fstF (fun j => onB (c j) s d) n 0
/-- The rule of the i-th code, with the Rate that counts. -/
noncomputable def usR (n : Nat) (c : Nat → T5) (cs : Nat → ByteArray) (f : Nat) (fs : Nat → ByteArray) (d : Int) (i : Nat) : T5 :=
  let r := c (ixR n c (cs i) d).toNat
  ⟨r.code, r.fr, r.to, if hasS f fs (cs i) = true then 0 else r.rate, r.kind⟩
def UsAt (n : Nat) (c : Nat → T5) (cs : Nat → ByteArray) (d : Int) (i : Nat) : Prop := 0 ≤ ixR n c (cs i) d ∧ hasS i cs (cs i) = false
def UsP (n : Nat) (c : Nat → T5) (m : Nat) (cs : Nat → ByteArray) (d : Int) : Prop := ∀ i, i < m → UsAt n c cs d i

theorem ixR_spec (n : Nat) (c : Nat → T5) (s : ByteArray) (d : Int) : (ixR n c s d = -1 ∧ ∀ j, j < n → onB (c j) s d = false) ∨ ∃ k : Nat, ixR n c s d = (k : Int) ∧ k < n ∧ onB (c k) s d = true ∧ ∀ j, j < k → onB (c j) s d = false := by
  rcases fstF_spec (fun j => onB (c j) s d) n 0 with ⟨h1, h2⟩ | ⟨k, h1, h2, h3, h4, h5⟩
  · exact .inl ⟨h1, fun j hj => h2 j (by omega) (by omega)⟩
  · exact .inr ⟨k, h1, by omega, h4, fun j hj => h5 j (by omega) hj⟩
theorem onB_t {r : T5} {s : ByteArray} {d : Int} (h : onB r s d = true) : r.code = s ∧ r.fr ≤ d ∧ d ≤ r.to := by
  unfold onB at h
  simp only [Bool.and_eq_true, decide_eq_true_eq] at h
  exact ⟨h.1, (inB_t h.2).1, (inB_t h.2).2⟩
/-- Of right rules at most one has the code on a day. -/
theorem on_one {n : Nat} {c : Nat → T5} (h : TrP n c) {s : ByteArray} {d : Int} {i j : Nat} (hi : i < n) (hj : j < n) (h1 : onB (c i) s d = true) (h2 : onB (c j) s d = true) : i = j := by
  have a := onB_t h1
  have b := onB_t h2
  rcases Nat.lt_trichotomy i j with q | q | q
  · have := (h.2 j hj).2 i q
    have t : clB (c j) (c i) = true := by unfold clB; rw [decide_eq_true_eq]; exact ⟨b.1.trans a.1.symm, by omega⟩
    rw [t] at this; cases this
  · exact q
  · have := (h.2 i hi).2 j q
    have t : clB (c i) (c j) = true := by unfold clB; rw [decide_eq_true_eq]; exact ⟨a.1.trans b.1.symm, by omega⟩
    rw [t] at this; cases this

set_option maxRecDepth 20000 in
set_option maxHeartbeats 4000000 in
theorem onClo_any (r : T5) (s : ByteArray) (d : Int) (b1 b2 : Nat) (v : Bool) (w : World) (h1 : CB w b1 #[.string s] 9) (h2 : CB w b2 #[.int .i64 d] 3) (hv : onB r s d = v) :
    Calls Try.prog 102 #[r.val, .pointer (some ⟨b1, 0, none⟩), .pointer (some ⟨b2, 0, none⟩)] w fun e w' => e = .returned (.bool v) ∧ Below w.heap.size w w' := by
  obtain ⟨code, fr, to, ra, ki⟩ := r
  have k1 := ((h1.alloc (.cells #[.string code, .int .i64 fr, .int .i64 to, .int .i64 ra, .int .i64 ki] 79 (0, 0))).cell 0).trans rfl
  have k2 := ((h2.alloc (.cells #[.string code, .int .i64 fr, .int .i64 to, .int .i64 ra, .int .i64 ki] 79 (0, 0))).cell 0).trans rfl
  clear h1 h2
  unfold T5.val
  by_cases g : code = s
  · have HV : Hid (inB d fr to = v) := hid (by rw [← hv]; simp [onB, g])
    have e1 := lists_t g
    clear g hv
    go_enter Try.func102, Try.ntmps102
    go_wp2_with (go_at_call 97; refine (holdsOn_eq ⟨code, fr, to, ra, ki⟩ d _ _ HV.out).mono ?_; rintro e w1 ⟨rfl, b1⟩; have HB : Hid (Below w.heap.size w w1) := bel_on ((Below.refl _ _).alloc (Nat.le_refl _) _) b1; clear b1)
    go_returns
    exact ⟨rfl, HB.out⟩
  · have HV : Hid (false = v) := hid (by rw [← hv]; simp [onB, g])
    have e1 := lists_f g
    clear g hv
    go_enter Try.func102, Try.ntmps102
    go_wp2_with fail
    go_returns
    exact ⟨ret_bool HV.out, by go_grown⟩

set_option maxRecDepth 20000 in
set_option maxHeartbeats 2000000 in
theorem idxOn_any (s : ByteArray) (d : Int) (b1 b2 : Nat) (ad : Option Addr) (len cap : Nat) (c : Nat → T5) (w : World) (h : (len : Int) ≤ 1048576) (hr : TR w ad len c) (h1 : CB w b1 #[.string s] 9) (h2 : CB w b2 #[.int .i64 d] 3) :
    Calls Try.prog 96 #[.slice ad len cap, .func (Fn.func 102) #[] #[.pointer (some ⟨b1, 0, none⟩), .pointer (some ⟨b2, 0, none⟩)]] w fun e w' => e = .returned (.int .i64 (ixR len c s d)) ∧ Below w.heap.size w w' := by
  have HR : Hid (TR w ad len c) := hr
  have H1 : Hid (CB w b1 #[.string s] 9) := h1
  have H2 : Hid (CB w b2 #[.int .i64 d] 3) := h2
  clear hr h1 h2
  unfold ixR
  go_enter Try.func96, Try.ntmps96
  go_wp2
  go_loopw [8] (fun i wr => ∃ k : Nat, k ≤ len ∧ i = .int .i64 (k : Int) ∧ Hid (fstF (fun j => onB (c j) s d) (len - k) k = fstF (fun j => onB (c j) s d) len 0) ∧ Hid (Below w.heap.size w wr)) (fun i _ => len - (intOf i).toNat)
  case atStart => exact ⟨0, Nat.zero_le _, rfl, rfl, Below.refl _ _⟩
  case round =>
    obtain ⟨k, hk, rfl, hP, HB⟩ := hrel
    by_cases hlt : k < len
    · have hlt2 : (k : Int) < (len : Int) := by omega
      obtain ⟨kb, off, rfl, _⟩ := HR.out.addr (by omega)
      obtain ⟨c0, c1, c2, c3, c4⟩ := (HR.out.below HB.out).cell hlt
      have J1 : Hid (CB wr b1 #[.string s] 9) := hid (H1.out.below HB.out H1.out.lt)
      have J2 : Hid (CB wr b2 #[.int .i64 d] 3) := hid (H2.out.below HB.out H2.out.lt)
      cases g : onB (c k) s d
      · have HF : Hid (fstF (fun j => onB (c j) s d) (len - (k + 1)) (k + 1) = fstF (fun j => onB (c j) s d) len 0) := hid (by rw [← hP.out]; exact (fstF_miss hlt g).symm)
        have HG : Hid (onB (c k) s d = false) := g
        clear g
        go_wp2_with (go_at_call 102; refine (onClo_any (c k) s d b1 b2 _ _ J1.out J2.out HG.out).mono ?_; rintro e w1 ⟨rfl, b1⟩; have HB1 : Hid (Below w.heap.size w w1) := bel_on HB.out b1; clear b1)
        go_roundw
        case rel => exact ⟨k + 1, by omega, by go_num, HF, HB1⟩
        case measure => simp [intOf]; omega
      · have HF : Hid (fstF (fun j => onB (c j) s d) len 0 = (k : Int)) := hid (by rw [← hP.out]; exact fstF_hit hlt g)
        have HG : Hid (onB (c k) s d = true) := g
        clear g
        go_wp2_with (go_at_call 102; refine (onClo_any (c k) s d b1 b2 _ _ J1.out J2.out HG.out).mono ?_; rintro e w1 ⟨rfl, b1⟩; have HB1 : Hid (Below w.heap.size w w1) := bel_on HB.out b1; clear b1)
        go_returns
        exact ⟨ret_i HF.out.symm, HB1.out⟩
    · obtain rfl : k = len := by omega
      have lkk : ¬ (k : Int) < (k : Int) := by omega
      have HF : Hid (fstF (fun j => onB (c j) s d) k 0 = -1) := hid (by rw [← hP.out]; exact fstF_end)
      go_wp2
      go_returns
      exact ⟨ret_i HF.out.symm, HB.out⟩
end Go.Proofs.Ytbhghghkgojpgaa
