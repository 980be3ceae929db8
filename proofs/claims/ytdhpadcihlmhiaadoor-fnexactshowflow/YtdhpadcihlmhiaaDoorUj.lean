/- A flow's text: the plain text, and the model's ShowFlow. -/
import Derived.Test.YtdhpadcihlmhiaaDoorUi
namespace Go.Proofs.YtdhpadcihlmhiaaDoor
open Go.ChangeShapes Go.WideShapes Go.ChangeAt Go.RowKit
set_option linter.unusedVariables false
set_option linter.unusedSimpArgs false

def nilT : ByteArray := ⟨#[]⟩
def floT (c : Nat → ST) : Nat → ByteArray
  | 0 => nilT
  | k + 1 => floT c k ++ stepT (c k)
open Classical in
noncomputable def shoT (n : Nat) (c : Nat → ST) : ByteArray := if FloP n c ∧ (floT c n).size ≤ 2000 then floT c n else nilT
open Classical in
theorem shoT_t {n : Nat} {c : Nat → ST} (h : FloP n c) (g : (floT c n).size ≤ 2000) : shoT n c = floT c n := by unfold shoT; exact if_pos ⟨h, g⟩
open Classical in
theorem shoT_f {n : Nat} {c : Nat → ST} (h : ¬ (FloP n c ∧ (floT c n).size ≤ 2000)) : shoT n c = nilT := by unfold shoT; exact if_neg h
theorem stepT_size {p : ST} (h : StpP p) : (stepT p).size ≤ 300 := by
  have h1 := begT_size (amT_size h.1 h.2.1)
  have h2 := jonT_size (n := p.rn) (z := p.rz) h1 (fun j hj => name_size (h.2.2.2.2 j hj).1) p.rn (Nat.le_refl _)
  have h3 : (⟨#[10]⟩ : ByteArray).size = 1 := rfl
  have h4 := h.2.2.2.1
  unfold stepT; rw [ByteArray.size_append]; omega
theorem floT_size {n : Nat} {c : Nat → ST} (h : ∀ j, j < n → StpP (c j)) : ∀ k, k ≤ n → (floT c k).size ≤ 300 * k
  | 0, _ => by have : nilT.size = 0 := rfl
               unfold floT; omega
  | k + 1, hk => by
    have ih := floT_size h k (by omega)
    have := stepT_size (h k (by omega))
    unfold floT; rw [ByteArray.size_append]; omega

set_option maxRecDepth 20000 in
set_option maxHeartbeats 4000000 in
theorem specFlow_any (ad : Option Addr) (len cap : Nat) (c : Nat → ST) (w : World) (h : (len : Int) ≤ 1048576) (hs : STz c) (hr : STr w ad len c) :
    Calls Tryd.prog 25 #[.slice ad len cap] w fun e w' => e = .returned (.string (shoT len c)) ∧ Below w.heap.size w w' := by
  have HR : Hid (STr w ad len c) := hr
  have HF : Hid (∀ w' : World, Below w.heap.size w w' → ∀ v, floB len c = v → Calls Tryd.prog 70 #[.slice ad len cap] w' fun e w'' => e = .returned (.bool v) ∧ ∃ q, w'' = w'.drewN q) := fun w' b v hv => hv ▸ flowOk_any ad len cap c w' h hs (hr.below b)
  clear hr hs
  cases hb : floB len c
  · have hlen : 0 < len := Nat.pos_of_ne_zero fun e => by
      subst e; rw [floB_t ⟨by omega, fun i hi => by omega⟩] at hb; cases hb
    have hl2 : (0 : Int) < (len : Int) := by omega
    have HB0 := hid hb
    have HV : Hid (shoT len c = nilT) := shoT_f fun q => by rw [floB_t q.1] at hb; cases hb
    clear hb
    go_enter Tryd.func25, Tryd.ntmps25
    go_wp2
    go_loopw [3, 4] (fun t i wr => i = .int .i64 0 ∧ t = .string ⟨#[]⟩ ∧ wr = w) (fun _ _ _ => 0)
    case atStart => exact ⟨rfl, rfl, rfl⟩
    case round =>
      obtain ⟨rfl, rfl, hwr⟩ := hrel
      subst hwr
      go_wp2_with (go_at_call 70; go_loud (refine (HF.out _ (Below.refl _ _) _ HB0.out).mono ?_; rintro e w1 ⟨rfl, q, rfl⟩))
      go_returns
      exact ⟨ret_t HV.out.symm, bd_N (Below.refl _ _) _⟩
  have HFP : Hid (FloP len c) := floB_of hb
  have HB0 := hid hb
  have h20 : (len : Int) ≤ 20 := by have := HFP.out.1; omega
  have HSZ : Hid (∀ k, k ≤ len → (floT c k).size ≤ 300 * k) := floT_size fun j hj => (HFP.out.2 j hj).1
  clear hb
  go_enter Tryd.func25, Tryd.ntmps25
  go_wp2
  go_loopw [3, 4] (fun t i wr => ∃ k : Nat, k ≤ len ∧ i = .int .i64 (k : Int) ∧ t = .string (floT c k) ∧ Hid (Below w.heap.size w wr)) (fun _ i _ => len - (intOf i).toNat)
  case atStart => exact ⟨0, Nat.zero_le _, rfl, rfl, Below.refl _ _⟩
  case round =>
    obtain ⟨k, hk, rfl, rfl, HB⟩ := hrel
    have hsz := HSZ.out k hk
    have HJ : Hid (floT c (k + 1) = floT c k ++ stepT (c k)) := rfl
    have HVt : Hid (k = len → (floT c k).size ≤ 2000 → floT c k = shoT len c) := fun e g => by subst e; exact (shoT_t HFP.out g).symm
    have HVf : Hid (k = len → ¬ (floT c k).size ≤ 2000 → shoT len c = nilT) := fun e g => by subst e; exact shoT_f fun q => g q.2
    obtain ⟨T, hT⟩ : ∃ x, floT c k = x := ⟨_, rfl⟩
    rw [hT] at hsz HJ HVt HVf ⊢
    clear hT
    obtain ⟨wo, rfl⟩ : ∃ x, x = wr := ⟨wr, rfl⟩
    by_cases hlt : k < len
    · have hlt2 : (k : Int) < (len : Int) := by omega
      obtain ⟨kb, off, ea, hkb⟩ := HR.out.addr (by omega)
      subst ea
      have HSP := hid (HFP.out.2 k hlt).1
      have HCC : Hid (∀ w' : World, Below w.heap.size w w' → ∃ ra rc, w'.cell? ⟨kb, off + k * 2, none⟩ = some (.int .i64 (c k).over) ∧ w'.cell? ⟨kb, off + k * 2 + 1, none⟩ = some (.slice ra (c k).rn rc) ∧ STR w' ra (c k).rn (c k).rz) := fun w' b => by
        obtain ⟨ra, rc, _, c0, c1, r5⟩ := (HR.out.below b).cell hlt
        exact ⟨ra, rc, c0, c1, r5⟩
      obtain ⟨r, hr⟩ : ∃ r, c k = r := ⟨_, rfl⟩
      rw [hr] at HSP HCC HJ
      clear hr
      obtain ⟨over, rn, rz⟩ := r
      have ssz := stepT_size HSP.out
      have z1 : ¬ 9223372036854775807 < T.size + (stepT ⟨over, rn, rz⟩).size := by omega
      go_wp2_with (first
        | (go_at_call 70; go_loud (refine (HF.out _ HB.out _ HB0.out).mono ?_; rintro e w1 ⟨rfl, q, rfl⟩; have HB1 := hid (bd_N HB.out q); obtain ⟨ra, rc, c0, c1, r5⟩ := HCC.out _ HB1.out; simp only at c0 c1; have HT1 := hid r5; clear r5))
        | (go_at_call 71; go_loud (refine (specStep_any over ra rn rc rz _ HSP.out HT1.out).mono ?_; rintro e w2 ⟨rfl, b2⟩; have HB2 : Hid (Below w.heap.size w w2) := bel_on HB1.out b2; clear b2)))
      go_roundw
      case rel => exact ⟨k + 1, by omega, by go_num, by rw [HJ.out], HB2⟩
      case measure => simp [intOf]; omega
    · have hkl : k = len := by omega
      have lkk : ¬ (k : Int) < (len : Int) := by omega
      by_cases hbig : (2000 : Int) < (T.size : Int)
      · have HV := hid (HVf.out hkl (by omega))
        go_wp2
        go_returns
        exact ⟨ret_t HV.out.symm, HB.out⟩
      · have HV := hid (HVt.out hkl (by omega))
        go_wp2
        go_returns
        exact ⟨ret_t HV.out, HB.out⟩
end Go.Proofs.YtdhpadcihlmhiaaDoor
