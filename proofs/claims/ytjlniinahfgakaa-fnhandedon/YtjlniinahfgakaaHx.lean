/- The model's look-up in a list; who has given, as a list; small parts of the model's StepDown. -/
import Derived.Test.YtjlniinahfgakaaSd
namespace Go.Proofs.Ytjlniinahfgakaa
open Go.ChangeShapes Go.WideShapes Go.ChangeAt Go.RowKit
set_option linter.unusedVariables false
set_option linter.unusedSimpArgs false

def HasP (len : Nat) (z : Nat → Int) (x : Int) : Prop := ∃ j, j < len ∧ z j = x
open Classical in
noncomputable def hasB (len : Nat) (z : Nat → Int) (x : Int) : Bool := decide (HasP len z x)
open Classical in
theorem hasB_t {len : Nat} {z : Nat → Int} {x : Int} (h : HasP len z x) : hasB len z x = true := decide_eq_true h
open Classical in
theorem hasB_f {len : Nat} {z : Nat → Int} {x : Int} (h : ¬ HasP len z x) : hasB len z x = false := decide_eq_false h
open Classical in
theorem hasB_iff {len : Nat} {z : Nat → Int} {x : Int} : hasB len z x = true ↔ HasP len z x := by unfold hasB; simp

set_option maxRecDepth 20000 in
set_option maxHeartbeats 1000000 in
theorem l7Has_any (ad : Option Addr) (N cap : Nat) (z : Nat → Int) (x : Int) (w : World) (h : (N : Int) ≤ 1048576) (hr : IR w ad N z) :
    Calls Try.prog 61 #[.slice ad N cap, .int .i64 x] w fun e w' => e = .returned (.bool (hasB N z x)) ∧ w' = w := by
  have HR : Hid (IR w ad N z) := hr
  clear hr
  go_enter Try.func61, Try.ntmps61
  go_wp2
  go_loop [5] (fun v => ∃ (k : Nat), k ≤ N ∧ v = .int .i64 (k : Int) ∧ Hid (∀ j, j < k → z j ≠ x)) (fun v => N - (intOf v).toNat)
  case atStart => exact ⟨0, Nat.zero_le _, rfl, fun j hj => by omega⟩
  case round =>
    obtain ⟨k, hk, rfl, hs⟩ := hrel
    by_cases hlt : k < N
    · obtain ⟨kb, off, rfl, _⟩ := HR.out.addr (by omega)
      have c1 := HR.out.cell hlt
      have hlt2 : (k : Int) < (N : Int) := by omega
      obtain ⟨y, hy⟩ : ∃ y, z k = y := ⟨_, rfl⟩
      rw [hy] at c1
      have HY : Hid (z k = y) := hy
      clear hy
      by_cases hf : y = x
      · have hb : (y == x) = true := by simpa using hf
        have HF : Hid (hasB N z x = true) := hasB_t ⟨k, hlt, by rw [HY.out]; exact hf⟩
        clear hf
        go_wp2
        go_returns
        exact ⟨ret_bool HF.out.symm, rfl⟩
      · have hb : (y == x) = false := by simpa using hf
        have HS : Hid (∀ j, j < k + 1 → z j ≠ x) := fun j hj => by
          by_cases e : j = k
          · rw [e, HY.out]; exact hf
          · exact hs.out j (by omega)
        clear hf
        go_wp2
        go_round
        case rel => exact ⟨k + 1, by omega, by go_num, HS⟩
        case measure => simp [intOf]; omega
    · obtain rfl : k = N := by omega
      have lkk : ¬ (k : Int) < (k : Int) := by omega
      have HF : Hid (hasB k z x = false) := hasB_f (fun ⟨j, h1, h2⟩ => hs.out j h1 h2)
      go_wp2
      go_returns
      exact ⟨ret_bool HF.out.symm, rfl⟩
theorem l7Has_eq {ad : Option Addr} {N cap : Nat} {z : Nat → Int} {x : Int} {v : Bool} (w : World) (h : (N : Int) ≤ 1048576) (hr : IR w ad N z) (hv : hasB N z x = v) :
    Calls Try.prog 61 #[.slice ad N cap, .int .i64 x] w fun e w' => e = .returned (.bool v) ∧ w' = w := hv ▸ l7Has_any ad N cap z x w h hr
theorem l1In_eq {x lo hi : Int} {v : Bool} (w : World) (h : inB x lo hi = v) : Calls Try.prog 60 #[.int .i64 x, .int .i64 lo, .int .i64 hi] w fun e w' => e = .returned (.bool v) ∧ w' = w := h ▸ l1In_any x lo hi w

/-- The first places of the rules. -/
def frs (rs : Nat → R3) (j : Nat) : Int := (rs j).frm
theorem rokB_out {n : Nat} {G : Nat → Bool} {r : R3} (h : rokB n G r = true) : ROk n G r := by
  by_cases g : ROk n G r
  · exact g
  · rw [rokB_f g] at h; cases h
theorem hokB_out {c : Nat → Int} {r : R3} (h : hokB c r = true) : HOk c r := by
  by_cases g : HOk c r
  · exact g
  · rw [hokB_f g] at h; cases h
/-- Who has given is who stands among the first places. -/
theorem sdn_gave {n : Nat} {c : Nat → Int} {rs : Nat → R3} : ∀ {k : Nat} {s : (Nat → Int) × (Nat → Bool)}, sdn n c rs k = some s → (∀ j, j < k → 0 ≤ (rs j).frm) ∧ ∀ x : Int, 0 ≤ x → (s.2 x.toNat = true ↔ HasP k (frs rs) x)
  | 0, s, h => by
    unfold sdn at h; cases h
    refine ⟨fun j hj => absurd hj (by omega), fun x hx => Iff.intro (fun q => ?_) (fun ⟨j, hj, _⟩ => absurd hj (by omega))⟩
    cases q
  | k + 1, s, h => by
    unfold sdn at h
    cases e : sdn n c rs k with
    | none => rw [e] at h; cases h
    | some t =>
      rw [e] at h
      simp only at h
      split at h
      · rename_i q
        cases h
        obtain ⟨i1, i2⟩ := sdn_gave e
        have hr := (rokB_out q.1).1
        refine ⟨fun j hj => ?_, fun x hx => ?_⟩
        · by_cases g : j = k
          · subst g; exact hr.1
          · exact i1 j (by omega)
        · show updB t.2 (rs k).frm.toNat x.toNat = true ↔ _
          unfold updB
          by_cases g : x.toNat = (rs k).frm.toNat
          · rw [if_pos g]
            exact ⟨fun _ => ⟨k, by omega, by unfold frs; omega⟩, fun _ => rfl⟩
          · rw [if_neg g, i2 x hx]
            refine ⟨fun ⟨j, h1, h2⟩ => ⟨j, by omega, h2⟩, fun ⟨j, h1, h2⟩ => ⟨j, ?_, h2⟩⟩
            rcases Nat.lt_or_ge j k with g2 | g2
            · exact g2
            · obtain rfl : j = k := by omega
              unfold frs at h2; exact absurd (by rw [h2]) g
      · cases h
theorem sdn_step {n : Nat} {c : Nat → Int} {rs : Nat → R3} {k : Nat} {sc : Nat → Int} {sg : Nat → Bool} (h : sdn n c rs k = some (sc, sg)) (h1 : ROk n sg (rs k)) (h2 : HOk sc (rs k)) : sdn n c rs (k + 1) = some (hdn sc (rs k) (rs k).tn, updB sg (rs k).frm.toNat) := by
  unfold sdn; rw [h]; simp [rokB_t h1, hokB_t h2]
theorem sdn_stop {n : Nat} {c : Nat → Int} {rs : Nat → R3} {k m : Nat} {sc : Nat → Int} {sg : Nat → Bool} (h : sdn n c rs k = some (sc, sg)) (hk : k < m) (hn : ¬ (ROk n sg (rs k) ∧ HOk sc (rs k))) : sdB n c m rs = false := sdB_f (fun q => by
  have h1 : sdn n c rs (k + 1) = none := by
    unfold sdn; rw [h]; simp only
    rw [if_neg (fun g => hn ⟨rokB_out g.1, hokB_out g.2⟩)]
  rw [sdn_none h1 (by omega)] at q
  have := q.2.2
  cases this)
theorem sdP_none2 {n : Nat} {c : Nat → Int} {m : Nat} {rs : Nat → R3} {w w1 : World} (h : sdB n c m rs = false) (hC : CB w1 w.heap.size #[] 3) (hb : Below w.heap.size w w1) : SdP n c m rs w (.returned (.tuple #[.slice (some ⟨w.heap.size, 0, none⟩) 0 0, .bool false])) w1 := by
  have e : sdM n c m rs = 0 := by unfold sdM; rw [h]; rfl
  unfold SdP
  rw [e, h]
  exact ⟨_, _, rfl, ⟨rfl, .inr ⟨w.heap.size, 0, #[], rfl, Nat.le_refl _, hC, Nat.le_refl _, Nat.zero_le _, rfl, rfl⟩⟩, hb⟩
theorem sdP_some {n : Nat} {c : Nat → Int} {m : Nat} {rs : Nat → R3} {w w1 : World} {sc : Nat → Int} {sg : Nat → Bool} {ad : Option Addr} {cap : Nat} (hc : CostP n c) (h40 : m ≤ 40) (h : sdn n c rs m = .some (sc, sg)) (ho : w1.ownsRow w.heap.size 3 1 (.slice ad n cap) n (intL sc n)) (hb : Below w.heap.size w w1) : SdP n c m rs w (.returned (.tuple #[.slice ad n cap, .bool true])) w1 := by
  have hB1 : sdB n c m rs = true := sdB_t ⟨hc, h40, by rw [h]; rfl⟩
  have hM1 : sdM n c m rs = n := by unfold sdM; rw [hB1]; rfl
  have hV1 : sdV n c m rs = sc := by unfold sdV; rw [h]
  unfold SdP
  rw [hM1, hB1, hV1]
  exact ⟨_, _, rfl, ho, hb⟩
end Go.Proofs.Ytjlniinahfgakaa
