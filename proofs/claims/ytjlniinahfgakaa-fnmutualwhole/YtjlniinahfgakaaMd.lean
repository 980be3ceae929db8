/- All weights of a service are not below nothing, and together the determinant: so its costs can be shared out. -/
import Derived.Test.YtjlniinahfgakaaMb
namespace Go.Proofs.Ytjlniinahfgakaa
open Go Go.RowKit
set_option linter.unusedVariables false
set_option linter.unusedSimpArgs false

theorem comb_sm (C0 C1 C2 : Int) (g0 g1 g2 : Nat → Int) : ∀ K, sm (fun k => C0 * g0 k + C1 * g1 k + C2 * g2 k) K = C0 * sm g0 K + C1 * sm g1 K + C2 * sm g2 K
  | 0 => by simp [sm]
  | K + 1 => by
    rw [sm_succ, sm_succ, sm_succ, sm_succ, comb_sm C0 C1 C2 g0 g1 g2 K]
    simp only [Int.mul_add]
    omega
theorem sm_split (f : Nat → Int) (n : Nat) : ∀ K, sm f (n + K) = sm f n + sm (fun k => f (n + k)) K
  | 0 => by simp [sm]
  | K + 1 => by
    rw [show n + (K + 1) = n + K + 1 by omega, sm_succ, sm_split f n K, sm_succ]
    omega
theorem prod_in {C g A B : Int} (h0 : 0 ≤ C) (h1 : C ≤ A) (h2 : 0 ≤ g) (h3 : g ≤ B) : 0 ≤ C * g ∧ C * g ≤ A * B :=
  ⟨Int.mul_nonneg h0 h2, Int.mul_le_mul h1 h3 h2 (by omega)⟩
theorem w1 (z : Nat → Nat → Int) (k : Nat) : wtF 1 z 0 k = 1 * z 0 (1 + k) + 0 * z 0 (1 + k) + 0 * z 0 (1 + k) := by
  rw [← wtF_det z k (by omega) (by omega)]
  simp [dt, dlS, mnr, pC, mF, cF]
theorem w2 (z : Nat → Nat → Int) (k : Nat) : wtF 2 z 0 k = 100 * z 0 (2 + k) + z 0 1 * z 1 (2 + k) + 0 * z 0 (2 + k) := by
  rw [← wtF_det z k (by omega) (by omega)]
  simp [dt, dlS, mnr, pC, mF, cF]
  grind
theorem w2b (z : Nat → Nat → Int) (k : Nat) : wtF 2 z 1 k = z 1 0 * z 0 (2 + k) + 100 * z 1 (2 + k) + 0 * z 0 (2 + k) := by
  rw [← wtF_det z k (by omega) (by omega)]
  simp [dt, dlS, mnr, pC, mF, cF]
  grind
theorem w3 (z : Nat → Nat → Int) (k : Nat) : wtF 3 z 0 k = (10000 - z 1 2 * z 2 1) * z 0 (3 + k) + (100 * z 0 1 + z 0 2 * z 2 1) * z 1 (3 + k) + (z 0 1 * z 1 2 + 100 * z 0 2) * z 2 (3 + k) := by
  rw [← wtF_det z k (by omega) (by omega)]
  simp [dt, dlS, mnr, pC, mF, cF]
  grind
theorem w3b (z : Nat → Nat → Int) (k : Nat) : wtF 3 z 1 k = (100 * z 1 0 + z 1 2 * z 2 0) * z 0 (3 + k) + (10000 - z 0 2 * z 2 0) * z 1 (3 + k) + (100 * z 1 2 + z 0 2 * z 1 0) * z 2 (3 + k) := by
  rw [← wtF_det z k (by omega) (by omega)]
  simp [dt, dlS, mnr, pC, mF, cF]
  grind
theorem w3c (z : Nat → Nat → Int) (k : Nat) : wtF 3 z 2 k = (100 * z 2 0 + z 1 0 * z 2 1) * z 0 (3 + k) + (100 * z 2 1 + z 0 1 * z 2 0) * z 1 (3 + k) + (10000 - z 0 1 * z 1 0) * z 2 (3 + k) := by
  rw [← wtF_det z k (by omega) (by omega)]
  simp [dt, dlS, mnr, pC, mF, cF]
  grind
theorem d1 (z : Nat → Nat → Int) : dl (mF 1 z) 3 (oF false false false) = 100 := by
  rw [← mF_det z (by omega) (by omega)]
  simp [dt, dlS, mnr, mF]
theorem d2 (z : Nat → Nat → Int) : dl (mF 2 z) 3 (oF false false false) = 10000 - z 0 1 * z 1 0 := by
  rw [← mF_det z (by omega) (by omega)]
  simp [dt, dlS, mnr, mF]
  grind
theorem d3 (z : Nat → Nat → Int) : dl (mF 3 z) 3 (oF false false false) = 1000000 - 100 * z 1 2 * z 2 1 - 100 * z 0 1 * z 1 0 - z 0 1 * z 1 2 * z 2 0 - z 0 2 * z 1 0 * z 2 1 - 100 * z 0 2 * z 2 0 := by
  rw [← mF_det z (by omega) (by omega)]
  simp [dt, dlS, mnr, mF]
  grind
theorem shOk_comb {T : Int} {K : Nat} {w g0 g1 g2 : Nat → Int} {C0 C1 C2 D : Int} (hT : AmtP T) (hK : K ≤ 200) (hw : ∀ k, w k = C0 * g0 k + C1 * g1 k + C2 * g2 k)
    (c0 : 0 ≤ C0 ∧ C0 ≤ 20000) (c1 : 0 ≤ C1 ∧ C1 ≤ 20000) (c2 : 0 ≤ C2 ∧ C2 ≤ 20000) (h0 : ∀ k, k < K → 0 ≤ g0 k ∧ g0 k ≤ 100) (h1 : ∀ k, k < K → 0 ≤ g1 k ∧ g1 k ≤ 100) (h2 : ∀ k, k < K → 0 ≤ g2 k ∧ g2 k ≤ 100)
    (hD : C0 * sm g0 K + C1 * sm g1 K + C2 * sm g2 K = D) (hD0 : D ≠ 0) : ShOk T K w := by
  obtain rfl : w = fun k => C0 * g0 k + C1 * g1 k + C2 * g2 k := funext hw
  refine ⟨hT, hK, fun j hj => ?_, ?_⟩
  · have a0 := prod_in c0.1 c0.2 (h0 j hj).1 (h0 j hj).2
    have a1 := prod_in c1.1 c1.2 (h1 j hj).1 (h1 j hj).2
    have a2 := prod_in c2.1 c2.2 (h2 j hj).1 (h2 j hj).2
    dsimp only
    omega
  · rw [comb_sm, hD]
    have a0 := Int.mul_nonneg c0.1 (sm_le h0).1
    have a1 := Int.mul_nonneg c1.1 (sm_le h1).1
    have a2 := Int.mul_nonneg c2.1 (sm_le h2).1
    omega
theorem cm_full {N n : Nat} {ln : Nat → Nat} {z : Nat → Nat → Int} {c : Nat → Int} (hc : CostP N c) (hs : ShS N (n : Int) n ln z) (hD : dl (mF n z) 3 (oF false false false) ≠ 0) {i : Nat} (hi : i < n) : cmN n N z c i = N - n := by
  have hn3 := hs.1
  have hnN := hs.2.1
  have hN := hc.1.2
  have hT := hc.2 i (by omega)
  have hz := hs.nums
  have hG : ∀ a, a < n → sm (fun k => z a (n + k)) (N - n) = 100 - sm (z a) n := fun a ha => by
    have e := sm_split (z a) n (N - n)
    rw [show n + (N - n) = N by omega, (hs.2.2.2 a ha).2.2.2] at e
    omega
  have hg : ∀ a, a < n → ∀ k, k < N - n → 0 ≤ z a (n + k) ∧ z a (n + k) ≤ 100 := fun a ha k hk => hz a (n + k) ha (by omega)
  have hd : ∀ a, a < n → z a a = 0 := fun a ha => (hs.2.2.2 a ha).2.1
  unfold cmN
  refine shM_ok ?_
  rcases (by omega : n = 1 ∨ n = 2 ∨ n = 3) with rfl | rfl | rfl
  · obtain rfl : i = 0 := by omega
    rw [d1] at hD
    have G0 := hG 0 (by omega)
    have e0 := hd 0 (by omega)
    simp only [sm] at G0
    exact shOk_comb hT (by omega) (w1 z) ⟨by omega, by omega⟩ ⟨by omega, by omega⟩ ⟨by omega, by omega⟩ (hg 0 (by omega)) (hg 0 (by omega)) (hg 0 (by omega)) (D := 100) (by rw [G0]; omega) hD
  · rw [d2] at hD
    have G0 := hG 0 (by omega)
    have G1 := hG 1 (by omega)
    have e0 := hd 0 (by omega)
    have e1 := hd 1 (by omega)
    have za := hz 0 1 (by omega) (by omega)
    have zb := hz 1 0 (by omega) (by omega)
    simp only [sm] at G0 G1
    rcases (by omega : i = 0 ∨ i = 1) with rfl | rfl
    · exact shOk_comb hT (by omega) (w2 z) ⟨by omega, by omega⟩ ⟨by omega, by omega⟩ ⟨by omega, by omega⟩ (hg 0 (by omega)) (hg 1 (by omega)) (hg 0 (by omega)) (by rw [G0, G1, e0, e1]; grind) hD
    · exact shOk_comb hT (by omega) (w2b z) ⟨by omega, by omega⟩ ⟨by omega, by omega⟩ ⟨by omega, by omega⟩ (hg 0 (by omega)) (hg 1 (by omega)) (hg 0 (by omega)) (by rw [G0, G1, e0, e1]; grind) hD
  · rw [d3] at hD
    have G0 := hG 0 (by omega)
    have G1 := hG 1 (by omega)
    have G2 := hG 2 (by omega)
    have e0 := hd 0 (by omega)
    have e1 := hd 1 (by omega)
    have e2 := hd 2 (by omega)
    have za := hz 0 1 (by omega) (by omega)
    have zb := hz 0 2 (by omega) (by omega)
    have zc := hz 1 0 (by omega) (by omega)
    have zd := hz 1 2 (by omega) (by omega)
    have ze := hz 2 0 (by omega) (by omega)
    have zf := hz 2 1 (by omega) (by omega)
    have pdf := prod_in zd.1 zd.2 zf.1 zf.2
    have pbf := prod_in zb.1 zb.2 zf.1 zf.2
    have pad := prod_in za.1 za.2 zd.1 zd.2
    have pde := prod_in zd.1 zd.2 ze.1 ze.2
    have pbe := prod_in zb.1 zb.2 ze.1 ze.2
    have pbc := prod_in zb.1 zb.2 zc.1 zc.2
    have pcf := prod_in zc.1 zc.2 zf.1 zf.2
    have pae := prod_in za.1 za.2 ze.1 ze.2
    have pac := prod_in za.1 za.2 zc.1 zc.2
    simp only [sm] at G0 G1 G2
    rcases (by omega : i = 0 ∨ i = 1 ∨ i = 2) with rfl | rfl | rfl
    · exact shOk_comb hT (by omega) (w3 z) ⟨by omega, by omega⟩ ⟨by omega, by omega⟩ ⟨by omega, by omega⟩ (hg 0 (by omega)) (hg 1 (by omega)) (hg 2 (by omega)) (by rw [G0, G1, G2, e0, e1, e2]; grind) hD
    · exact shOk_comb hT (by omega) (w3b z) ⟨by omega, by omega⟩ ⟨by omega, by omega⟩ ⟨by omega, by omega⟩ (hg 0 (by omega)) (hg 1 (by omega)) (hg 2 (by omega)) (by rw [G0, G1, G2, e0, e1, e2]; grind) hD
    · exact shOk_comb hT (by omega) (w3c z) ⟨by omega, by omega⟩ ⟨by omega, by omega⟩ ⟨by omega, by omega⟩ (hg 0 (by omega)) (hg 1 (by omega)) (hg 2 (by omega)) (by rw [G0, G1, G2, e0, e1, e2]; grind) hD
#print axioms cm_full
end Go.Proofs.Ytjlniinahfgakaa
