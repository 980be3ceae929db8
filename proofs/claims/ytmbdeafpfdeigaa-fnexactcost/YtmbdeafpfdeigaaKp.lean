/- Prices: the program's closure over them; what an item costs beside its parts. -/
import Derived.Test.YtmbdeafpfdeigaaKh
import Derived.Test.YtmbdeafpfdeigaaAg
namespace Go.Proofs.Ytmbdeafpfdeigaa
open Go Go.ChangeShapes Go.WideShapes Go.ChangeAt Go.RowKit
set_option linter.unusedVariables false
set_option linter.unusedSimpArgs false

/-- Whether the first m are prices. -/
def prB (z : Nat → Int) : Nat → Bool
  | 0 => true
  | k + 1 => prB z k && inB (z k) 0 100000
theorem prB_p {z : Nat → Int} : ∀ m, prB z m = true → ∀ j, j < m → 0 ≤ z j ∧ z j ≤ 100000
  | 0, _, j, hj => by omega
  | m + 1, h, j, hj => by
    simp only [prB, Bool.and_eq_true] at h
    by_cases e : j = m
    · subst e; exact inB_t h.2
    · exact prB_p m h.1 j (by omega)
theorem prB_t {z : Nat → Int} : ∀ m, (∀ j, j < m → inB (z j) 0 100000 = true) → prB z m = true
  | 0, _ => rfl
  | m + 1, h => by simp only [prB, Bool.and_eq_true]; exact ⟨prB_t m (fun j hj => h j (by omega)), h m (by omega)⟩
theorem prB_f {z : Nat → Int} {k : Nat} : ∀ m, k < m → inB (z k) 0 100000 = false → prB z m = false
  | 0, h, _ => by omega
  | m + 1, h, h1 => by
    by_cases e : k = m
    · subst e; simp [prB, h1]
    · show (prB z m && _) = false
      rw [prB_f m (by omega) h1]; rfl
theorem pr_rg {z : Nat → Int} : ∀ m, rgB 100000 z m = prB z m
  | 0 => rfl
  | m + 1 => by simp only [rgB, prB]; rw [pr_rg m]
theorem arePr_eq (ad : Option Addr) (len cap : Nat) (c : Nat → Int) (v : Bool) (w : World) (h : (len : Int) ≤ 1048576) (hr : IR w ad len c) (hv : prB c len = v) :
    Calls Try.prog 62 #[.slice ad len cap, .func (.func 63) #[] #[]] w fun e w' => e = .returned (.bool v) ∧ Below w.heap.size w w' :=
  allPr_eq ad len cap c v w h hr ((pr_rg len).trans hv)

/-- What the first r come to at their prices, but the one at i. -/
def osF (O z : Nat → Int) (i : Nat) : Nat → Int
  | 0 => 0
  | r + 1 => if r = i then osF O z i r else osF O z i r + O r * z r
theorem osF_bd {O z : Nat → Int} {i n : Nat} (hO : FQ O) (hz : ∀ j, j < n → 0 ≤ z j ∧ z j ≤ 100000) : ∀ r, r ≤ n → 0 ≤ osF O z i r ∧ osF O z i r ≤ 100000000000 * (r : Int)
  | 0, _ => by simp [osF]
  | r + 1, h => by
    have ih := osF_bd (i := i) hO hz r (by omega)
    have h1 := hO r
    have h2 := hz r (by omega)
    have p0 : 0 ≤ O r * z r := Int.mul_nonneg h1.1 h2.1
    have p1 : O r * z r ≤ 1000000 * 100000 := Int.le_trans (Int.mul_le_mul_of_nonneg_right h1.2 h2.1) (Int.mul_le_mul_of_nonneg_left h2.2 (by omega))
    unfold osF
    split <;> omega
def ocB (n : Nat) (c : Nat → IT) (d : Int) (i : Nat) (x : Int) : Bool := if 0 < cnN (c i).parz d (c i).parn then ouB n c d i x else true
def ocV (n : Nat) (c : Nat → IT) (d : Int) (z : Nat → Int) (i : Nat) (x : Int) : Int := if 0 < cnN (c i).parz d (c i).parn then - osF (ouF n c d i x) z i n else x * z i
def csV (n : Nat) (c : Nat → IT) (d : Int) (z E : Nat → Int) : Nat → Int
  | 0 => 0
  | k + 1 => csV n c d z E k + ocV n c d z k (E k)
def csB (n : Nat) (c : Nat → IT) (d : Int) (E : Nat → Int) : Nat → Bool
  | 0 => true
  | k + 1 => csB n c d E k && ocB n c d k (E k)
theorem csB_mono {n : Nat} {c : Nat → IT} {d : Int} {E : Nat → Int} {k : Nat} : ∀ m, k ≤ m → csB n c d E k = false → csB n c d E m = false
  | 0, h, h1 => by obtain rfl : k = 0 := by omega
                   exact h1
  | m + 1, h, h1 => by
    by_cases e : k = m + 1
    · subst e; exact h1
    · show (csB n c d E m && _) = false
      rw [csB_mono m (by omega) h1]; rfl
theorem ouF_q {n : Nat} {c : Nat → IT} {d : Int} {i : Nat} {x : Int} (h : ouB n c d i x = true) : FQ (ouF n c d i x) := by
  unfold ouB brB at h
  unfold ouF brF
  simp only [Bool.and_eq_true] at h
  have := inB_t h.1
  exact exF_q (z0_q.up i this.1 this.2) _ h.2
theorem ocV_bd {n : Nat} {c : Nat → IT} {d : Int} {z : Nat → Int} {i : Nat} {x : Int} (hn : (n : Int) ≤ 60) (hi : i < n) (hx : 0 ≤ x ∧ x ≤ 1000000) (hz : ∀ j, j < n → 0 ≤ z j ∧ z j ≤ 100000) (h : ocB n c d i x = true) : -6000000000000 ≤ ocV n c d z i x ∧ ocV n c d z i x ≤ 100000000000 := by
  unfold ocB at h
  unfold ocV
  split
  · rename_i g
    rw [if_pos g] at h
    have := osF_bd (i := i) (ouF_q h) hz n (Nat.le_refl _)
    omega
  · have h2 := hz i hi
    have p0 : 0 ≤ x * z i := Int.mul_nonneg hx.1 h2.1
    have p1 : x * z i ≤ 1000000 * 100000 := Int.le_trans (Int.mul_le_mul_of_nonneg_right hx.2 h2.1) (Int.mul_le_mul_of_nonneg_left h2.2 (by omega))
    omega
theorem csV_bd {n : Nat} {c : Nat → IT} {d : Int} {z E : Nat → Int} (hn : (n : Int) ≤ 60) (hE : FQ E) (hz : ∀ j, j < n → 0 ≤ z j ∧ z j ≤ 100000) : ∀ k, k ≤ n → csB n c d E k = true → -6000000000000 * (k : Int) ≤ csV n c d z E k ∧ csV n c d z E k ≤ 100000000000 * (k : Int)
  | 0, _, _ => by simp [csV]
  | k + 1, h, hb => by
    simp only [csB, Bool.and_eq_true] at hb
    have ih := csV_bd hn hE hz k (by omega) hb.1
    have := ocV_bd hn (show k < n by omega) (hE k) hz hb.2
    unfold csV
    omega
theorem akB_i {n : Nat} {c : Nat → IT} {a q d : Int} (h : akB n c a q d = true) {i : Nat} (hi : i < n) {x : Int} (hx : 0 ≤ x ∧ x ≤ 1000000) : akB n c (i : Int) x d = true := by
  obtain ⟨h1, _, _, h4⟩ := akB_p h
  unfold akB
  simp only [Bool.and_eq_true]
  exact ⟨⟨⟨h1, decide_eq_true (by omega)⟩, decide_eq_true hx⟩, decide_eq_true h4⟩
theorem rk_ou {n : Nat} {c : Nat → IT} {a q d : Int} (h : akB n c a q d = true) {i : Nat} (hi : i < n) {x : Int} (hx : 0 ≤ x ∧ x ≤ 1000000) : rkB ouB n c (i : Int) x d = ouB n c d i x ∧ rkM ouB n c (i : Int) x d = if ouB n c d i x = true then n else 0 := by
  have e : rkB ouB n c (i : Int) x d = ouB n c d i x := by unfold rkB; rw [akB_i h hi hx, Int.toNat_natCast]; rfl
  exact ⟨e, by unfold rkM; rw [e]⟩

set_option maxRecDepth 20000 in
set_option maxHeartbeats 8000000 in
theorem ownCost_any (ad ap : Option Addr) (n cap pc : Nat) (c : Nat → IT) (z : Nat → Int) (a q d : Int) (i : Nat) (x : Int) (w : World) (hz : IZ n c) (hr : ITr w ad n c) (hp : IR w ap n z) (hak : akB n c a q d = true) (hi : i < n) (hx : 0 ≤ x ∧ x ≤ 1000000) (hzb : ∀ j, j < n → 0 ≤ z j ∧ z j ≤ 100000) :
    Calls Try.prog 64 #[.slice ad n cap, .slice ap n pc, .int .i64 (i : Int), .int .i64 x, .int .i64 d] w fun e w' => ∃ v, e = .returned (.tuple #[.int .i64 v, .bool (ocB n c d i x)]) ∧ (ocB n c d i x = true → v = ocV n c d z i x) ∧ Below w.heap.size w w' := by
  obtain ⟨hI, _, _, _⟩ := akB_p hak
  have hn60 : (n : Int) ≤ 60 := by have := (isB_p hI).1; omega
  have hi2 : (i : Int) < (n : Int) := by omega
  obtain ⟨g1, g2, g3, g4, g5⟩ := isB_it hI hi
  obtain ⟨kb, off, rfl, hkb⟩ := hr.addr (by omega)
  obtain ⟨pb, po, rfl, hpb⟩ := hp.addr (by omega)
  obtain ⟨ra, rc, sa, sc, _, _, c0, c1, c2, c3, c4, r5, r6⟩ := hr.cell hi
  have HMK : Hid (Calls Try.prog 108 #[.agg #[.string (c i).name, .int .i64 (c i).batch, .bool (c i).pha, .slice ra (c i).parn rc, .slice sa (c i).alsn sc], .int .i64 d] w fun e w' => e = .returned (.bool (decide (0 < cnN (c i).parz d (c i).parn))) ∧ Below w.heap.size w w') := hid (isMade_any _ _ _ ra _ rc (c i).parz sa _ sc d w (by omega) r5 (fun j hj => (g4 j hj).1.2.2.2))
  have HOU : Hid (∀ W, Below w.heap.size w W → Calls Try.prog 45 #[.slice (some ⟨kb, off, none⟩) n cap, .int .i64 (i : Int), .int .i64 x, .int .i64 d] W fun e w' => ∃ ad cap, e = .returned (.tuple #[.slice ad (if ouB n c d i x = true then n else 0) cap, .bool (ouB n c d i x)]) ∧ OwnI w' W.heap.size ad (if ouB n c d i x = true then n else 0) (ouF n c d i x) ∧ Below W.heap.size W w') := hid (fun W b => by
    have := implOutput_any (some ⟨kb, off, none⟩) n cap c (i : Int) x d W (by omega) hz (hr.below b)
    rw [(rk_ou hak hi hx).1, (rk_ou hak hi hx).2, Int.toNat_natCast] at this
    exact this)
  have HP : Hid (IR w (some ⟨pb, po, none⟩) n z) := hp
  have HZB : Hid (∀ j, j < n → 0 ≤ z j ∧ z j ≤ 100000) := hzb
  unfold ocB ocV
  have HOQ : Hid (ouB n c d i x = true → FQ (ouF n c d i x)) := hid ouF_q
  generalize cnN (c i).parz d (c i).parn = N at HMK ⊢
  generalize ouB n c d i x = OB at HOU HOQ ⊢
  generalize ouF n c d i x = O at HOU HOQ ⊢
  have hzi := hzb i hi
  have cp := HP.out.cell hi
  have HZI : Hid (∃ Z, z i = Z) := ⟨_, rfl⟩
  clear hp hr hz hzb g1 g2 g3 g4 g5 r5 r6 hI hak
  generalize (c i).name = nm at *
  generalize (c i).batch = ba at *
  generalize (c i).pha = ph at *
  generalize (c i).parn = rn at *
  generalize (c i).alsn = sn at *
  by_cases hm : 0 < N
  · have dm : decide (0 < N) = true := decide_eq_true hm
    rw [dm] at HMK
    rw [if_pos hm, if_pos hm]
    clear dm hzi cp HZI
    cases OB
    · have HO2 : Hid (∀ W, Below w.heap.size w W → Calls Try.prog 45 #[.slice (some ⟨kb, off, none⟩) n cap, .int .i64 (i : Int), .int .i64 x, .int .i64 d] W fun e w' => ∃ ad cap, e = .returned (.tuple #[.slice ad 0 cap, .bool false]) ∧ Below W.heap.size W w') := hid (fun W b => (HOU.out W b).mono (by rintro e w' ⟨x1, x2, x3, _, x4⟩; exact ⟨x1, x2, x3, x4⟩))
      clear HOU
      go_enter Try.func64, Try.ntmps64
      go_wp2_with (first
        | (go_at_call 108; refine HMK.out.mono ?_; rintro e w1 ⟨rfl, b1⟩; have HB1 : Hid (Below w.heap.size w w1) := b1; clear b1)
        | (go_at_call 45; refine (HO2.out _ HB1.out).mono ?_; rintro e w2 ⟨oa, ob, rfl, b2⟩; have HB2 : Hid (Below w.heap.size w w2) := hid (bel_on HB1.out b2); clear b2))
      go_loopw [14, 40] (fun u v wr => u = .int .i64 0 ∧ v = .int .i64 0 ∧ Hid (Below w.heap.size w wr)) (fun _ _ _ => 0)
      case atStart => exact ⟨rfl, rfl, HB2⟩
      case round =>
        obtain ⟨rfl, rfl, HB⟩ := hrel
        go_wp2
        go_returns
        first | exact ⟨_, rfl, (fun h => by cases h), HB.out⟩ | exact ⟨_, rfl, HB.out⟩
    · have HQ : Hid (FQ O) := hid (HOQ.out rfl)
      have HO2 : Hid (∀ W, Below w.heap.size w W → Calls Try.prog 45 #[.slice (some ⟨kb, off, none⟩) n cap, .int .i64 (i : Int), .int .i64 x, .int .i64 d] W fun e w' => ∃ ad cap, e = .returned (.tuple #[.slice ad n cap, .bool true]) ∧ OwnI w' W.heap.size ad n O ∧ Below W.heap.size W w') := HOU
      clear HOU HOQ
      go_enter Try.func64, Try.ntmps64
      go_wp2_with (first
        | (go_at_call 108; refine HMK.out.mono ?_; rintro e w1 ⟨rfl, b1⟩; have HB1 : Hid (Below w.heap.size w w1) := b1; clear b1)
        | (go_at_call 45; refine (HO2.out _ HB1.out).mono ?_; rintro e w2 ⟨oa, ob, rfl, o2, b2⟩; have HB2 : Hid (Below w.heap.size w w2 ∧ IR w2 oa n O) := hid ⟨bel_on HB1.out b2, o2.row⟩; clear o2 b2))
      clear HMK HO2
      go_loopw [14, 40] (fun u v wr => ∃ k : Nat, k ≤ n ∧ u = .int .i64 (- osF O z i k) ∧ v = .int .i64 (k : Int) ∧ Hid (Below w.heap.size w wr ∧ IR wr oa n O)) (fun _ v _ => n - (intOf v).toNat)
      case atStart => exact ⟨0, Nat.zero_le _, rfl, rfl, HB2⟩
      case round =>
        obtain ⟨k, hk, rfl, rfl, HB⟩ := hrel
        obtain ⟨wo, rfl⟩ : ∃ x, x = wr := ⟨wr, rfl⟩
        by_cases hlt : k < n
        · have hlt2 : (k : Int) < (n : Int) := by omega
          obtain ⟨kc, of2, rfl, _⟩ := HB.out.2.addr (by omega)
          have k0 := HB.out.2.cell hlt
          have k1 := (HP.out.below HB.out.1).cell hlt
          have s0 := osF_bd (i := i) HQ.out HZB.out k (by omega)
          have q0 := HQ.out k
          have q1 := HZB.out k hlt
          have p0 : 0 ≤ O k * z k := Int.mul_nonneg q0.1 q1.1
          have p1 : O k * z k ≤ 1000000 * 100000 := Int.le_trans (Int.mul_le_mul_of_nonneg_right q0.2 q1.1) (Int.mul_le_mul_of_nonneg_left q1.2 (by omega))
          have HSV : Hid (osF O z i (k + 1) = if k = i then osF O z i k else osF O z i k + O k * z k) := rfl
          generalize osF O z i k = SS at *
          generalize O k = OK at *
          generalize z k = ZK at *
          have hw1 : IntKind.i64.wrap (OK * ZK) = OK * ZK := IntWalk.i64_in _ ⟨by omega, by omega⟩
          have hw2 : IntKind.i64.wrap (-SS - OK * ZK) = -SS - OK * ZK := IntWalk.i64_in _ ⟨by omega, by omega⟩
          by_cases hki : k = i
          · rw [if_pos hki] at HSV
            subst hki
            have hki2 : ((k : Int) != (k : Int)) = false := by simp
            go_wp2
            go_roundw
            case rel => exact ⟨k + 1, by omega, by rw [HSV.out], by go_num, HB⟩
            case measure => simp [intOf]; omega
          · rw [if_neg hki] at HSV
            have hki2 : ((k : Int) != (i : Int)) = true := by simp; omega
            have hki3 : ¬ (k : Int) = (i : Int) := by omega
            go_wp2
            go_roundw
            case rel => exact ⟨k + 1, by omega, by rw [HSV.out]; congr 1; omega, by go_num, HB⟩
            case measure => simp [intOf]; omega
        · obtain rfl : k = n := by omega
          have lkk : ¬ (k : Int) < (k : Int) := by omega
          go_wp2
          go_returns
          first | exact ⟨_, rfl, (fun _ => rfl), HB.out.1⟩ | exact ⟨_, rfl, rfl, HB.out.1⟩
  · have dm : decide (0 < N) = false := decide_eq_false hm
    rw [dm] at HMK
    rw [if_neg hm, if_neg hm]
    clear dm HOU HOQ HZI
    have p0 : 0 ≤ x * z i := Int.mul_nonneg hx.1 hzi.1
    have p1 : x * z i ≤ 1000000 * 100000 := Int.le_trans (Int.mul_le_mul_of_nonneg_right hx.2 hzi.1) (Int.mul_le_mul_of_nonneg_left hzi.2 (by omega))
    have HPC : Hid (∀ W, Below w.heap.size w W → W.cell? ⟨pb, po + i, none⟩ = some (.int .i64 (z i))) := hid (fun W b => (HP.out.below b).cell hi)
    generalize z i = ZI at *
    have hw1 : IntKind.i64.wrap (x * ZI) = x * ZI := IntWalk.i64_in _ ⟨by omega, by omega⟩
    go_enter Try.func64, Try.ntmps64
    go_wp2_with (go_at_call 108; refine HMK.out.mono ?_; rintro e w1 ⟨rfl, b1⟩; have HB1 : Hid (Below w.heap.size w w1) := b1; have k9 := HPC.out w1 b1; clear b1)
    go_returns
    first | exact ⟨_, rfl, (fun _ => rfl), HB1.out⟩ | exact ⟨_, rfl, rfl, HB1.out⟩
end Go.Proofs.Ytmbdeafpfdeigaa
