/- The program's iterator over open hours: what it hands over, whatever the loop's body that keeps what lay below n0. -/
import Derived.Test.YtogolmbgboihdaaOb
namespace Go.Proofs.Ytogolmbgboihdaa
open Go Go.RowKit Go.Shelf
attribute [local go_sem] Oper.semAt_some
set_option linter.unusedVariables false
set_option linter.unusedSimpArgs false

/-- Whatever lay below N, but for the blocks from lo to hi, lies as it lay. -/
structure KS (lo hi N : Nat) (W W' : World) : Prop where
  os : W'.os = W.os
  tape : W'.tape = W.tape
  output : W'.output = W.output
  size : W.heap.size ≤ W'.heap.size
  block : ∀ k, k < N → k < lo ∨ hi ≤ k → W'.heap[k]? = W.heap[k]?

theorem KS.refl (lo hi N : Nat) (W : World) : KS lo hi N W W := ⟨rfl, rfl, rfl, Nat.le_refl _, fun _ _ _ => rfl⟩
theorem KS.trans {lo hi N : Nat} {A B C : World} (h : KS lo hi N A B) (k : KS lo hi N B C) : KS lo hi N A C :=
  ⟨k.os.trans h.os, k.tape.trans h.tape, k.output.trans h.output, Nat.le_trans h.size k.size, fun j hj hl => (k.block j hj hl).trans (h.block j hj hl)⟩
theorem KS.of_below {lo hi N : Nat} {A B : World} (h : Below A.heap.size A B) (hN : N ≤ A.heap.size) : KS lo hi N A B :=
  ⟨h.os, h.tape, h.output, h.size, fun k hk _ => h.block k (by omega)⟩
theorem KS.set {lo hi N b o : Nat} {W : World} (h1 : lo ≤ b) (h2 : b < hi) (v : Value) : KS lo hi N W (W.setCell ⟨b, o, none⟩ v) :=
  ⟨rfl, rfl, rfl, by simp [World.setCell], fun k hk hl => Below.heap_setCell _ _ _ _ (by simp; omega)⟩
theorem KS.put {lo hi N : Nat} (W : World) (l : Nat) (o o' : Obj) (hl : N ≤ l) (h : W.heap[l]? = some o) : KS lo hi N W (W.putObj l o') := by
  have hg := grownBy_putObj' W l o'
  have hlt : l < W.heap.size := (Array.getElem?_eq_some_iff.1 h).1
  exact ⟨hg.os, hg.tape, hg.output, hg.size, fun k hk _ => hg.block k (by omega) (fun e => by cases e; omega)⟩
theorem KS.cell {lo hi N b o : Nat} {W W' : World} (h : KS lo hi N W W') (hb : b < N) (hl : b < lo ∨ hi ≤ b) : W'.cell? ⟨b, o, none⟩ = W.cell? ⟨b, o, none⟩ := World.cell?_of_block (w := W) (h.block b hb hl)

theorem grown_of {W W' : World} (b : Below W.heap.size W W') : W.grownBy W' none := ⟨b.os, b.tape, b.output, b.size, fun k hk _ => b.block k hk⟩


theorem ol_len (o s : Int) : ∀ f h, (ol o s f h).length ≤ f
  | 0, h => Nat.le_refl 0
  | f + 1, h => by
    have := ol_len o s f (h + 1)
    unfold ol
    split
    · simp; omega
    · omega
set_option maxRecDepth 100000 in
set_option maxHeartbeats 4000000 in
theorem hours_in (n : Nat) (hn : 1 ≤ n) (l lo hi n₀ b1 b2 : Nat) (from_ x0 x1 x2 : Int) (J Jx : List Int → World → Prop) (W : World)
    (f0 : 0 ≤ from_) (f1 : from_ ≤ 5000) (hn₀ : n₀ ≤ W.heap.size)
    (hm : ∀ W', KS lo hi n₀ W W' → W'.cell? ⟨b1, 0, none⟩ = some (.int .i64 from_) ∧ W'.cell? ⟨b2, 0, none⟩ = some (.int .i64 x0) ∧ W'.cell? ⟨b2, 1, none⟩ = some (.int .i64 x1) ∧ W'.cell? ⟨b2, 2, none⟩ = some (.int .i64 x2))
    (hJ : AbidesFrom W.heap.size J)
    (hY : ∀ pre x W, J pre W → pre.length < (ol x0 x1 (far from_) from_).length → YieldAt Fence.wide (n - 1) Try.prog l #[.int .i64 x] W fun e W' =>
      (e = .returned (.bool true) ∧ J (pre ++ [x]) W' ∧ KS lo hi n₀ W W') ∨ (e = .returned (.bool false) ∧ Jx (pre ++ [x]) W'))
    (h0 : J [] W) :
    CallsIn Fence.wide n Try.prog 105 #[.func (.yield l) #[] #[], .pointer (some ⟨b1, 0, none⟩), .pointer (some ⟨b2, 0, none⟩)] W fun e W' => (∃ v, e = .returned v) ∧
      ((∃ ys, ys = ol x0 x1 (far from_) from_ ∧ J ys W') ∨ (∃ pre, pre <+: ol x0 x1 (far from_) from_ ∧ Jx pre W')) := by
  refine callsIn_of_wp Try.func105 rfl trivial ?_ rfl
  simp only [Try.ntmps105, List.size_toArray, List.length_cons, List.length_nil, Nat.reduceAdd, Nat.reduceSub, Array.replicate_succ, Array.replicate_zero, List.push_toArray, List.append_toArray, List.nil_append, List.cons_append]
  obtain ⟨m1, m2, m3, m4⟩ := hm W (KS.refl _ _ _ _)
  have HM : Hid (∀ W', KS lo hi n₀ W W' → W'.cell? ⟨b1, 0, none⟩ = some (.int .i64 from_) ∧ W'.cell? ⟨b2, 0, none⟩ = some (.int .i64 x0) ∧ W'.cell? ⟨b2, 1, none⟩ = some (.int .i64 x1) ∧ W'.cell? ⟨b2, 2, none⟩ = some (.int .i64 x2)) := hm
  clear hm m2 m3 m4
  gi_wp2
  gi_loopw [4] (fun p wr => ∃ (D : Int) (pre : List Int), p = .int .i64 D ∧ 0 ≤ D ∧ D ≤ 5001 ∧ Hid (ol x0 x1 (far from_) from_ = pre ++ ol x0 x1 (far D) D) ∧ J pre wr ∧ KS lo hi n₀ W wr) (fun p _ => (5001 - intOf p).toNat)
  case atStart => exact ⟨from_, [], rfl, f0, by omega, rfl, h0, KS.refl _ _ _ _⟩
  case round =>
    obtain ⟨D, pre, rfl, D0, D1, hx, hJs, hB⟩ := hrel
    obtain ⟨m1, m2, m3, m4⟩ := HM.out wr hB
    have HB : Hid (KS lo hi n₀ W wr) := hB
    have HJ : Hid (J pre wr) := hJs
    clear hB hJs
    by_cases hd : D ≤ 5000
    · have hsz : n₀ ≤ wr.heap.size := Nat.le_trans hn₀ HB.out.size
      rcases hw : opB x0 x1 D
      · have hx2 : Hid (ol x0 x1 (far from_) from_ = pre ++ ol x0 x1 (far (D + 1)) (D + 1)) := by unfold Hid; rw [hx.out, ol_s hd hw]
        have HW : Hid (opB x0 x1 D = false) := hw
        clear hw
        gi_wp2_with (first
          | (refine ⟨trivial, ?_⟩; gi_at_call 106; refine (callsIn_wide.2 (isOpenAt_eq x0 x1 x2 D false _ D0 D1 HW.out)).mono ?_; rintro e w2 ⟨rfl, b2⟩; have HB2 : Hid (KS lo hi n₀ W w2) := HB.out.trans (KS.of_below b2 hsz); have HJ2 : Hid (J pre w2) := hJ _ _ _ _ HJ.out (grown_of b2) (fun r e => by cases e); clear b2))
        refine ⟨fun _ h => (by cases h), ?_⟩
        gi_wp2
        go_roundw
        case rel => exact ⟨D + 1, pre, by go_num, by omega, by omega, hx2, HJ2.out, HB2.out⟩
        case measure => simp [intOf]; omega
      · have hx2 : Hid (ol x0 x1 (far from_) from_ = (pre ++ [D]) ++ ol x0 x1 (far (D + 1)) (D + 1)) := by unfold Hid; rw [hx.out, ol_o hd hw]; simp
        have hlen : pre.length < (ol x0 x1 (far from_) from_).length := by rw [hx2.out]; simp
        have HW : Hid (opB x0 x1 D = true) := hw
        clear hw
        gi_wp2_with (first
          | (refine ⟨trivial, ?_⟩; gi_at_call 106; refine (callsIn_wide.2 (isOpenAt_eq x0 x1 x2 D true _ D0 D1 HW.out)).mono ?_; rintro e w2 ⟨rfl, b2⟩; have HB2 : Hid (KS lo hi n₀ W w2) := HB.out.trans (KS.of_below b2 hsz); have HJ2 : Hid (J pre w2) := hJ _ _ _ _ HJ.out (grown_of b2) (fun r e => by cases e); obtain ⟨fn, tmps, assign, body, hy, hR⟩ := hY pre D w2 HJ2.out hlen; clear b2))
        refine hR.mono ?_
        rintro e W3 (⟨rfl, hJ3, hk3⟩ | ⟨rfl, hJx3⟩)
        · have HB3 : Hid (KS lo hi n₀ W W3) := HB2.out.trans hk3
          have HJ3 : Hid (J (pre ++ [D]) W3) := hJ3
          clear hk3 hJ3
          gi_wp2
          go_roundw
          case rel => exact ⟨D + 1, pre ++ [D], by go_num, by omega, by omega, hx2, HJ3.out, HB3.out⟩
          case measure => simp [intOf]; omega
        · have HJ3 : Hid (Jx (pre ++ [D]) W3) := hJx3
          clear hJx3
          gi_wp2
          refine bodyPost_ret (results_none rfl _ _ _) rfl ?_
          exact ⟨⟨_, rfl⟩, .inr ⟨pre ++ [D], ⟨_, hx2.out.symm⟩, HJ3.out⟩⟩
    · have HF : Hid (pre = ol x0 x1 (far from_) from_) := by unfold Hid; rw [hx.out, ol_end hd]; simp
      gi_wp2
      go_end0
      exact ⟨⟨_, rfl⟩, .inl (by first | (rw [← HF.out]; exact HJ.out) | exact ⟨pre, HF.out, HJ.out⟩)⟩
end Go.Proofs.Ytogolmbgboihdaa
