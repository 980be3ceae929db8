/- The built-in copy over elements of several cells. Nothing of the program. What lies in a span of blocks, and what leaves it. Nothing of the program. Rows of entries that grow: the list of their cells. Nothing of the program. -/
import Derived.Laws.CopyOwn
import Derived.Test.YtapailihjlfkgaaDoorOw
import Derived.Maps.AppendAt
import Derived.Laws.OwnMore
namespace Go.Proofs.YtapailihjlfkgaaDoor
open Go Go.RowKit
set_option linter.unusedVariables false

theorem run_copy_sized {P : Program} (w : World) (dT sT ty elem : TypeId) (s g o dLen dCap : Nat) (a : Addr) (sLen sCap : Nat) (cur : Array Value) (t : TypeId) (cs : List Value)
    (hu : P.underlying dT = some (.slice elem)) (hs : (P.info? elem).map (·.size) = some s)
    (hg : w.heap[g]? = some (.cells cur t (0, 0))) (hn : cs.length = Nat.min sLen dLen * s)
    (hsrc : ∀ j v, cs[j]? = some v → w.cell? (a.add j) = some v) (hfit : o + cs.length ≤ cur.size) (h1 : ∀ v ∈ cs, v.oneCell' = true) :
    (Builtin.copy_ #[dT, sT] ty #[.slice (some ⟨g, o, none⟩) dLen dCap, .slice (some a) sLen sCap]).run P w =
      .ok (goInt (Nat.min sLen dLen)) (w.setRow g (cur.toList.take o ++ cs ++ cur.toList.drop (o + cs.length)).toArray) := by
  have hl := run_loadCells_list (P := P) w a cs hsrc
  have hst := run_storeCells_at P g o t cs 0 cur w hg (by simpa using hfit) h1
  cases hq : P.info? elem with
  | none => simp [hq] at hs
  | some i =>
    have hi : i.size = s := by simpa [hq] using hs
    rw [hn] at hl
    simp [Builtin.copy_, run_underlying hu, Builtin.lenOf, Builtin.firstCells, sizeOf, typeInfo, hq, hi, hl, hst]

/-- A whole row goes over into a new row of as many elements. -/
theorem wpList_copy_sized {P : Program} {w : World} {ops : Array Oper} {rest : List Oper} {o : Oper} {a : Act} {Q : Exit → Act → World → Prop} (hgd : o.guard = none) (d s : Operand) (dT sT : TypeId)
    (ho : o.op = .call { callee := .builtin .copy, args := #[d, s], argTypes := #[dT, sT] }) (elem : TypeId) (sz : Nat) (hu : P.underlying dT = some (.slice elem)) (hsz : (P.info? elem).map (·.size) = some sz)
    (g n dCap sCap : Nat) (ad : Addr) (hd : a.eval d = .slice (some ⟨g, 0, none⟩) n dCap) (hs : a.eval s = .slice (some ad) n sCap)
    (cur : Array Value) (t : TypeId) (hg : w.heap[g]? = some (.cells cur t (0, 0))) (cs : List Value) (hn : cs.length = n * sz)
    (hsrc : ∀ j v, cs[j]? = some v → w.cell? (ad.add j) = some v) (hfit : cur.size = n * sz) (h1 : ∀ v ∈ cs, v.oneCell' = true)
    (h : wpList P ops Q rest (a.put o.dst (goInt n)) (w.setRow g cs.toArray)) : wpList P ops Q (o :: rest) a w := by
  refine wpList_plain hgd fun K hK => ?_
  have hrun := run_copy_sized (P := P) w dT sT o.type elem sz g 0 n dCap ad n sCap cur t cs hu hsz hg (by simpa using hn) hsrc (by omega) h1
  have e : (cur.toList.take 0 ++ cs ++ cur.toList.drop (0 + cs.length)).toArray = cs.toArray := by
    have : cur.toList.drop (0 + cs.length) = [] := by apply List.drop_eq_nil_of_le; simp; omega
    rw [this]; simp
  rw [e] at hrun
  have em : Nat.min n n = n := Nat.min_self n
  rw [em] at hrun
  unfold Oper.wp
  simp [execOp, ho, resolve, invoke, builtin, hd, hs, hrun, Result.andThen]
  exact hK _ _ h
theorem wpList_copy_sized0 {P : Program} {w : World} {ops : Array Oper} {rest : List Oper} {o : Oper} {a : Act} {Q : Exit → Act → World → Prop} (hgd : o.guard = none) (d s : Operand) (dT sT : TypeId)
    (ho : o.op = .call { callee := .builtin .copy, args := #[d, s], argTypes := #[dT, sT] }) (elem : TypeId) (sz : Nat) (hu : P.underlying dT = some (.slice elem)) (hsz : (P.info? elem).map (·.size) = some sz)
    (dp sp : Option Addr) (dCap sCap : Nat) (hd : a.eval d = .slice dp 0 dCap) (hs : a.eval s = .slice sp 0 sCap)
    (h : wpList P ops Q rest (a.put o.dst (goInt 0)) w) : wpList P ops Q (o :: rest) a w := by
  refine wpList_plain hgd fun K hK => ?_
  have hrun : (Builtin.copy_ #[dT, sT] o.type #[.slice dp 0 dCap, .slice sp 0 sCap]).run P w = .ok (goInt 0) w := by
    cases hq : P.info? elem with
    | none => simp [hq] at hsz
    | some i =>
      have hl : ∀ (x : Addr), (loadCells x 0).run P w = .ok #[] w := fun x => by simpa using run_loadCells_list (P := P) w x [] (by simp)
      cases dp <;> cases sp <;> simp [Builtin.copy_, run_underlying hu, Builtin.lenOf, Builtin.firstCells, sizeOf, typeInfo, hq, storeCells, hl]
  unfold Oper.wp
  simp [execOp, ho, resolve, invoke, builtin, hd, hs, hrun, Result.andThen]
  exact hK _ _ h

/-- The cells of the first n lines of a row. -/
def cells5 (l : L5) : List Value := [.int .i64 l.acc, .int .i64 l.dim, .int .i64 l.cur, .int .i64 l.amt, .int .i64 l.base]
def rowC (ls : Nat → L5) : Nat → List Value
  | 0 => []
  | k + 1 => rowC ls k ++ cells5 (ls k)
theorem rowC_len (ls : Nat → L5) : ∀ n, (rowC ls n).length = n * 5
  | 0 => rfl
  | n + 1 => by simp [rowC, rowC_len ls n, cells5]; omega
theorem rowC_one (ls : Nat → L5) : ∀ n, ∀ v ∈ rowC ls n, v.oneCell' = true
  | 0, v, h => by simp [rowC] at h
  | n + 1, v, h => by
    simp only [rowC, List.mem_append, cells5, List.mem_cons, List.not_mem_nil, or_false] at h
    rcases h with h | rfl | rfl | rfl | rfl | rfl
    · exact rowC_one ls n v h
    all_goals rfl
theorem rowC_get (ls : Nat → L5) : ∀ n i, i < n → Cells5 (rowC ls n).toArray (i * 5) (ls i)
  | 0, i, h => by omega
  | n + 1, i, h => by
    unfold Cells5
    simp only [List.getElem?_toArray]
    have e := rowC_len ls n
    by_cases hi : i = n
    · subst hi
      simp only [rowC]
      refine ⟨?_, ?_, ?_, ?_, ?_⟩ <;> (rw [List.getElem?_append_right (by omega)]; simp [e, cells5]) <;> (try (rw [show i * 5 + 1 - i * 5 = 1 by omega]; rfl)) <;> (try (rw [show i * 5 + 2 - i * 5 = 2 by omega]; rfl)) <;> (try (rw [show i * 5 + 3 - i * 5 = 3 by omega]; rfl)) <;> (try (rw [show i * 5 + 4 - i * 5 = 4 by omega]; rfl))
    · have h2 := rowC_get ls n i (by omega)
      unfold Cells5 at h2
      simp only [List.getElem?_toArray] at h2
      obtain ⟨a, b, c, d, f⟩ := h2
      simp only [rowC]
      refine ⟨?_, ?_, ?_, ?_, ?_⟩ <;> (rw [List.getElem?_append_left (by omega)]; assumption)
theorem rowC_src {w : World} {k off n : Nat} {ls : Nat → L5} (H : LR w (some ⟨k, off, none⟩) n ls) : ∀ m, m ≤ n → ∀ j v, (rowC ls m)[j]? = some v → w.cell? ((⟨k, off, none⟩ : Addr).add j) = some v
  | 0, _, j, v, h => by simp [rowC] at h
  | m + 1, hm, j, v, h => by
    have e := rowC_len ls m
    have hadd : (⟨k, off, none⟩ : Addr).add j = ⟨k, off + j, none⟩ := by unfold Addr.add; split <;> simp_all
    by_cases hj : j < m * 5
    · simp only [rowC] at h
      rw [List.getElem?_append_left (by omega)] at h
      exact rowC_src H m (by omega) j v h
    · simp only [rowC] at h
      rw [List.getElem?_append_right (by omega), e] at h
      obtain ⟨a, b, c, d, f⟩ := H.cell (j := m) (by omega)
      rw [hadd]
      have hlt : j - m * 5 < 5 := by
        by_cases hq : j - m * 5 < 5
        · exact hq
        · rw [List.getElem?_eq_none (by simp [cells5]; omega)] at h; cases h
      match hq : j - m * 5, hlt with
      | 0, _ => rw [hq] at h; simp [cells5] at h; subst h; rw [show off + j = off + m * 5 by omega]; exact a
      | 1, _ => rw [hq] at h; simp [cells5] at h; subst h; rw [show off + j = off + m * 5 + 1 by omega]; exact b
      | 2, _ => rw [hq] at h; simp [cells5] at h; subst h; rw [show off + j = off + m * 5 + 2 by omega]; exact c
      | 3, _ => rw [hq] at h; simp [cells5] at h; subst h; rw [show off + j = off + m * 5 + 3 by omega]; exact d
      | 4, _ => rw [hq] at h; simp [cells5] at h; subst h; rw [show off + j = off + m * 5 + 4 by omega]; exact f
      | q + 5, hl => omega

end Go.Proofs.YtapailihjlfkgaaDoor


namespace Go.Proofs.YtapailihjlfkgaaDoor
open Go.RowKit
set_option linter.unusedVariables false

/-- Of the blocks that were there only those from lo to below hi may have turned. -/
structure KR (lo hi : Nat) (W W' : World) : Prop where
  os : W'.os = W.os
  tape : W'.tape = W.tape
  output : W'.output = W.output
  size : W.heap.size ≤ W'.heap.size
  block : ∀ k, k < W.heap.size → k < lo ∨ hi ≤ k → W'.heap[k]? = W.heap[k]?
theorem KR.refl (lo hi : Nat) (W : World) : KR lo hi W W := ⟨rfl, rfl, rfl, Nat.le_refl _, fun _ _ _ => rfl⟩
theorem KR.trans {lo hi : Nat} {A B C : World} (h : KR lo hi A B) (k : KR lo hi B C) : KR lo hi A C :=
  ⟨k.os.trans h.os, k.tape.trans h.tape, k.output.trans h.output, Nat.le_trans h.size k.size, fun j hj hl => (k.block j (Nat.lt_of_lt_of_le hj h.size) hl).trans (h.block j hj hl)⟩
theorem KR.of_below {lo hi : Nat} {A B : World} (h : Below A.heap.size A B) : KR lo hi A B := ⟨h.os, h.tape, h.output, h.size, fun k hk _ => h.block k hk⟩
theorem KR.set {lo hi b o : Nat} {A W : World} (h : KR lo hi A W) (h1 : lo ≤ b) (h2 : b < hi) (v : Value) : KR lo hi A (W.setCell ⟨b, o, none⟩ v) :=
  h.trans ⟨rfl, rfl, rfl, by simp [World.setCell], fun k hk hl => Below.heap_setCell _ _ _ _ (by simp; omega)⟩
theorem KR.mono {lo hi lo' hi' : Nat} {A B : World} (h : KR lo hi A B) (h1 : lo' ≤ lo) (h2 : hi ≤ hi') : KR lo' hi' A B :=
  ⟨h.os, h.tape, h.output, h.size, fun k hk hl => h.block k hk (by omega)⟩
theorem KR.to_below {lo hi : Nat} {A B : World} (h : KR lo hi A B) (hl : lo ≤ A.heap.size) : Below lo A B := ⟨h.os, h.tape, h.output, h.size, fun k hk => h.block k (by omega) (.inl hk)⟩
theorem Below.onKR {a : Nat} {lo hi : Nat} {A B C : World} (h : Below a A B) (k : KR lo hi B C) (h1 : a ≤ lo) (h2 : lo ≤ B.heap.size) : Below a A C := h.trans ((k.to_below h2).mono h1)

theorem CB.kr {lo hi b : Nat} {w w' : World} {cs : Array Value} {t : TypeId} (h : CB w b cs t) (k : KR lo hi w w') (hb : b < lo ∨ hi ≤ b) : CB w' b cs t := by
  unfold CB at h ⊢; rw [k.block b (lt_of_block h) hb]; exact h

/-- What is so as long as the blocks below hi lie as they lie. -/
def Loc (hi : Nat) (P : World → Prop) (w : World) : Prop := hi ≤ w.heap.size ∧ ∀ w', hi ≤ w'.heap.size → (∀ k, k < hi → w'.heap[k]? = w.heap[k]?) → P w'
theorem Loc.get {hi : Nat} {P : World → Prop} {w : World} (h : Loc hi P w) : P w := h.2 w h.1 (fun _ _ => rfl)
theorem Loc.below {hi : Nat} {P : World → Prop} {w w' : World} (h : Loc hi P w) (k : Below w.heap.size w w') : Loc hi P w' :=
  ⟨Nat.le_trans h.1 k.size, fun w2 h2 hk => h.2 w2 h2 (fun j hj => (hk j hj).trans (k.block j (Nat.lt_of_lt_of_le hj h.1)))⟩
theorem Loc.kr {hi lo b : Nat} {P : World → Prop} {w w' : World} (h : Loc hi P w) (k : KR lo b w w') (hl : hi ≤ lo) : Loc hi P w' :=
  ⟨Nat.le_trans h.1 k.size, fun w2 h2 hk => h.2 w2 h2 (fun j hj => (hk j hj).trans (k.block j (Nat.lt_of_lt_of_le hj h.1) (.inl (by omega))))⟩

theorem At5.heap {w w' : World} {k o : Nat} {r : L5} (h : At5 w k o r) (hb : w'.heap[k]? = w.heap[k]?) : At5 w' k o r := h.block hb
theorem LR.heap {w w' : World} {ad : Option Addr} {len : Nat} {r : Nat → L5} {hi : Nat} (H : LR w ad len r) (hh : w.heap.size = hi) (h1 : hi ≤ w'.heap.size) (h2 : ∀ k, k < hi → w'.heap[k]? = w.heap[k]?) : LR w' ad len r := by
  rcases H with h | ⟨k, off, e, hk, hc⟩
  · exact .inl h
  · exact .inr ⟨k, off, e, by omega, fun j hj => (hc j hj).block (h2 k (by omega))⟩
theorem ER.heap {w w' : World} {ad : Option Addr} {len : Nat} {r : Nat → E4} {hi : Nat} (H : ER w ad len r) (hh : w.heap.size = hi) (h1 : hi ≤ w'.heap.size) (h2 : ∀ k, k < hi → w'.heap[k]? = w.heap[k]?) : ER w' ad len r := by
  rcases H with h | ⟨k, off, e, hk, hc⟩
  · exact .inl h
  · refine .inr ⟨k, off, e, by omega, fun j hj => ?_⟩
    have c : ∀ o, w'.cell? ⟨k, o, none⟩ = w.cell? ⟨k, o, none⟩ := fun o => World.cell?_of_block (w := w) (h2 k (by omega))
    obtain ⟨x1, x2, x3, ad, cap, x4, x5⟩ := hc j hj
    exact ⟨by rw [c]; exact x1, by rw [c]; exact x2, by rw [c]; exact x3, ad, cap, by rw [c]; exact x4, x5.heap hh h1 h2⟩
theorem LR.loc {w : World} {ad : Option Addr} {len : Nat} {r : Nat → L5} (H : LR w ad len r) : Loc w.heap.size (fun w => LR w ad len r) w := ⟨Nat.le_refl _, fun w' h1 h2 => H.heap rfl h1 h2⟩
theorem ER.loc {w : World} {ad : Option Addr} {len : Nat} {r : Nat → E4} (H : ER w ad len r) : Loc w.heap.size (fun w => ER w ad len r) w := ⟨Nat.le_refl _, fun w' h1 h2 => H.heap rfl h1 h2⟩

theorem OwnL.kr {lo hi b n : Nat} {w w' : World} {ls : Nat → L5} {t : TypeId} (h : OwnL w b n ls t) (k : KR lo hi w w') (hb : b < lo ∨ hi ≤ b) : OwnL w' b n ls t := by
  obtain ⟨lc, h1, h2, h3⟩ := h; exact ⟨lc, h1.kr k hb, h2, h3⟩

/-- A slice of entries whose blocks, and those of their lines, lie from lo to below hi. -/
def NewE (lo hi : Nat) (w : World) (ad : Option Addr) (n : Nat) (es : Nat → E4) (t tl : TypeId) : Prop :=
  n = 0 ∨ ∃ B bl m, ad = some ⟨B, 0, none⟩ ∧ (lo ≤ B ∧ B < hi) ∧ (∀ j, j < n → lo ≤ bl j ∧ bl j < hi) ∧ n ≤ m ∧ OwnE w B m n es bl t tl
section
variable {lo hi lo' hi' a b : Nat} {w w' : World} {ad : Option Addr} {n : Nat} {es : Nat → E4} {t tl : TypeId} {ls : Nat → L5}
theorem NewE.row (h : NewE lo hi w ad n es t tl) : ER w ad n es := by
  rcases h with h | ⟨B, bl, m, rfl, _, _, _, h⟩
  · exact .inl h
  · exact h.row
theorem NewE.below (h : NewE lo hi w ad n es t tl) (k : Below w.heap.size w w') : NewE lo hi w' ad n es t tl := by
  rcases h with h | ⟨B, bl, m, rfl, h1, h2, h3, h⟩
  · exact .inl h
  · exact .inr ⟨B, bl, m, rfl, h1, h2, h3, h.keep k⟩
theorem NewE.kr (h : NewE lo hi w ad n es t tl) (k : KR a b w w') (hb : b ≤ lo ∨ hi ≤ a) : NewE lo hi w' ad n es t tl := by
  rcases h with h | ⟨B, bl, m, rfl, h1, h2, h3, h⟩
  · exact .inl h
  · obtain ⟨cs, c1, c2, c3⟩ := h.main
    exact .inr ⟨B, bl, m, rfl, h1, h2, h3, ⟨cs, c1.kr k (by omega), c2, c3⟩, fun j hj => (h.own j hj).kr k (by have := h2 j hj; omega), h.apart, h.inj⟩
theorem NewE.mono (h : NewE lo hi w ad n es t tl) (hl : lo' ≤ lo) (hh : hi ≤ hi') : NewE lo' hi' w ad n es t tl := by
  rcases h with h | ⟨B, bl, m, rfl, h1, h2, h3, h⟩
  · exact .inl h
  · exact .inr ⟨B, bl, m, rfl, by omega, fun j hj => by have := h2 j hj; omega, h3, h⟩
theorem OwnE.new {B m : Nat} {bl : Nat → Nat} (h : OwnE w B m n es bl t tl) (hm : n ≤ m) (h1 : lo ≤ B) (h2 : ∀ j, j < n → lo ≤ bl j) : NewE lo w.heap.size w (some ⟨B, 0, none⟩) n es t tl :=
  .inr ⟨B, bl, m, rfl, ⟨h1, by obtain ⟨cs, c1, _⟩ := h.main; exact c1.lt⟩, fun j hj => ⟨h2 j hj, (h.own j hj).lt⟩, hm, h⟩

/-- A slice of lines whose block lies from lo to below hi. -/
def NewL (lo hi : Nat) (w : World) (ad : Option Addr) (n : Nat) (ls : Nat → L5) (t : TypeId) : Prop :=
  n = 0 ∨ ∃ b, ad = some ⟨b, 0, none⟩ ∧ (lo ≤ b ∧ b < hi) ∧ OwnL w b n ls t
theorem NewL.row (h : NewL lo hi w ad n ls t) : LR w ad n ls := by
  rcases h with h | ⟨b, rfl, _, h⟩
  · exact .inl h
  · exact h.row
theorem NewL.below (h : NewL lo hi w ad n ls t) (k : Below w.heap.size w w') : NewL lo hi w' ad n ls t := by
  rcases h with h | ⟨b, rfl, h1, h⟩
  · exact .inl h
  · exact .inr ⟨b, rfl, h1, h.below k h.lt⟩
theorem NewL.kr (h : NewL lo hi w ad n ls t) (k : KR a b w w') (hb : b ≤ lo ∨ hi ≤ a) : NewL lo hi w' ad n ls t := by
  rcases h with h | ⟨c, rfl, h1, h⟩
  · exact .inl h
  · exact .inr ⟨c, rfl, h1, h.kr k (by omega)⟩
theorem NewL.mono (h : NewL lo hi w ad n ls t) (hl : lo' ≤ lo) (hh : hi ≤ hi') : NewL lo' hi' w ad n ls t := by
  rcases h with h | ⟨c, rfl, h1, h⟩
  · exact .inl h
  · exact .inr ⟨c, rfl, by omega, h⟩
theorem OwnL.new {b : Nat} (h : OwnL w b n ls t) (h1 : lo ≤ b) : NewL lo w.heap.size w (some ⟨b, 0, none⟩) n ls t := .inr ⟨b, rfl, ⟨h1, h.lt⟩, h⟩
end

/-- The numbers that marks are. -/
def mkL (k : Int) (i : Nat) : L5 := ⟨k + 5 * i, k + 5 * i + 1, k + 5 * i + 2, k + 5 * i + 3, k + 5 * i + 4⟩
def kE (k : Int) (es : Nat → E4) : Nat → Int
  | 0 => k
  | j + 1 => kE k es j + 3 + 5 * ((es j).n : Int)
def mtF : Nat → Int → ByteArray → ByteArray
  | 0, _, s => s
  | f + 1, k, s => if 0 < k then mtF f (k / 10) (⟨#[UInt8.ofNat (48 + k % 10).toNat]⟩ ++ s) else s
def mt (x : Int) : ByteArray := ⟨#[109]⟩ ++ mtF (x.toNat + 1) x ByteArray.empty
def mkE (k : Int) (es : Nat → E4) (j : Nat) : E4 := ⟨kE k es j, kE k es j + 1, mt (kE k es j + 2), (es j).n, mkL (kE k es j + 3)⟩
theorem kE_bound {k : Int} {es : Nat → E4} {n : Nat} (hk : 0 < k) (hn : ∀ j, j < n → ((es j).n : Int) ≤ 1048576) : ∀ m, m ≤ n → 0 < kE k es m ∧ kE k es m ≤ k + 5242883 * (m : Int)
  | 0, _ => by simp [kE, hk]
  | m + 1, h => by
    have := kE_bound hk hn m (by omega)
    have := hn m (by omega)
    simp only [kE]
    omega
theorem mtF_step {f : Nat} {k : Int} {s : ByteArray} (h : 0 < k) : mtF (f + 1) k s = mtF f (k / 10) (⟨#[UInt8.ofNat (48 + k % 10).toNat]⟩ ++ s) := by simp [mtF, h]
theorem mtF_end {f : Nat} {k : Int} {s : ByteArray} (h : ¬ 0 < k) : mtF f k s = s := by cases f <;> simp [mtF, h]

end Go.Proofs.YtapailihjlfkgaaDoor


namespace Go.Proofs.YtapailihjlfkgaaDoor
open Go Go.RowKit
set_option linter.unusedVariables false

def cellsE (e : E4) (a : Option Addr) (c : Nat) : List Value := [.int .i64 e.day, .int .i64 e.ref, .string e.text, .slice a e.n c]
def flE (es : Nat → E4) (A : Nat → Option Addr) (C : Nat → Nat) : Nat → List Value
  | 0 => []
  | k + 1 => flE es A C k ++ cellsE (es k) (A k) (C k)
theorem flE_len (es : Nat → E4) (A : Nat → Option Addr) (C : Nat → Nat) : ∀ k, (flE es A C k).length = k * 4
  | 0 => rfl
  | k + 1 => by simp [flE, flE_len es A C k, cellsE]; omega
theorem flE_congr {es fs : Nat → E4} {A B : Nat → Option Addr} {C D : Nat → Nat} : ∀ {k : Nat}, (∀ j, j < k → es j = fs j ∧ A j = B j ∧ C j = D j) → flE es A C k = flE fs B D k
  | 0, _ => rfl
  | k + 1, h => by
    obtain ⟨h1, h2, h3⟩ := h k (by omega)
    simp only [flE]; rw [flE_congr (fun j hj => h j (by omega)), h1, h2, h3]
theorem cellsE_one (e : E4) (a : Option Addr) (c : Nat) : ∀ v ∈ cellsE e a c, v.oneCell' = true := by
  intro v hv
  simp only [cellsE, List.mem_cons, List.not_mem_nil, or_false] at hv
  rcases hv with rfl | rfl | rfl | rfl <;> rfl
theorem take4 {l : List Value} {k : Nat} {a b c d : Value} (h0 : l[k]? = some a) (h1 : l[k + 1]? = some b) (h2 : l[k + 2]? = some c) (h3 : l[k + 3]? = some d) : l.take (k + 4) = l.take k ++ [a, b, c, d] := by
  rw [show k + 4 = k + 3 + 1 by omega, List.take_add_one, h3, List.take_add_one, h2, List.take_add_one, h1, List.take_add_one, h0]
  simp
theorem take_flE {cs : Array Value} {es : Nat → E4} {A : Nat → Option Addr} {C : Nat → Nat} : ∀ {k : Nat}, (∀ j, j < k → CellsE cs (j * 4) (es j) (.slice (A j) (es j).n (C j))) → cs.toList.take (k * 4) = flE es A C k
  | 0, _ => by simp [flE]
  | k + 1, h => by
    obtain ⟨h0, h1, h2, h3⟩ := h k (by omega)
    rw [show (k + 1) * 4 = k * 4 + 4 by omega, take4 (by simpa using h0) (by simpa using h1) (by simpa using h2) (by simpa using h3), take_flE (fun j hj => h j (by omega))]
    rfl
theorem flE_get {es : Nat → E4} {A : Nat → Option Addr} {C : Nat → Nat} : ∀ {k j : Nat}, j < k → CellsE (flE es A C k).toArray (j * 4) (es j) (.slice (A j) (es j).n (C j))
  | 0, j, h => by omega
  | k + 1, j, h => by
    have e := flE_len es A C k
    unfold CellsE
    simp only [List.getElem?_toArray]
    by_cases hj : j = k
    · subst hj
      simp only [flE]
      refine ⟨?_, ?_, ?_, ?_⟩ <;> (rw [List.getElem?_append_right (by omega)]; simp [e, cellsE]) <;> (try (rw [show j * 4 + 1 - j * 4 = 1 by omega]; rfl)) <;> (try (rw [show j * 4 + 2 - j * 4 = 2 by omega]; rfl)) <;> (try (rw [show j * 4 + 3 - j * 4 = 3 by omega]; rfl))
    · have h2 := flE_get (es := es) (A := A) (C := C) (k := k) (j := j) (by omega)
      unfold CellsE at h2
      simp only [List.getElem?_toArray] at h2
      obtain ⟨a, b, c, d⟩ := h2
      simp only [flE]
      refine ⟨?_, ?_, ?_, ?_⟩ <;> (rw [List.getElem?_append_left (by omega)]; assumption)
theorem cells_of_take {cs : Array Value} {es : Nat → E4} {A : Nat → Option Addr} {C : Nat → Nat} {k : Nat} (h : cs.toList.take (k * 4) = flE es A C k) : ∀ j, j < k → CellsE cs (j * 4) (es j) (.slice (A j) (es j).n (C j)) := by
  intro j hj
  have h2 := flE_get (es := es) (A := A) (C := C) hj
  unfold CellsE at h2 ⊢
  simp only [List.getElem?_toArray, ← h] at h2
  obtain ⟨a, b, c, d⟩ := h2
  rw [List.getElem?_take] at a b c d
  rw [if_pos (by omega)] at a b c d
  exact ⟨by simpa using a, by simpa using b, by simpa using c, by simpa using d⟩

/-- Entries that own their blocks are a row that may grow. -/
theorem OwnE.owns {w : World} {B m n base : Nat} {es : Nat → E4} {bl : Nat → Nat} {t tl : TypeId} (h : OwnE w B m n es bl t tl) (hb : base ≤ B) (hn : n ≤ m) (hm : m ≤ maxLen) :
    w.ownsRow base t 4 (.slice (some ⟨B, 0, none⟩) n m) n (flE es (fun j => some ⟨bl j, 0, none⟩) (fun j => (es j).n) n) := by
  obtain ⟨cs, h1, h2, h3⟩ := h.main
  exact ⟨flE_len _ _ _ _, .inr ⟨B, m, cs, rfl, hb, h1, hn, hm, h2, take_flE h3⟩⟩

/-- A row of entries that grew, each with its lines. -/
def SE (w : World) (base : Nat) (t : TypeId) (v : Value) (k : Nat) (es : Nat → E4) (A : Nat → Option Addr) (C : Nat → Nat) : Prop :=
  w.ownsRow base t 4 v k (flE es A C k) ∧ ∀ j, j < k → LR w (A j) (es j).n (es j).ls ∧ ((es j).n = 0 ∨ ∀ b o q, A j = some ⟨b, o, q⟩ → some b ≠ v.ownBlock ∧ base ≤ b)
theorem SE.row {w : World} {base : Nat} {t : TypeId} {ad : Option Addr} {k cap : Nat} {es : Nat → E4} {A : Nat → Option Addr} {C : Nat → Nat} (h : SE w base t (.slice ad k cap) k es A C) : ER w ad k es := by
  rcases h.1.2 with ⟨e, rfl⟩ | ⟨g, cp, cur, e, hb, hg, _, _, _, ht⟩
  · exact .inl rfl
  · cases e
    have hg2 : CB w g cur t := hg
    refine .inr ⟨g, 0, rfl, hg2.lt, fun j hj => ?_⟩
    obtain ⟨a, b, c, d⟩ := cells_of_take ht j hj
    rw [Nat.zero_add]
    exact ⟨by rw [hg2.cell]; exact a, by rw [hg2.cell]; exact b, by rw [hg2.cell]; exact c, _, _, by rw [hg2.cell]; exact d, (h.2 j hj).1⟩
theorem SE.form {w : World} {base : Nat} {t : TypeId} {v : Value} {k : Nat} {es : Nat → E4} {A : Nat → Option Addr} {C : Nat → Nat} (h : SE w base t v k es A C) : ∃ ad cap, v = .slice ad k cap := by
  rcases h.1.2 with ⟨rfl, rfl⟩ | ⟨g', cap, cur, rfl, _⟩
  · exact ⟨none, 0, rfl⟩
  · exact ⟨_, cap, rfl⟩
theorem SE.below {w w' : World} {base : Nat} {t : TypeId} {v : Value} {k : Nat} {es : Nat → E4} {A : Nat → Option Addr} {C : Nat → Nat} (h : SE w base t v k es A C) (b : Below w.heap.size w w') : SE w' base t v k es A C := by
  refine ⟨⟨h.1.1, ?_⟩, fun j hj => ⟨(h.2 j hj).1.below b, (h.2 j hj).2⟩⟩
  rcases h.1.2 with h2 | ⟨g, cap, cur, e, hb, hg, rest⟩
  · exact .inl h2
  · exact .inr ⟨g, cap, cur, e, hb, by rw [b.block g (lt_of_block hg)]; exact hg, rest⟩
theorem LR.grown {w w' : World} {row : Option Nat} {ad : Option Addr} {n : Nat} {ls : Nat → L5} (h : LR w ad n ls) (g : w.grownBy w' row) (hn : n = 0 ∨ ∀ b o q, ad = some ⟨b, o, q⟩ → some b ≠ row) : LR w' ad n ls := by
  rcases h with h | ⟨k, off, e, hk, hc⟩
  · exact .inl h
  · rcases hn with h0 | hn
    · exact .inl h0
    · exact .inr ⟨k, off, e, Nat.lt_of_lt_of_le hk g.size, fun j hj => (hc j hj).block (g.block k hk (hn k off none e))⟩
/-- One entry more. -/
theorem SE.snoc {w w' : World} {base : Nat} {t : TypeId} {v v' : Value} {k : Nat} {es : Nat → E4} {A : Nat → Option Addr} {C : Nat → Nat} {a : Option Addr} {c : Nat} (h : SE w base t v k es A C) (hl : LR w a (es k).n (es k).ls) (ha : (es k).n = 0 ∨ ∀ b o q, a = some ⟨b, o, q⟩ → some b ≠ v.ownBlock ∧ base ≤ b)
    (ho : w'.ownsRow base t 4 v' (k + 1) (flE es A C k ++ cellsE (es k) a c)) (hg : w.grownBy w' v.ownBlock) (hv : v'.ownBlock = v.ownBlock ∨ v'.ownBlock = some w.heap.size) :
    SE w' base t v' (k + 1) es (fun j => if j = k then a else A j) (fun j => if j = k then c else C j) := by
  have key : ∀ (ad : Option Addr) (n : Nat) (ls : Nat → L5), LR w ad n ls → (n = 0 ∨ ∀ b o q, ad = some ⟨b, o, q⟩ → some b ≠ v.ownBlock ∧ base ≤ b) → (n = 0 ∨ ∀ b o q, ad = some ⟨b, o, q⟩ → some b ≠ v'.ownBlock ∧ base ≤ b) := fun ad n ls h1 h2 => by
    rcases h2 with h2 | h2
    · exact .inl h2
    · rcases h1 with h1 | ⟨kb, off, e, hk, _⟩
      · exact .inl h1
      · refine .inr fun b o q e2 => ⟨?_, (h2 b o q e2).2⟩
        rcases hv with hv | hv
        · rw [hv]; exact (h2 b o q e2).1
        · rw [hv]; intro e3
          rw [e] at e2
          cases e2; cases e3; omega
  have fst : ∀ (ad : Option Addr) (n : Nat), (n = 0 ∨ ∀ b o q, ad = some ⟨b, o, q⟩ → some b ≠ v.ownBlock ∧ base ≤ b) → (n = 0 ∨ ∀ b o q, ad = some ⟨b, o, q⟩ → some b ≠ v.ownBlock) := fun ad n h2 => by
    rcases h2 with h2 | h2
    · exact .inl h2
    · exact .inr fun b o q e => (h2 b o q e).1
  refine ⟨?_, fun j hj => ?_⟩
  · have : flE es (fun j => if j = k then a else A j) (fun j => if j = k then c else C j) (k + 1) = flE es A C k ++ cellsE (es k) a c := by
      simp only [flE, if_true]
      rw [flE_congr (fun j hj => ⟨rfl, by rw [if_neg (by omega)], by rw [if_neg (by omega)]⟩)]
    rw [this]; exact ho
  · by_cases hj2 : j = k
    · subst hj2
      simp only [if_true]
      exact ⟨hl.grown hg (fst _ _ ha), key _ _ _ hl ha⟩
    · simp only [if_neg hj2]
      obtain ⟨h1, h2⟩ := h.2 j (by omega)
      exact ⟨h1.grown hg (fst _ _ h2), key _ _ _ h1 h2⟩
theorem grown_set {w : World} {c o : Nat} {u : Value} : w.grownBy (w.setCell ⟨c, o, none⟩ u) (some c) := ⟨rfl, rfl, rfl, by simp [World.setCell], fun k hk hne => Below.heap_setCell _ _ _ _ (by simpa using fun e => hne (by rw [e]))⟩
theorem SE.set {w : World} {base c o : Nat} {u : Value} {t : TypeId} {v : Value} {k : Nat} {es : Nat → E4} {A : Nat → Option Addr} {C : Nat → Nat} (h : SE w base t v k es A C) (hc : c < base) : SE (w.setCell ⟨c, o, none⟩ u) base t v k es A C := by
  refine ⟨⟨h.1.1, ?_⟩, fun j hj => ⟨(h.2 j hj).1.grown grown_set ?_, (h.2 j hj).2⟩⟩
  · rcases h.1.2 with h2 | ⟨g, cap, cur, e, hb, hg, rest⟩
    · exact .inl h2
    · exact .inr ⟨g, cap, cur, e, hb, by rw [grown_set.block g (lt_of_block hg) (fun e => by cases e; omega)]; exact hg, rest⟩
  · rcases (h.2 j hj).2 with h2 | h2
    · exact .inl h2
    · exact .inr fun b o q e e2 => by have := (h2 b o q e).2; cases e2; omega
theorem SE.nil (w : World) (base : Nat) (t : TypeId) (es : Nat → E4) : SE w base t (.slice none 0 0) 0 es (fun _ => none) (fun _ => 0) := ⟨World.ownsRow_nil w base t 4, fun j hj => by omega⟩

end Go.Proofs.YtapailihjlfkgaaDoor

