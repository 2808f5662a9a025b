/- What intervals two by two come to, and spec.MeetAll where it refuses. What a list of intervals comes to; what it is read from. Lists of marks and of strides: what is made of them, and whether two are the same. Rows of pairs in memory of one's own; what a run of strides comes to. Numbers: what is carried on holds true time. RateCarry in the specification. RateCarry of the program. Numbers of FnRates. What the draws leave: times, intervals, the new cursor. What the draws leave: times, intervals, the new cursor. A struct of two ints in a block: what keeps it. What the draws of chapter 2 leave: a drift, a count. What the draw of an oscillator leaves. What the draw of strides leaves. What the draw of an oscillator and strides leaves. The contract of impl.OscRun. The contract of spec.OscRun. Contracts of OscRun. -/
import Derived.Test.YtblappilppfkiaaDoorX2
import Derived.Deep.OwnRows
import Derived.Test.YtblappilppfkiaaDoorX1
import Derived.WalkKit
import Derived.WalkSpells
import Derived.WalkLawsBesides
import Derived.Deep.RegionHeld
import Derived.Deep.DeepCutAuto
import Derived.Deep.RegionHeld3
import Derived.Deep.QuietTactic
import Derived.BigQuiet
namespace Go.Proofs.YtblappilppfkiaaDoor
open Go.RowKit
set_option linter.unusedVariables false
def acc (B : Int → Int → Int → Int → Bool) (X Y : Int → Int → Int) (f : Nat → Int × Int) : Nat → Bool × Int × Int
  | 0 => (okI (f 0).1 (f 0).2, sel (okI (f 0).1 (f 0).2) (f 0).1, sel (okI (f 0).1 (f 0).2) (f 0).2)
  | k + 1 =>
    ((acc B X Y f k).1 && B (acc B X Y f k).2.1 (acc B X Y f k).2.2 (f (k + 1)).1 (f (k + 1)).2,
     sel ((acc B X Y f k).1 && B (acc B X Y f k).2.1 (acc B X Y f k).2.2 (f (k + 1)).1 (f (k + 1)).2) (X (acc B X Y f k).2.1 (f (k + 1)).1),
     sel ((acc B X Y f k).1 && B (acc B X Y f k).2.1 (acc B X Y f k).2.2 (f (k + 1)).1 (f (k + 1)).2) (Y (acc B X Y f k).2.2 (f (k + 1)).2))
section
variable {B : Int → Int → Int → Int → Bool} {X Y : Int → Int → Int} {f : Nat → Int × Int}
theorem acc_zero : ∀ {m : Nat}, (acc B X Y f m).1 = false → acc B X Y f m = (false, 0, 0)
  | 0, h => by simp only [acc] at h ⊢; rw [h]; rfl
  | m + 1, h => by simp only [acc] at h ⊢; rw [h]; rfl
theorem acc_no {k : Nat} (h : (acc B X Y f k).1 = false) : ∀ m, k ≤ m → (acc B X Y f m).1 = false
  | 0, hm => by have : k = 0 := by omega
                subst this; exact h
  | m + 1, hm => by
    by_cases e : k = m + 1
    · subst e; exact h
    · simp [acc, acc_no h m (by omega)]
theorem acc_step {k : Nat} {x y : Int} (h : acc B X Y f k = (true, x, y)) : acc B X Y f (k + 1) = (B x y (f (k + 1)).1 (f (k + 1)).2, sel (B x y (f (k + 1)).1 (f (k + 1)).2) (X x (f (k + 1)).1), sel (B x y (f (k + 1)).1 (f (k + 1)).2) (Y y (f (k + 1)).2)) := by
  simp [acc, h]
theorem acc_ok (hB : ∀ a b c d, B a b c d = true → okI c d = true) : ∀ {m : Nat}, (acc B X Y f m).1 = true → allOk f (m + 1) = true
  | 0, h => by simp only [acc] at h; simp [allOk, h]
  | m + 1, h => by
    simp only [acc, Bool.and_eq_true] at h
    have h1 := acc_ok hB (m := m) h.1
    have h2 := hB _ _ _ _ h.2
    rw [allOk, h1, h2]; rfl
theorem acc_bad (hB : ∀ a b c d, B a b c d = true → okI c d = true) {n : Nat} (hn : 1 ≤ n) (h : allOk f n = false) : acc B X Y f (n - 1) = (false, 0, 0) := by
  apply acc_zero
  cases e : (acc B X Y f (n - 1)).1
  · rfl
  · have := acc_ok hB e
    rw [show n - 1 + 1 = n by omega, h] at this
    exact absurd this (by simp)
theorem acc_first {n : Nat} (hn : 1 ≤ n) (h : allOk f n = true) : acc B X Y f 0 = (true, (f 0).1, (f 0).2) := by
  have h0 : okI (f 0).1 (f 0).2 = true := by
    cases e : okI (f 0).1 (f 0).2
    · rw [allOk_no e n (by omega)] at h; exact absurd h (by simp)
    · rfl
  simp only [acc, h0]; rfl
end
theorem meetB_ok (a b c d : Int) (h : meetB a b c d = true) : okI c d = true := by
  simp only [meetB, okII, Bool.and_eq_true] at h; exact h.1.2
theorem joinB_ok (a b c d : Int) (h : joinB a b c d = true) : okI c d = true := by
  simp only [joinB, okII, Bool.and_eq_true] at h; exact h.2
end Go.Proofs.YtblappilppfkiaaDoor
namespace Go.Proofs.YtblappilppfkiaaDoor
open Go.RowKit
set_option linter.unusedVariables false
def allR (B : Int → Int → Int → Int → Bool) (X Y : Int → Int → Int) (f : Nat → Int × Int) (n : Nat) : Bool × Int × Int := if 1 ≤ n ∧ n ≤ 64 then acc B X Y f (n - 1) else (false, 0, 0)
theorem allR_in {B : Int → Int → Int → Int → Bool} {X Y : Int → Int → Int} {f : Nat → Int × Int} {n : Nat} (h : 1 ≤ n ∧ n ≤ 64) : allR B X Y f n = acc B X Y f (n - 1) := if_pos h
theorem allR_out {B : Int → Int → Int → Int → Bool} {X Y : Int → Int → Int} {f : Nat → Int × Int} {n : Nat} (h : ¬ (1 ≤ n ∧ n ≤ 64)) : allR B X Y f n = (false, 0, 0) := if_neg h
def Src (w : World) (a : Option Addr) (n : Nat) (f : Nat → Int × Int) : Prop := n = 0 ∨ ∃ b off, a = some ⟨b, off, none⟩ ∧ Prs w b off n f
theorem Src.below {w w' : World} {a : Option Addr} {n : Nat} {f : Nat → Int × Int} (h : Src w a n f) (hb : Below w.heap.size w w') : Src w' a n f := by
  rcases h with h | ⟨b, off, h1, h2⟩
  · exact .inl h
  · exact .inr ⟨b, off, h1, h2.below hb h2.1⟩
end Go.Proofs.YtblappilppfkiaaDoor
namespace Go.Proofs.YtblappilppfkiaaDoor
open Go.RowKit
set_option linter.unusedVariables false
def rowObjMark (n : Nat) : Obj := .cells (madeCells #[.int .i64 0, .int .i64 0] (n * 2)) 52
theorem infoMark : (Tryd.prog.info? 52).map (fun i => (i.zero, i.size, i.bytes)) = some (some (.agg #[.int .i64 0, .int .i64 0]), 2, 16) := by kernel_rfl
theorem mk_rowMark (n : Nat) (h : n ≤ 1048576) (w : World) : (Instr.makeSlice 41 (.int .i64 (n : Int)) (.int .i64 (n : Int))).run Tryd.prog w = .ok (.slice (some ⟨w.heap.size, 0, none⟩) n n) (w.alloc (rowObjMark n)) := by
  obtain ⟨i, hi, hz⟩ := Option.map_eq_some_iff.1 infoMark
  simp only [Prod.mk.injEq] at hz
  obtain ⟨h1, h2, h3⟩ := hz
  have hr := run_make (P := Tryd.prog) w 41 52 i _ Tryd.underlying41 hi h1 .i64 .i64 n n (by omega) (Int.le_refl _) (by rw [h3]; omega) (by omega)
  simp only [Int.toNat_natCast, h2] at hr
  exact hr
theorem rowObj_isMark (w : World) (n : Nat) : (w.alloc (rowObjMark n)).rowIs w.heap.size 52 (n * 2) (fun _ => .int .i64 0) := by
  have h := World.rowIs_alloc w (madeCells #[.int .i64 0, .int .i64 0] (n * 2)) 52 (fun _ => .int .i64 0) (fun i hi => by
    rw [size_madeCells] at hi
    have : i % 2 = 0 ∨ i % 2 = 1 := by omega
    rcases this with h | h <;> simp [madeCells, hi, h])
  rw [size_madeCells] at h
  exact h
def rowObjStride (n : Nat) : Obj := .cells (madeCells #[.int .i64 0, .int .i64 0] (n * 2)) 79
theorem infoStride : (Tryd.prog.info? 79).map (fun i => (i.zero, i.size, i.bytes)) = some (some (.agg #[.int .i64 0, .int .i64 0]), 2, 16) := by kernel_rfl
theorem mk_rowStride (n : Nat) (h : n ≤ 1048576) (w : World) : (Instr.makeSlice 38 (.int .i64 (n : Int)) (.int .i64 (n : Int))).run Tryd.prog w = .ok (.slice (some ⟨w.heap.size, 0, none⟩) n n) (w.alloc (rowObjStride n)) := by
  obtain ⟨i, hi, hz⟩ := Option.map_eq_some_iff.1 infoStride
  simp only [Prod.mk.injEq] at hz
  obtain ⟨h1, h2, h3⟩ := hz
  have hr := run_make (P := Tryd.prog) w 38 79 i _ Tryd.underlying38 hi h1 .i64 .i64 n n (by omega) (Int.le_refl _) (by rw [h3]; omega) (by omega)
  simp only [Int.toNat_natCast, h2] at hr
  exact hr
theorem rowObj_isStride (w : World) (n : Nat) : (w.alloc (rowObjStride n)).rowIs w.heap.size 79 (n * 2) (fun _ => .int .i64 0) := by
  have h := World.rowIs_alloc w (madeCells #[.int .i64 0, .int .i64 0] (n * 2)) 79 (fun _ => .int .i64 0) (fun i hi => by
    rw [size_madeCells] at hi
    have : i % 2 = 0 ∨ i % 2 = 1 := by omega
    rcases this with h | h <;> simp [madeCells, hi, h])
  rw [size_madeCells] at h
  exact h
end Go.Proofs.YtblappilppfkiaaDoor
namespace Go.Proofs.YtblappilppfkiaaDoor
open Go.RowKit
set_option linter.unusedVariables false
def prs (L : List (Int × Int)) : List Value := L.flatMap fun p => [.int .i64 p.1, .int .i64 p.2]
theorem prs_add (L : List (Int × Int)) (x y : Int) : prs (L ++ [(x, y)]) = prs L ++ [.int .i64 x, .int .i64 y] := by simp [prs]
theorem own_below {w w' : World} {base : Nat} {e : TypeId} {size : Nat} {v : Value} {n : Nat} {xs : List Value} (h : w.ownsRow base e size v n xs) (hb : Below w.heap.size w w') : w'.ownsRow base e size v n xs :=
  h.kept (row := none) ⟨hb.os, hb.tape, hb.output, hb.size, fun k hk _ => hb.block k hk⟩ (by
    cases hv : v.ownBlock with
    | none => exact .inl rfl
    | some g => exact .inr (by simp))
theorem own_set {w : World} {base : Nat} {e : TypeId} {size : Nat} {v : Value} {n : Nat} {xs : List Value} (h : w.ownsRow base e size v n xs) {k : Nat} (hk : ∀ g, v.ownBlock = some g → g ≠ k) (o : Nat) (u : Value) : (w.setCell ⟨k, o, none⟩ u).ownsRow base e size v n xs :=
  ownsRow_setCell_other h (by
    cases hv : v.ownBlock with
    | none => simp
    | some g => simp; exact hk g hv) u
theorem own_set4 {w : World} {base : Nat} {e : TypeId} {size : Nat} {v : Value} {n : Nat} {xs : List Value} (h : w.ownsRow base e size v n xs) {k : Nat} (hk : k < base) (a b c d : Int) : (set4 w k a b c d).ownsRow base e size v n xs := by
  have hne : ∀ g, v.ownBlock = some g → g ≠ k := fun g hg => by have := (h.lt g hg).1; omega
  exact own_set (own_set (own_set (own_set h hne _ _) hne _ _) hne _ _) hne _ _
theorem grown_below {w w' : World} {base : Nat} {e : TypeId} {size : Nat} {v : Value} {n : Nat} {xs : List Value} (h : w.ownsRow base e size v n xs) (hg : w.grownBy w' v.ownBlock) (hb : base ≤ w.heap.size) : Below base w w' :=
  ⟨hg.os, hg.tape, hg.output, hg.size, fun k hk => hg.block k (by omega) (fun he => by have := (h.lt k he.symm).1; omega)⟩
theorem pair_at (w : World) (a b : Int) (T : TypeId) (j : Nat) (u : Value) (h : [Value.int .i64 a, Value.int .i64 b][j]? = some u) : (w.alloc (.cells #[.int .i64 a, .int .i64 b] T)).cell? ((⟨w.heap.size, 0, none⟩ : Addr).add j) = some u := by
  match j, h with
  | 0, h => simp at h; subst h; simp [Addr.add]
  | 1, h => simp at h; subst h; simp [Addr.add]
theorem own_base3 {w : World} {base base' : Nat} {e : TypeId} {size : Nat} {v : Value} {n : Nat} {xs : List Value} (h : w.ownsRow base e size v n xs) (hb : base' ≤ base) : w.ownsRow base' e size v n xs := by
  refine ⟨h.1, ?_⟩
  rcases h.2 with h | ⟨g, cap, cur, h1, h2, h3⟩
  · exact .inl h
  · exact .inr ⟨g, cap, cur, h1, by omega, h3⟩
theorem own_one (w : World) (base : Nat) (T : TypeId) (x y : Int) (hb : base ≤ w.heap.size) : (w.alloc (.cells #[.int .i64 x, .int .i64 y] T)).ownsRow base T 2 (.slice (some ⟨w.heap.size, 0, none⟩) 1 1) 1 (prs [(x, y)]) :=
  ⟨by simp [prs], .inr ⟨w.heap.size, 1, _, rfl, hb, heap_alloc_new w _, Nat.le_refl _, by simp [maxLen], by simp, by simp [prs]⟩⟩
theorem prs_at (L : List (Int × Int)) (i : Nat) (hi : i < L.length) : (prs L)[i * 2]? = some (.int .i64 (L.getD i (0, 0)).1) ∧ (prs L)[i * 2 + 1]? = some (.int .i64 (L.getD i (0, 0)).2) := by
  induction L generalizing i with
  | nil => simp at hi
  | cons p L ih =>
    cases i with
    | zero => simp [prs]
    | succ i =>
      have := ih i (by simpa using hi)
      have e : prs (p :: L) = .int .i64 p.1 :: .int .i64 p.2 :: prs L := by simp [prs]
      rw [e, show (i + 1) * 2 = i * 2 + 1 + 1 by omega]
      simpa using this
theorem own_src {w : World} {base : Nat} {T : TypeId} {v : Value} {L : List (Int × Int)} (h : w.ownsRow base T 2 v L.length (prs L)) :
    ∃ a c, v = .slice a L.length c ∧ L.length ≤ c ∧ c ≤ maxLen ∧ Src w a L.length (fun i => L.getD i (0, 0)) := by
  rcases h.2 with ⟨rfl, h0⟩ | ⟨g, cap, cur, rfl, hb, hg, hc, hm, hs, ht⟩
  · exact ⟨none, 0, by rw [h0], by omega, by simp [maxLen], .inl h0⟩
  · refine ⟨_, cap, rfl, hc, hm, .inr ⟨g, 0, rfl, (Array.getElem?_eq_some_iff.1 hg).1, fun i hi => ?_⟩⟩
    have ⟨h1, h2⟩ := prs_at L i hi
    have hcell : ∀ j u, j < L.length * 2 → (prs L)[j]? = some u → w.cell? ⟨g, j, none⟩ = some u := by
      intro j u hj hu
      rw [← ht, List.getElem?_take, if_pos hj] at hu
      simp [World.cell?, hg] 
      simpa using hu
    exact ⟨by simpa using hcell (i * 2) _ (by omega) h1, by simpa using hcell (i * 2 + 1) _ (by omega) h2⟩
def mkM (n d t c : Int) (f : Nat → Int × Int) : Nat → Int × Int
  | 0 => (t, c)
  | k + 1 => ((mkM n d t c f k).1 + (f k).1, (mkM n d t c f k).2 + clI n d (f k).1 (f k).2)
def stepAt (n d t c : Int) (f : Nat → Int × Int) (k : Nat) : Bool := stepB n d (mkM n d t c f k).1 (mkM n d t c f k).2 (f k).1 (f k).2
def runN (n d t c : Int) (f : Nat → Int × Int) : Nat → Nat
  | 0 => 0
  | m + 1 => if runN n d t c f m = m then (if stepAt n d t c f m then m + 1 else m) else runN n d t c f m
section
variable {n d t c : Int} {f : Nat → Int × Int}
theorem runN_all {k : Nat} (h : ∀ i, i < k → stepAt n d t c f i = true) : runN n d t c f k = k := by
  induction k with
  | zero => rfl
  | succ k ih => simp [runN, ih (fun i hi => h i (by omega)), h k (by omega)]
theorem runN_stop {k : Nat} (h : ∀ i, i < k → stepAt n d t c f i = true) (hk : stepAt n d t c f k = false) : ∀ m, k < m → runN n d t c f m = k
  | 0, hm => absurd hm (by omega)
  | m + 1, hm => by
    by_cases e : k = m
    · subst e; simp [runN, runN_all h, hk]
    · have := runN_stop h hk m (by omega)
      simp only [runN, this]
      rw [if_neg (by omega)]
theorem runN_le : ∀ m, runN n d t c f m ≤ m
  | 0 => Nat.le_refl _
  | m + 1 => by
    have := runN_le m
    simp only [runN]
    split
    · split <;> omega
    · omega
theorem runN_step : ∀ m i, i < runN n d t c f m → stepAt n d t c f i = true
  | 0, i, h => absurd h (Nat.not_lt_zero _)
  | m + 1, i, h => by
    simp only [runN] at h
    split at h
    · next e =>
      split at h
      · next hs =>
        by_cases hi : i = m
        · subst hi; exact hs
        · exact runN_step m i (by omega)
      · exact runN_step m i (by omega)
    · exact runN_step m i h
end
def mkL (n d t c : Int) (f : Nat → Int × Int) (k : Nat) : List (Int × Int) := (List.range (k + 1)).map (mkM n d t c f)
theorem mkL_len (n d t c : Int) (f : Nat → Int × Int) (k : Nat) : (mkL n d t c f k).length = k + 1 := by simp [mkL]
theorem mkL_add (n d t c : Int) (f : Nat → Int × Int) (k : Nat) : mkL n d t c f (k + 1) = mkL n d t c f k ++ [((mkM n d t c f (k + 1)).1, (mkM n d t c f (k + 1)).2)] := by
  simp only [mkL]; rw [List.range_succ (n := k + 1), List.map_append]; rfl
theorem mkL_zero (n d t c : Int) (f : Nat → Int × Int) : mkL n d t c f 0 = [(t, c)] := by simp [mkL, mkM]
def runG (n d t c : Int) (m : Nat) : Bool := okO n d t c && decide (m ≤ 200)
def runL (n d t c : Int) (f : Nat → Int × Int) (m : Nat) : List (Int × Int) := if runG n d t c m then mkL n d t c f (runN n d t c f m) else []
def runD (n d t c : Int) (f : Nat → Int × Int) (m : Nat) : Int := if runG n d t c m then (runN n d t c f m : Int) else 0
theorem specStep_t (n d t c b v : Int) (w : World) (h : stepB n d t c b v = true) :
    Calls Tryd.prog 38 #[.agg #[.int .i64 n, .int .i64 d, .int .i64 t, .int .i64 c], .agg #[.int .i64 b, .int .i64 v]] w fun e w' => e = .returned (.tuple #[.agg #[.int .i64 n, .int .i64 d, .int .i64 (t + b), .int .i64 (c + clI n d b v)], .bool true]) ∧ Below w.heap.size w w' := by
  have ho : okO n d t c = true := by simp [stepB] at h; exact h.1.1.1
  have := specOscStep_any n d t c b v w
  simp only [stT, stC, h, ho, if_true] at this
  exact this
theorem specStep_f (n d t c b v : Int) (w : World) (ho : okO n d t c = true) (h : stepB n d t c b v = false) :
    Calls Tryd.prog 38 #[.agg #[.int .i64 n, .int .i64 d, .int .i64 t, .int .i64 c], .agg #[.int .i64 b, .int .i64 v]] w fun e w' => e = .returned (.tuple #[.agg #[.int .i64 n, .int .i64 d, .int .i64 t, .int .i64 c], .bool false]) ∧ Below w.heap.size w w' := by
  have := specOscStep_any n d t c b v w
  simp only [stT, stC, h, ho, Bool.false_eq_true, if_false] at this
  exact this
theorem step_ok {n d t c b v : Int} (h : stepB n d t c b v = true) : okO n d (t + b) (c + clI n d b v) = true := by
  simp [stepB] at h
  have ⟨o1, _, _⟩ := okO_t h.1.1.1
  exact okO_of o1 h.1.2 h.2
theorem mkM_ok {n d t c : Int} {f : Nat → Int × Int} (h0 : okO n d t c = true) {k : Nat} (h : ∀ i, i < k → stepAt n d t c f i = true) : okO n d (mkM n d t c f k).1 (mkM n d t c f k).2 = true := by
  cases k with
  | zero => exact h0
  | succ k => exact step_ok (h k (by omega))
end Go.Proofs.YtblappilppfkiaaDoor
namespace Go.Proofs.YtblappilppfkiaaDoor
open Go.RowKit
set_option linter.unusedVariables false
theorem of_upC {x n t : Int} (hn : 0 < n) (h : upI x n ≤ t) : x ≤ t * n := by
  rw [← upI_neg hn] at h
  have h2 : -t ≤ -x / n := by omega
  have h3 := (Int.le_ediv_iff_mul_le hn).1 h2
  rw [Int.neg_mul] at h3
  omega
theorem of_dnC {x n t : Int} (hn : 0 < n) (h : t ≤ dnI x n) : t * n ≤ x := (Int.le_ediv_iff_mul_le hn).1 h
theorem up_add {a b n : Int} (hn : 0 < n) : upI (a + b) n ≤ upI a n + upI b n := by
  refine le_upI hn ?_
  have h1 := of_upC hn (Int.le_refl (upI a n))
  have h2 := of_upC hn (Int.le_refl (upI b n))
  rw [Int.add_mul]; omega
theorem dn_add {a b n : Int} (hn : 0 < n) : dnI a n + dnI b n ≤ dnI (a + b) n := by
  refine dnI_le hn ?_
  have h1 := of_dnC hn (Int.le_refl (dnI a n))
  have h2 := of_dnC hn (Int.le_refl (dnI b n))
  rw [Int.add_mul]; omega
theorem up_mono {a b n : Int} (hn : 0 < n) (h : a ≤ b) : upI a n ≤ upI b n := le_upI hn (Int.le_trans h (of_upC hn (Int.le_refl _)))
theorem dn_mono {a b n : Int} (hn : 0 < n) (h : a ≤ b) : dnI a n ≤ dnI b n := dnI_le hn (Int.le_trans (of_dnC hn (Int.le_refl _)) h)
theorem bt_parts {n d x : Int} (h : btB n d x = true) : okD n d = true ∧ okT x = true ∧ okT (upI (x * d) (d + n)) = true ∧ okT (dnI (x * d) (d - n)) = true := by
  simp [btB, rB] at h; exact ⟨h.1.1.1, h.1.1.2, h.1.2, h.2.2⟩
theorem bt_mk {n d x : Int} (h1 : okD n d = true) (h2 : okT x = true) (h3 : okT (upI (x * d) (d + n)) = true) (h4 : okT (dnI (x * d) (d - n)) = true) : btB n d x = true := by simp [btB, rB, h1, h2, h3, h4]
theorem bt_less {n d p q : Int} (h : btB n d q = true) (h0 : 0 ≤ p) (h1 : p ≤ q) : btB n d p = true := by
  obtain ⟨hD, hq, hu, hd⟩ := bt_parts h
  obtain ⟨d1, d2, d3, d4⟩ := okD_t hD
  obtain ⟨q1, q2⟩ := okT_t hq
  obtain ⟨u1, u2⟩ := okT_t hu
  obtain ⟨v1, v2⟩ := okT_t hd
  have hm : p * d ≤ q * d := Int.mul_le_mul_of_nonneg_right h1 (by omega)
  have hp : 0 ≤ p * d := Int.mul_nonneg h0 (by omega)
  have a1 := up_mono (show 0 < d + n by omega) hm
  have a2 := dn_mono (show 0 < d - n by omega) hm
  have b1 := upI_bd hp (show 0 < d + n by omega)
  have b2 := dnI_bd hp (show 0 < d - n by omega)
  exact bt_mk hD (decide_eq_true ⟨h0, by omega⟩) (decide_eq_true ⟨b1.1, by omega⟩) (decide_eq_true ⟨b2.1, by omega⟩)
theorem cr_full {lo hi a n d c : Int} (h : crC true lo hi a n d c = 0) : crP true lo hi a n d c = true ∧ ¬ c < a ∧ btB n d (c - a) = true ∧ plusB lo hi (upI ((c - a) * d) (d + n)) (dnI ((c - a) * d) (d - n)) = true := by
  cases hp : crP true lo hi a n d c
  · rw [(crC_1 hp).1] at h; exact absurd h (by decide)
  by_cases h4 : c < a
  · rw [(crC_3 hp h4).1] at h; exact absurd h (by decide)
  cases h5 : btB n d (c - a)
  · rw [(crC_4 hp h4 h5).1] at h; exact absurd h (by decide)
  cases h6 : plusB lo hi (upI ((c - a) * d) (d + n)) (dnI ((c - a) * d) (d - n))
  · rw [(crC_5 hp h4 h5 h6).1] at h; exact absurd h (by decide)
  · exact ⟨rfl, h4, rfl, rfl⟩
theorem pair_counts {n d : Int} {f : Nat → Int × Int} {l i j : Nat} (hr : mrB n d f l 1 = true) (hij : i ≤ j) (hj : j < l) : 0 ≤ (f j).2 - (f i).2 ∧ upI (((f j).2 - (f i).2) * d) (d + n) ≤ (f j).1 - (f i).1 ∧ (f j).1 - (f i).1 ≤ dnI (((f j).2 - (f i).2) * d) (d - n) := by
  have ⟨hD, _, _, _⟩ := mkB_t (mrB_t hr).1
  have ⟨d1, d2, d3, d4⟩ := okD_t hD
  have hm : 0 ≤ (f j).2 - (f i).2 ∧ ((f j).1 - (f i).1) * (d - n) ≤ ((f j).2 - (f i).2) * d ∧ ((f j).2 - (f i).2) * d ≤ ((f j).1 - (f i).1) * (d + n) := by
    by_cases e : i = j
    · subst e; simp
    · have ⟨_, _, a3, a4, a5⟩ := mcB_y (two_lt hr (show i < j by omega) hj)
      exact ⟨(okT_t a3).1, a4, a5⟩
  exact ⟨hm.1, le_upI (show (0 : Int) < d + n by omega) hm.2.2, dnI_le (show (0 : Int) < d - n by omega) hm.2.1⟩
theorem up_le_self {n d x : Int} (hn : 0 ≤ n) (hd : 1 ≤ d) (hx : 0 ≤ x) : upI (x * d) (d + n) ≤ x := by
  refine le_upI (by omega) ?_
  rw [Int.mul_add]; have := Int.mul_nonneg hx hn; omega
theorem self_le_dn {n d x : Int} (hn : 0 ≤ n) (hd : 1 ≤ d) (h2 : 2 * n ≤ d) (hx : 0 ≤ x) : x ≤ dnI (x * d) (d - n) := by
  refine dnI_le (by omega) ?_
  rw [Int.mul_sub]; have := Int.mul_nonneg hx hn; omega
theorem plus_mk {al ah bl bh : Int} (h1 : okI al ah = true) (h2 : okI bl bh = true) (h3 : okI (al + bl) (ah + bh) = true) : plusB al ah bl bh = true := by simp [plusB, okII, h1, h2, h3]
theorem crP_mk {lo hi a n d c : Int} (h1 : okI lo hi = true) (h2 : okT a = true) (h3 : okD n d = true) (h4 : okT c = true) : crP true lo hi a n d c = true := by simp [crP, okL, h1, h2, h3, h4]
theorem holds_mk6 {lo hi t : Int} (h : okI lo hi = true) (h1 : lo ≤ t) (h2 : t ≤ hi) : holdsI lo hi t = true := by simp [holdsI, h, h1, h2]
theorem within_mk6 {al ah bl bh : Int} (h1 : okI al ah = true) (h2 : okI bl bh = true) (h3 : bl ≤ al) (h4 : ah ≤ bh) : withinI al ah bl bh = true := by
  simp [withinI, okII, h1, h2, h3, h4]
theorem carry_nums {n d : Int} {f : Nat → Int × Int} {l i k j : Nat} {lo hi : Int} (hr : mrB n d f l 1 = true) (hik : i ≤ k) (hkj : k ≤ j) (hj : j < l) (h1 : lo ≤ (f i).1) (h2 : (f i).1 ≤ hi) (hz : crC true lo hi (f i).2 n d (f j).2 = 0) :
    holdsI (crL true lo hi (f i).2 n d (f j).2) (crH true lo hi (f i).2 n d (f j).2) (f j).1 = true ∧ crC true lo hi (f i).2 n d (f k).2 = 0 ∧
    crC true (crL true lo hi (f i).2 n d (f k).2) (crH true lo hi (f i).2 n d (f k).2) (f k).2 n d (f j).2 = 0 ∧
    holdsI (crL true (crL true lo hi (f i).2 n d (f k).2) (crH true lo hi (f i).2 n d (f k).2) (f k).2 n d (f j).2) (crH true (crL true lo hi (f i).2 n d (f k).2) (crH true lo hi (f i).2 n d (f k).2) (f k).2 n d (f j).2) (f j).1 = true ∧
    withinI (crL true (crL true lo hi (f i).2 n d (f k).2) (crH true lo hi (f i).2 n d (f k).2) (f k).2 n d (f j).2) (crH true (crL true lo hi (f i).2 n d (f k).2) (crH true lo hi (f i).2 n d (f k).2) (f k).2 n d (f j).2) (crL true lo hi (f i).2 n d (f j).2) (crH true lo hi (f i).2 n d (f j).2) = true := by
  obtain ⟨hp, hc, hbt, hpl⟩ := cr_full hz
  obtain ⟨o1, o2, o3, o4⟩ := crP_p hp
  obtain ⟨d1, d2, d3, d4⟩ := okD_t o3
  obtain ⟨e0, e1, e2⟩ := crC_0 hp hc hbt hpl
  have oA := (cr_ok hz).2.2
  have ⟨_, _, _, hok⟩ := mkB_t (mrB_t hr).1
  have ok := (hok k (by omega)).2
  obtain ⟨A0, A1, A2⟩ := pair_counts hr (Nat.le_trans hik hkj) hj
  obtain ⟨B0, B1, B2⟩ := pair_counts hr hik (by omega)
  obtain ⟨C0, C1, C2⟩ := pair_counts hr hkj hj
  have q1 : (f k).2 - (f i).2 ≤ (f j).2 - (f i).2 := by omega
  have q2 : (f j).2 - (f k).2 ≤ (f j).2 - (f i).2 := by omega
  have b1 := bt_less hbt B0 q1
  have b2 := bt_less hbt C0 q2
  have s1 := up_add (a := ((f k).2 - (f i).2) * d) (b := ((f j).2 - (f k).2) * d) (show 0 < d + n by omega)
  have s2 := dn_add (a := ((f k).2 - (f i).2) * d) (b := ((f j).2 - (f k).2) * d) (show 0 < d - n by omega)
  rw [← Int.add_mul, show (f k).2 - (f i).2 + ((f j).2 - (f k).2) = (f j).2 - (f i).2 by omega] at s1 s2
  obtain ⟨_, _, u1, u2⟩ := bt_parts b1
  obtain ⟨_, _, u3, u4⟩ := bt_parts b2
  have l1 := up_le_self d3 d1 B0
  have l2 := self_le_dn d3 d1 d4 B0
  have l3 := up_le_self d3 d1 C0
  have l4 := self_le_dn d3 d1 d4 C0
  have nlt1 : ¬ (f k).2 < (f i).2 := by omega
  have nlt2 : ¬ (f j).2 < (f k).2 := by omega
  rw [e1, e2] at oA ⊢
  have P1 : crP true lo hi (f i).2 n d (f k).2 = true := crP_mk o1 o2 o3 ok
  generalize hU : upI (((f j).2 - (f i).2) * d) (d + n) = U at *
  generalize hV : dnI (((f j).2 - (f i).2) * d) (d - n) = V at *
  have X := @crC_0 lo hi (f i).2 n d (f k).2 P1 nlt1 b1
  have Y := fun (lo' hi' : Int) (h : okI lo' hi' = true) => @crC_0 lo' hi' (f k).2 n d (f j).2 (crP_mk h ok o3 o4) nlt2 b2
  clear hU hV hbt hpl hp e0 e1 e2 hc P1 b1 b2 hok
  generalize upI (((f k).2 - (f i).2) * d) (d + n) = U1 at *
  generalize dnI (((f k).2 - (f i).2) * d) (d - n) = V1 at *
  generalize upI (((f j).2 - (f k).2) * d) (d + n) = U2 at *
  generalize dnI (((f j).2 - (f k).2) * d) (d - n) = V2 at *
  obtain ⟨p1, p2, p3⟩ := okI_t o1
  obtain ⟨r1, r2, r3⟩ := okI_t oA
  obtain ⟨v1, v2⟩ := okT_t u1
  obtain ⟨v3, v4⟩ := okT_t u2
  obtain ⟨v5, v6⟩ := okT_t u3
  obtain ⟨v7, v8⟩ := okT_t u4
  have m1 : okI (lo + U1) (hi + V1) = true := decide_eq_true ⟨by omega, by omega, by omega⟩
  have m2 : okI (lo + U1 + U2) (hi + V1 + V2) = true := decide_eq_true ⟨by omega, by omega, by omega⟩
  have k1 : okI U1 V1 = true := decide_eq_true ⟨by omega, by omega, by omega⟩
  have k2 : okI U2 V2 = true := decide_eq_true ⟨by omega, by omega, by omega⟩
  obtain ⟨x0, x1, x2⟩ := X (plus_mk o1 k1 m1)
  rw [x0, x1, x2]
  obtain ⟨y0, y1, y2⟩ := Y (lo + U1) (hi + V1) m1 (plus_mk m1 k2 m2)
  rw [y0, y1, y2]
  exact ⟨holds_mk6 oA (by omega) (by omega), rfl, rfl, holds_mk6 m2 (by omega) (by omega), within_mk6 m2 oA (by omega) (by omega)⟩
theorem tmod_in6 {x : Int} {k : Nat} (h0 : 0 ≤ x) (hk : 1 ≤ k) : ∃ r : Nat, x.tmod (k : Int) = (r : Int) ∧ r < k := by
  have e : x.tmod (k : Int) = x % (k : Int) := Int.tmod_eq_emod_of_nonneg h0
  have a := Int.emod_nonneg x (b := (k : Int)) (by omega)
  have b := Int.emod_lt_of_pos x (show (0 : Int) < (k : Int) by omega)
  exact ⟨(x % (k : Int)).toNat, by rw [e]; omega, by omega⟩
theorem cl_may6 {n d b v : Int} (h : ctB n d b = true) : mcB n d b (clI n d b v) = true := by
  have ⟨h1, h2, h3, h4, h5⟩ := clI_in (t := v) h
  have ⟨d1, d2, d3, d4⟩ := okD_t h2
  exact mcB_of h2 h1 h3 (of_upC (by omega) h4) (of_dnC (by omega) h5)
theorem mkL_get6 (n d t c : Int) (f : Nat → Int × Int) (k i : Nat) (hi : i ≤ k) : (mkL n d t c f k).getD i (0, 0) = mkM n d t c f i := by
  have : i < k + 1 := by omega
  simp [mkL, List.getD_eq_getElem?_getD, this]
theorem run_marks6 {n d t c : Int} {f : Nat → Int × Int} {m : Nat} (h : (runL n d t c f m).length ≠ 0) : mrB n d (fun i => (runL n d t c f m).getD i (0, 0)) (runL n d t c f m).length 1 = true := by
  cases hg : runG n d t c m
  · simp [runL, hg] at h
  have e : runL n d t c f m = mkL n d t c f (runN n d t c f m) := by simp [runL, hg]
  rw [e, mkL_len]
  simp only [runG, Bool.and_eq_true, decide_eq_true_eq] at hg
  have hle := runN_le (n := n) (d := d) (t := t) (c := c) (f := f) m
  have hst := runN_step (n := n) (d := d) (t := t) (c := c) (f := f) m
  generalize runN n d t c f m = k at *
  have hok : ∀ i, i ≤ k → okO n d (mkM n d t c f i).1 (mkM n d t c f i).2 = true := fun i hi => mkM_ok hg.1 fun j hj => hst j (by omega)
  refine mrB_of (mkB_of (okO_t hg.1).1 (by omega) (by omega) fun i hi => ?_) (prB_of fun i hi j hj hb => ?_)
  · rw [mkL_get6 _ _ _ _ _ _ _ (by omega)]; exact (okO_t (hok i (by omega))).2
  · have ej : i = j + 1 := by omega
    subst ej
    unfold two; dsimp only
    rw [mkL_get6 _ _ _ _ _ _ _ (by omega), mkL_get6 _ _ _ _ _ _ _ (by omega)]
    have hs := hst j (by omega)
    simp only [stepAt, stepB, Bool.and_eq_true] at hs
    have e1 : (mkM n d t c f (j + 1)).1 - (mkM n d t c f j).1 = (f j).1 := by simp only [mkM]; omega
    have e2 : (mkM n d t c f (j + 1)).2 - (mkM n d t c f j).2 = clI n d (f j).1 (f j).2 := by simp only [mkM]; omega
    rw [e1, e2]
    exact cl_may6 hs.1.1.2
end Go.Proofs.YtblappilppfkiaaDoor
namespace Go.Proofs.YtblappilppfkiaaDoor
open Go.RowKit
set_option linter.unusedVariables false
theorem keepC' {w : World} {g i j k : Nat} {x u : Value} (h : w.cell? ⟨g, i, none⟩ = some x) (hj : g ≠ j) : (w.setCell ⟨j, k, none⟩ u).cell? ⟨g, i, none⟩ = some x := by
  rw [World.cell?_of_block (w := w) (Below.heap_setCell _ _ _ _ hj)]
  exact h
/- What a count is carried tuu by two rates. -/
def rcP (a b c d n : Int) : Bool := okF a b && okF c d && decide (0 ≤ a ∧ 0 ≤ n ∧ n ≤ 1000000)
def rcB (a b c d n : Int) : Bool := rcP a b c d n && okI (upI (n * a) b) (n * c / d)
def rcL (a b c d n : Int) : Int := sel (rcB a b c d n) (upI (n * a) b)
def rcH (a b c d n : Int) : Int := sel (rcB a b c d n) (n * c / d)
theorem rc_no {a b c d n : Int} (h : rcP a b c d n = false) : rcB a b c d n = false ∧ rcL a b c d n = 0 ∧ rcH a b c d n = 0 := by
  have e : rcB a b c d n = false := by rw [rcB, h]; rfl
  exact ⟨e, by rw [rcL, e]; rfl, by rw [rcH, e]; rfl⟩
theorem rc_yes {a b c d n : Int} (h : rcP a b c d n = true) : rcB a b c d n = okI (upI (n * a) b) (n * c / d) ∧ rcL a b c d n = sel (okI (upI (n * a) b) (n * c / d)) (upI (n * a) b) ∧ rcH a b c d n = sel (okI (upI (n * a) b) (n * c / d)) (n * c / d) := by
  have e : rcB a b c d n = okI (upI (n * a) b) (n * c / d) := by rw [rcB, h]; rfl
  exact ⟨e, by rw [rcL, e], by rw [rcH, e]⟩
theorem mulc_bd {n a : Int} (h0 : 0 ≤ n) (h1 : n ≤ 1000000) (h2 : -4000000000000 ≤ a) (h3 : a ≤ 4000000000000) : -4000000000000000000 ≤ n * a ∧ n * a ≤ 4000000000000000000 := by
  have e1 := Int.mul_le_mul_of_nonneg_left h2 h0
  have e2 := Int.mul_le_mul_of_nonneg_left h3 h0
  omega
theorem rc_t {a b c d n : Int} (h : rcP a b c d n = true) : okF a b = true ∧ okF c d = true ∧ 0 ≤ a ∧ 0 ≤ n ∧ n ≤ 1000000 := by
  unfold rcP at h
  simp only [Bool.and_eq_true, decide_eq_true_eq] at h
  exact ⟨h.1.1, h.1.2, h.2⟩
theorem rc_f {a b c d n : Int} (h : rcP a b c d n = false) (h1 : okF a b = true) (h2 : okF c d = true) : ¬ (0 ≤ a ∧ 0 ≤ n ∧ n ≤ 1000000) := by
  rw [rcP, h1, h2] at h
  exact of_decide_eq_false h
end Go.Proofs.YtblappilppfkiaaDoor
namespace Go.Proofs.YtblappilppfkiaaDoor
open Go.RowKit
set_option linter.unusedVariables false
theorem up_rest {x b : Int} (hb : 0 < b) : (0 < x % b → upI x b = x / b + 1) ∧ (¬ 0 < x % b → upI x b = x / b) := by
  have h1 := Int.emod_nonneg x (b := b) (by omega)
  have h2 := Int.emod_lt_of_pos x hb
  have h3 := Int.mul_ediv_add_emod x b
  have hz : b ≠ 0 := by omega
  refine ⟨fun h => ?_, fun h => ?_⟩
  · unfold upI
    have e : x + b - 1 = (x % b - 1) + b * (x / b + 1) := by rw [Int.mul_add]; omega
    rw [e, Int.add_mul_ediv_left _ _ hz, Int.ediv_eq_zero_of_lt (by omega) (by omega)]
    omega
  · unfold upI
    have e : x + b - 1 = (x % b + b - 1) + b * (x / b) := by omega
    rw [e, Int.add_mul_ediv_left _ _ hz, Int.ediv_eq_zero_of_lt (by omega) (by omega)]
    omega
set_option maxHeartbeats 8000000 in
theorem carry_any (a b c d n : Int) (w : World) (h1 : okF a b = true) (h2 : okF c d = true) (g1 : 0 ≤ a) (g2 : 0 ≤ n) (g3 : n ≤ 1000000) : Calls Tryd.prog 45 #[.agg #[.int .i64 a, .int .i64 b, .int .i64 c, .int .i64 d], .int .i64 n] w fun e w' => e = .returned (.agg #[.int .i64 (upI (n * a) b), .int .i64 (n * c / d)]) ∧ Below w.heap.size w w' := by
  have A0 := Below.nw w (.cells #[.int .i64 a, .int .i64 b, .int .i64 c, .int .i64 d] 83)
  have A1 := Below.nw (w.alloc (.cells #[.int .i64 a, .int .i64 b, .int .i64 c, .int .i64 d] 83)) (.cells #[.int .i64 0, .int .i64 0] 49)
  have N := (Rx4.new w a b c d 83).below A1
  have R := Bx2.new (w.alloc (.cells #[.int .i64 a, .int .i64 b, .int .i64 c, .int .i64 d] 83)) (.int .i64 0) (.int .i64 0) 49
  have B := A0.trans (A1.mono A0.size)
  simp only [World.size_alloc] at R
  clear A0 A1
  have hj : w.heap.size ≤ w.heap.size + 1 := by omega
  have k1 := okF_t h1
  have k2 := okF_t h2
  have b1 := mulc_bd g2 g3 k1.1.1 k1.1.2
  have b2 := mulc_bd g2 g3 k2.1.1 k2.1.2
  have b3 : 0 ≤ n * a := Int.mul_nonneg g2 g1
  have hw1 : wrap64 (n * a) = n * a := Go.IntWalk.wrap64_in _ ⟨by omega, by omega⟩
  have hw2 : wrap64 (n * c) = n * c := Go.IntWalk.wrap64_in _ ⟨by omega, by omega⟩
  have hw3 : IntKind.i64.wrap (n * a) = n * a := Go.IntWalk.i64_in _ ⟨by omega, by omega⟩
  have hw4 : IntKind.i64.wrap (n * c) = n * c := Go.IntWalk.i64_in _ ⟨by omega, by omega⟩
  have CU := fun w' => divided_any (n * a) b w' (by omega) (by omega) (by omega) (by omega)
  have CD := fun w' => divided_any (n * c) d w' (by omega) (by omega) (by omega) (by omega)
  have q1 : 0 ≤ n * a / b ∧ n * a / b ≤ n * a := dnI_bd b3 (by omega)
  obtain ⟨u1, u2⟩ := up_rest (x := n * a) (b := b) (by omega)
  by_cases hr : 0 < n * a % b
  · rw [u1 hr]
    clear u1 u2
    have hw5 : wrap64 (n * a / b + 1) = n * a / b + 1 := Go.IntWalk.wrap64_in _ ⟨by omega, by omega⟩
    generalize n * a / b = xa at *
    generalize n * a % b = ra at *
    generalize n * c / d = xc at *
    generalize n * c % d = rc at *
    clear q1 b1 b2 b3 k1 k2
    go_enter Tryd.func45, Tryd.ntmps45; go_upto_region 1 with fail; generalize (w.alloc (.cells #[.int .i64 a, .int .i64 b, .int .i64 c, .int .i64 d] 83)).alloc (.cells #[.int .i64 0, .int .i64 0] 49) = v at *; generalize w.heap.size + 1 = jr at *
    obtain ⟨n0, n1, n2, n3, n4, f1, f2, f3, f4⟩ := id N
    go_wp2_with fail
    refine (CU _).mono ?_
    rintro e v2 ⟨rfl, hbl⟩
    clear n0 n1 n2 n3 n4 f1 f2 f3 f4
    replace N := N.below hbl; replace R := R.below hbl; replace B := B.trans (hbl.mono B.size); clear hbl
    obtain ⟨n0, n1, n2, n3, n4, f1, f2, f3, f4⟩ := id N
    go_wp2_with fail
    refine (CD _).mono ?_
    rintro e v3 ⟨rfl, hbl⟩
    clear n0 n1 n2 n3 n4 f1 f2 f3 f4
    replace N := N.below hbl; replace R := R.below hbl; replace B := B.trans (hbl.mono B.size); clear hbl
    obtain ⟨r0, r1, r2, r3, r4⟩ := id R
    go_wp2_with fail
    exact bodyPost_ret (v := (.agg #[.int .i64 (xa + 1), .int .i64 xc])) (by simp (maxDischargeDepth := 6) [results, Tryd.results45, go_sem, *]) rfl ⟨rfl, (B.setCell (p := ⟨jr, 0, none⟩) hj _).setCell (p := ⟨jr, 1, none⟩) hj _⟩
  · rw [u2 hr]
    clear u1 u2
    have hr' : decide (0 < n * a % b) = false := decide_eq_false hr
    generalize n * a / b = xa at *
    generalize n * a % b = ra at *
    generalize n * c / d = xc at *
    generalize n * c % d = rc at *
    clear q1 b1 b2 b3 k1 k2
    go_enter Tryd.func45, Tryd.ntmps45; go_upto_region 1 with fail; generalize (w.alloc (.cells #[.int .i64 a, .int .i64 b, .int .i64 c, .int .i64 d] 83)).alloc (.cells #[.int .i64 0, .int .i64 0] 49) = v at *; generalize w.heap.size + 1 = jr at *
    obtain ⟨n0, n1, n2, n3, n4, f1, f2, f3, f4⟩ := id N
    go_wp2_with fail
    refine (CU _).mono ?_
    rintro e v2 ⟨rfl, hbl⟩
    clear n0 n1 n2 n3 n4 f1 f2 f3 f4
    replace N := N.below hbl; replace R := R.below hbl; replace B := B.trans (hbl.mono B.size); clear hbl
    obtain ⟨n0, n1, n2, n3, n4, f1, f2, f3, f4⟩ := id N
    go_wp2_with fail
    refine (CD _).mono ?_
    rintro e v3 ⟨rfl, hbl⟩
    clear n0 n1 n2 n3 n4 f1 f2 f3 f4
    replace N := N.below hbl; replace R := R.below hbl; replace B := B.trans (hbl.mono B.size); clear hbl
    obtain ⟨r0, r1, r2, r3, r4⟩ := id R
    go_wp2_with fail
    exact bodyPost_ret (v := (.agg #[.int .i64 xa, .int .i64 xc])) (by simp (maxDischargeDepth := 6) [results, Tryd.results45, go_sem, *]) rfl ⟨rfl, (B.setCell (p := ⟨jr, 0, none⟩) hj _).setCell (p := ⟨jr, 1, none⟩) hj _⟩
set_option maxRecDepth 100000 in
set_option maxHeartbeats 8000000 in
theorem implRateCarry_any (a b c d n : Int) (u : Addr) (w : World) (E : Er w 0 u) : Calls Tryd.prog 20 #[.agg #[.int .i64 a, .int .i64 b], .agg #[.int .i64 c, .int .i64 d], .int .i64 n] w fun e w' => e = .returned (.tuple #[.agg #[.int .i64 (rcL a b c d n), .int .i64 (rcH a b c d n)], .bool (rcB a b c d n)]) ∧ Below w.heap.size w w' := by
  have A0 := Below.nw w (.cells #[.int .i64 a, .int .i64 b] 27)
  have A1 := Below.nw (w.alloc (.cells #[.int .i64 a, .int .i64 b] 27)) (.cells #[.int .i64 c, .int .i64 d] 27)
  have A2 := Below.nw ((w.alloc (.cells #[.int .i64 a, .int .i64 b] 27)).alloc (.cells #[.int .i64 c, .int .i64 d] 27)) (.cells #[.int .i64 0, .int .i64 0] 49)
  have P := ((Bx2.new w (.int .i64 a) (.int .i64 b) 27).below A1).below A2
  have Q := (Bx2.new (w.alloc (.cells #[.int .i64 a, .int .i64 b] 27)) (.int .i64 c) (.int .i64 d) 27).below A2
  have R := Bx2.new ((w.alloc (.cells #[.int .i64 a, .int .i64 b] 27)).alloc (.cells #[.int .i64 c, .int .i64 d] 27)) (.int .i64 0) (.int .i64 0) 49
  have B := (A0.trans (A1.mono A0.size)).trans (A2.mono (A0.trans (A1.mono A0.size)).size)
  simp only [World.size_alloc] at Q R
  clear A0 A1 A2
  have hj : w.heap.size ≤ w.heap.size + 1 + 1 := by omega
  have d1 : w.heap.size ≠ w.heap.size + 1 + 1 := by omega
  have d2 : w.heap.size + 1 ≠ w.heap.size + 1 + 1 := by omega
  have A3 := Below.nw (((w.alloc (.cells #[.int .i64 a, .int .i64 b] 27)).alloc (.cells #[.int .i64 c, .int .i64 d] 27)).alloc (.cells #[.int .i64 0, .int .i64 0] 49)) (.cells #[.int .i64 a, .int .i64 b, .int .i64 c, .int .i64 d] 83)
  have N := Rx4.new (((w.alloc (.cells #[.int .i64 a, .int .i64 b] 27)).alloc (.cells #[.int .i64 c, .int .i64 d] 27)).alloc (.cells #[.int .i64 0, .int .i64 0] 49)) a b c d 83
  simp only [World.size_alloc] at N
  replace P := P.below A3
  replace R := R.below A3
  replace B := B.trans (A3.mono B.size)
  clear A3 d1 d2 Q
  replace E := E.below B
  cases hP : rcP a b c d n
  · obtain ⟨e1, e2, e3⟩ := rc_no hP
    rw [e1, e2, e3]
    clear e1 e2 e3
    cases hk : (okF a b && okF c d)
    · go_enter Tryd.func20, Tryd.ntmps20; go_upto_region 2 with fail; generalize (((w.alloc (.cells #[.int .i64 a, .int .i64 b] 27)).alloc (.cells #[.int .i64 c, .int .i64 d] 27)).alloc (.cells #[.int .i64 0, .int .i64 0] 49)).alloc (.cells #[.int .i64 a, .int .i64 b, .int .i64 c, .int .i64 d] 83) = v at *; generalize w.heap.size + 1 + 1 + 1 = jn at *; generalize w.heap.size + 1 + 1 = jr at *; generalize w.heap.size + 1 = jb at *; obtain ⟨m0, m1, m2, m3, m4⟩ := id P; obtain ⟨n0, n1, n2, n3, n4, f1, f2, f3, f4⟩ := id N; obtain ⟨r0, r1, r2, r3, r4⟩ := id R; go_wp2_with fail; refine (ratesOk_any a b c d u v E).mono ?_; rintro e v2 ⟨rfl, hbl⟩; rw [hk]; clear m0 m1 m2 m3 m4 n0 n1 n2 n3 n4 f1 f2 f3 f4 r0 r1 r2 r3 r4; replace P := P.below hbl; replace N := N.below hbl; replace R := R.below hbl; replace E := E.below hbl; replace B := B.trans (hbl.mono B.size); clear hbl; obtain ⟨m0, m1, m2, m3, m4⟩ := id P; obtain ⟨n0, n1, n2, n3, n4, f1, f2, f3, f4⟩ := id N; obtain ⟨r0, r1, r2, r3, r4⟩ := id R
      go_wp2_with fail; exact bodyPost_ret (v := (.tuple #[.agg #[.int .i64 0, .int .i64 0], .bool false])) (by simp (maxDischargeDepth := 6) [results, Tryd.results20, go_sem, *]) rfl ⟨rfl, (B.setCell (p := ⟨jr, 0, none⟩) hj _).setCell (p := ⟨jr, 1, none⟩) hj _⟩
    have hk' := hk
    simp only [Bool.and_eq_true] at hk'
    have hB := rc_f hP hk'.1 hk'.2
    clear hP hk'
    by_cases c1 : a < 0
    · clear hB
      go_enter Tryd.func20, Tryd.ntmps20; go_upto_region 2 with fail; generalize (((w.alloc (.cells #[.int .i64 a, .int .i64 b] 27)).alloc (.cells #[.int .i64 c, .int .i64 d] 27)).alloc (.cells #[.int .i64 0, .int .i64 0] 49)).alloc (.cells #[.int .i64 a, .int .i64 b, .int .i64 c, .int .i64 d] 83) = v at *; generalize w.heap.size + 1 + 1 + 1 = jn at *; generalize w.heap.size + 1 + 1 = jr at *; generalize w.heap.size + 1 = jb at *; obtain ⟨m0, m1, m2, m3, m4⟩ := id P; obtain ⟨n0, n1, n2, n3, n4, f1, f2, f3, f4⟩ := id N; obtain ⟨r0, r1, r2, r3, r4⟩ := id R; go_wp2_with fail; refine (ratesOk_any a b c d u v E).mono ?_; rintro e v2 ⟨rfl, hbl⟩; rw [hk]; clear m0 m1 m2 m3 m4 n0 n1 n2 n3 n4 f1 f2 f3 f4 r0 r1 r2 r3 r4; replace P := P.below hbl; replace N := N.below hbl; replace R := R.below hbl; replace E := E.below hbl; replace B := B.trans (hbl.mono B.size); clear hbl; obtain ⟨m0, m1, m2, m3, m4⟩ := id P; obtain ⟨n0, n1, n2, n3, n4, f1, f2, f3, f4⟩ := id N; obtain ⟨r0, r1, r2, r3, r4⟩ := id R
      go_wp2_with fail; exact bodyPost_ret (v := (.tuple #[.agg #[.int .i64 0, .int .i64 0], .bool false])) (by simp (maxDischargeDepth := 6) [results, Tryd.results20, go_sem, *]) rfl ⟨rfl, (B.setCell (p := ⟨jr, 0, none⟩) hj _).setCell (p := ⟨jr, 1, none⟩) hj _⟩
    have c1' : decide (a < 0) = false := decide_eq_false c1
    by_cases c2 : n < 0
    · clear hB c1
      go_enter Tryd.func20, Tryd.ntmps20; go_upto_region 2 with fail; generalize (((w.alloc (.cells #[.int .i64 a, .int .i64 b] 27)).alloc (.cells #[.int .i64 c, .int .i64 d] 27)).alloc (.cells #[.int .i64 0, .int .i64 0] 49)).alloc (.cells #[.int .i64 a, .int .i64 b, .int .i64 c, .int .i64 d] 83) = v at *; generalize w.heap.size + 1 + 1 + 1 = jn at *; generalize w.heap.size + 1 + 1 = jr at *; generalize w.heap.size + 1 = jb at *; obtain ⟨m0, m1, m2, m3, m4⟩ := id P; obtain ⟨n0, n1, n2, n3, n4, f1, f2, f3, f4⟩ := id N; obtain ⟨r0, r1, r2, r3, r4⟩ := id R; go_wp2_with fail; refine (ratesOk_any a b c d u v E).mono ?_; rintro e v2 ⟨rfl, hbl⟩; rw [hk]; clear m0 m1 m2 m3 m4 n0 n1 n2 n3 n4 f1 f2 f3 f4 r0 r1 r2 r3 r4; replace P := P.below hbl; replace N := N.below hbl; replace R := R.below hbl; replace E := E.below hbl; replace B := B.trans (hbl.mono B.size); clear hbl; obtain ⟨m0, m1, m2, m3, m4⟩ := id P; obtain ⟨n0, n1, n2, n3, n4, f1, f2, f3, f4⟩ := id N; obtain ⟨r0, r1, r2, r3, r4⟩ := id R
      go_wp2_with fail; exact bodyPost_ret (v := (.tuple #[.agg #[.int .i64 0, .int .i64 0], .bool false])) (by simp (maxDischargeDepth := 6) [results, Tryd.results20, go_sem, *]) rfl ⟨rfl, (B.setCell (p := ⟨jr, 0, none⟩) hj _).setCell (p := ⟨jr, 1, none⟩) hj _⟩
    have c2' : decide (n < 0) = false := decide_eq_false c2
    have c3 : 1000000 < n := by omega
    clear hB c1 c2
    go_enter Tryd.func20, Tryd.ntmps20; go_upto_region 2 with fail; generalize (((w.alloc (.cells #[.int .i64 a, .int .i64 b] 27)).alloc (.cells #[.int .i64 c, .int .i64 d] 27)).alloc (.cells #[.int .i64 0, .int .i64 0] 49)).alloc (.cells #[.int .i64 a, .int .i64 b, .int .i64 c, .int .i64 d] 83) = v at *; generalize w.heap.size + 1 + 1 + 1 = jn at *; generalize w.heap.size + 1 + 1 = jr at *; generalize w.heap.size + 1 = jb at *; obtain ⟨m0, m1, m2, m3, m4⟩ := id P; obtain ⟨n0, n1, n2, n3, n4, f1, f2, f3, f4⟩ := id N; obtain ⟨r0, r1, r2, r3, r4⟩ := id R; go_wp2_with fail; refine (ratesOk_any a b c d u v E).mono ?_; rintro e v2 ⟨rfl, hbl⟩; rw [hk]; clear m0 m1 m2 m3 m4 n0 n1 n2 n3 n4 f1 f2 f3 f4 r0 r1 r2 r3 r4; replace P := P.below hbl; replace N := N.below hbl; replace R := R.below hbl; replace E := E.below hbl; replace B := B.trans (hbl.mono B.size); clear hbl; obtain ⟨m0, m1, m2, m3, m4⟩ := id P; obtain ⟨n0, n1, n2, n3, n4, f1, f2, f3, f4⟩ := id N; obtain ⟨r0, r1, r2, r3, r4⟩ := id R
    go_wp2_with fail; exact bodyPost_ret (v := (.tuple #[.agg #[.int .i64 0, .int .i64 0], .bool false])) (by simp (maxDischargeDepth := 6) [results, Tryd.results20, go_sem, *]) rfl ⟨rfl, (B.setCell (p := ⟨jr, 0, none⟩) hj _).setCell (p := ⟨jr, 1, none⟩) hj _⟩
  obtain ⟨e1, e2, e3⟩ := rc_yes hP
  rw [e1, e2, e3]
  obtain ⟨h1, h2, g1, g2, g3⟩ := rc_t hP
  clear e1 e2 e3 hP
  have hk : (okF a b && okF c d) = true := by rw [h1, h2]; rfl
  have c1' : decide (a < 0) = false := decide_eq_false (by omega)
  have c2' : decide (n < 0) = false := decide_eq_false (by omega)
  have c3' : decide (1000000 < n) = false := decide_eq_false (by omega)
  have CA := fun w' => carry_any a b c d n w' h1 h2 g1 g2 g3
  generalize upI (n * a) b = ul at *
  generalize n * c / d = dl at *
  have CT := fun w' => told_any ul dl w'
  generalize sel (okI ul dl) ul = sl at *
  generalize sel (okI ul dl) dl = sh at *
  generalize okI ul dl = ok at *
  clear h1 h2 g1 g2 g3
  go_enter Tryd.func20, Tryd.ntmps20; go_upto_region 2 with fail; generalize (((w.alloc (.cells #[.int .i64 a, .int .i64 b] 27)).alloc (.cells #[.int .i64 c, .int .i64 d] 27)).alloc (.cells #[.int .i64 0, .int .i64 0] 49)).alloc (.cells #[.int .i64 a, .int .i64 b, .int .i64 c, .int .i64 d] 83) = v at *; generalize w.heap.size + 1 + 1 + 1 = jn at *; generalize w.heap.size + 1 + 1 = jr at *; generalize w.heap.size + 1 = jb at *; obtain ⟨m0, m1, m2, m3, m4⟩ := id P; obtain ⟨n0, n1, n2, n3, n4, f1, f2, f3, f4⟩ := id N; obtain ⟨r0, r1, r2, r3, r4⟩ := id R; go_wp2_with fail; refine (ratesOk_any a b c d u v E).mono ?_; rintro e v2 ⟨rfl, hbl⟩; rw [hk]; clear m0 m1 m2 m3 m4 n0 n1 n2 n3 n4 f1 f2 f3 f4 r0 r1 r2 r3 r4; replace P := P.below hbl; replace N := N.below hbl; replace R := R.below hbl; replace E := E.below hbl; replace B := B.trans (hbl.mono B.size); clear hbl; obtain ⟨m0, m1, m2, m3, m4⟩ := id P; obtain ⟨n0, n1, n2, n3, n4, f1, f2, f3, f4⟩ := id N; obtain ⟨r0, r1, r2, r3, r4⟩ := id R
  go_wp2_with fail
  refine (CA _).mono ?_
  rintro e v3 ⟨rfl, hbl⟩
  clear m0 m1 m2 m3 m4 n0 n1 n2 n3 n4 f1 f2 f3 f4 r0 r1 r2 r3 r4
  replace P := P.below hbl; replace N := N.below hbl; replace R := R.below hbl; replace E := E.below hbl; replace B := B.trans (hbl.mono B.size); clear hbl
  go_wp2_with fail
  refine (CT _).mono ?_
  rintro e v4 ⟨rfl, hbl⟩
  replace P := P.below hbl; replace N := N.below hbl; replace R := R.below hbl; replace E := E.below hbl; replace B := B.trans (hbl.mono B.size); clear hbl
  obtain ⟨r0, r1, r2, r3, r4⟩ := id R
  go_wp2_with fail
  exact bodyPost_ret (v := .tuple #[.agg #[.int .i64 sl, .int .i64 sh], .bool ok]) (by simp (maxDischargeDepth := 6) [results, Tryd.results20, go_sem, *]) rfl ⟨rfl, (B.setCell (p := ⟨jr, 0, none⟩) hj _).setCell (p := ⟨jr, 1, none⟩) hj _⟩
end Go.Proofs.YtblappilppfkiaaDoor
namespace Go.Proofs.YtblappilppfkiaaDoor
open Go.RowKit
set_option linter.unusedVariables false
/- Rates of a drift: what a count is carried tuu by them is what lies between. -/
theorem up_scale {x b g : Int} (hb : 0 < b) (hg : 0 < g) : upI (x * g) (b * g) = upI x b := by
  rw [← upI_neg (Int.mul_pos hb hg), ← upI_neg hb, ← Int.neg_mul, dn_scale hg]
theorem fo_parts {x y : Int} (hx : -4000000000000 ≤ x ∧ x ≤ 4000000000000) (hy : 1 ≤ y ∧ y ≤ 4000000000000) : foX x y = foN x y ∧ foY x y = foD x y ∧ 0 < foG x y ∧ foN x y * foG x y = x ∧ foD x y * foG x y = y ∧ 0 < foD x y := by
  obtain ⟨e1, e2⟩ := fo_t (foB_in hx hy)
  obtain ⟨h1, h2⟩ := fo_exact (x := x) (y := y)
  exact ⟨e1, e2, foG_pos (by omega), h1, h2, fo_pos (by omega)⟩
theorem rate_carry {n d c : Int} (hD : okD n d = true) (h0 : 0 ≤ c) (h1 : c ≤ 1000000) :
    rcB (rdX n d) (rdY n d) (rdZ n d) (rdU n d) c = true ∧ rcL (rdX n d) (rdY n d) (rdZ n d) (rdU n d) c = upI (c * d) (d + n) ∧ rcH (rdX n d) (rdY n d) (rdZ n d) (rdU n d) c = dnI (c * d) (d - n) ∧ btB n d c = true := by
  obtain ⟨d1, d2, d3, d4⟩ := okD_t hD
  obtain ⟨r1, r2, r3, r4⟩ := rd_t hD
  obtain ⟨k1, k2⟩ := rd_ok n d
  rw [hD] at k1 k2
  obtain ⟨a1, a2, a3, a4, a5, a6⟩ := fo_parts (x := d) (y := d + n) ⟨by omega, by omega⟩ ⟨by omega, by omega⟩
  obtain ⟨b1, b2, b3, b4, b5, b6⟩ := fo_parts (x := d) (y := d - n) ⟨by omega, by omega⟩ ⟨by omega, by omega⟩
  have hcd : 0 ≤ c * d := Int.mul_nonneg h0 (by omega)
  have hcd2 : c * d ≤ 1000000000000 := by
    have e1 := Int.mul_le_mul_of_nonneg_right h1 (show 0 ≤ d by omega)
    omega
  have u1 := upI_bd (x := c * d) (n := d + n) hcd (by omega)
  have u2 := dnI_bd (x := c * d) (n := d - n) hcd (by omega)
  have u3 := up_le_self (n := n) (d := d) (x := c) d3 d1 h0
  have u4 := self_le_dn (n := n) (d := d) (x := c) d3 d1 d4 h0
  have e1 : upI (c * rdX n d) (rdY n d) = upI (c * d) (d + n) := by
    rw [r1, r2, a1, a2, ← up_scale a6 a3, Int.mul_assoc, a4, a5]
  have e2 : c * rdZ n d / rdU n d = dnI (c * d) (d - n) := by
    rw [r3, r4, b1, b2, dnI, ← dn_scale (x := c * foN d (d - n)) (n := foD d (d - n)) b3, Int.mul_assoc, b4, b5]
  have hpos : 0 ≤ rdX n d := by
    rw [r1, a1]
    refine Int.le_of_not_gt fun hc => ?_
    have := Int.mul_nonneg (show 0 ≤ -foN d (d + n) by omega) (show 0 ≤ foG d (d + n) by omega)
    rw [Int.neg_mul, a4] at this
    omega
  have hP : rcP (rdX n d) (rdY n d) (rdZ n d) (rdU n d) c = true := by
    rw [rcP, k1, k2]
    exact decide_eq_true ⟨hpos, h0, h1⟩
  obtain ⟨f1, f2, f3⟩ := rc_yes hP
  have hok : okI (upI (c * d) (d + n)) (dnI (c * d) (d - n)) = true := decide_eq_true ⟨by omega, by omega, by omega⟩
  have hT : ∀ z : Int, 0 ≤ z → z ≤ 1000000000000 → okT z = true := fun z p q => decide_eq_true ⟨p, q⟩
  rw [f1, f2, f3, e1, e2, hok]
  exact ⟨rfl, sel_t rfl _, sel_t rfl _, bt_mk hD (hT _ h0 (by omega)) (hT _ u1.1 (by omega)) (hT _ u2.1 (by omega))⟩
theorem rate_far {a b c d n : Int} (h : 1000000 < n) : rcB a b c d n = false := by
  have e : rcP a b c d n = false := by
    unfold rcP
    rw [decide_eq_false (show ¬ (0 ≤ a ∧ 0 ≤ n ∧ n ≤ 1000000) from fun h' => by omega), Bool.and_false]
  exact (rc_no e).1
/- Where both intervals had true time, and the oscillator kept its drift, the rates meet. -/
theorem lo_under {a b e f t c : Int} (h1 : cmpF a b t c ≤ 0) (h2 : cmpF e f t c ≤ 0) : cmpF (loP a b e f a e) (loP a b e f b f) t c ≤ 0 := by
  unfold loP
  split
  · exact h2
  · exact h1
theorem hi_over {a b e f t c : Int} (h1 : cmpF t c a b ≤ 0) (h2 : cmpF t c e f ≤ 0) : cmpF t c (hiP a b e f a e) (hiP a b e f b f) ≤ 0 := by
  unfold hiP
  split
  · exact h2
  · exact h1
theorem not_broken {n d al ah ca bl bh cb ti tj : Int} (h1 : al ≤ ti ∧ ti ≤ ah) (h2 : bl ≤ tj ∧ tj ≤ bh) (h3 : (cb - ca) * d ≤ (tj - ti) * (d + n)) (h4 : (tj - ti) * (d - n) ≤ (cb - ca) * d) (h5 : 0 ≤ tj - ti) :
    brB n d al ah ca bl bh cb = false := by
  unfold brB
  cases hR : roB al ah ca bl bh cb
  · rfl
  cases hD : okD n d
  · rfl
  have hP : mtP (roX al ah ca bl bh cb) (roY al ah ca bl bh cb) (roZ al ah ca bl bh cb) (roU al ah ca bl bh cb) (rdX n d) (rdY n d) (rdZ n d) (rdU n d) = true := by rw [br_mt, hR, hD]; rfl
  obtain ⟨⟨_, _, okl⟩, ⟨_, _, okh⟩, hB⟩ := mt_yes hP
  obtain ⟨e1, e2, e3, e4⟩ := ro_t hR
  obtain ⟨r1, r2, r3, r4⟩ := rd_t hD
  obtain ⟨d1, d2, d3, d4⟩ := okD_t hD
  have hR' := hR
  unfold roB at hR'
  simp only [Bool.and_eq_true, decide_eq_true_eq] at hR'
  obtain ⟨⟨k1, k2⟩, c1, c2, c3, c4⟩ := hR'
  have i1 := okI_t k1
  have i2 := okI_t k2
  have hC : 0 < cb - ca := by omega
  have hm : 0 ≤ imx 0 (bl - ah) ∧ imx 0 (bl - ah) ≤ 4000000000000 ∧ imx 0 (bl - ah) ≤ tj - ti := by
    by_cases hq : 0 ≤ bl - ah
    · rw [imx_g (x := 0) (y := bl - ah) (by omega)]
      omega
    · rw [imx_l (x := 0) (y := bl - ah) (by omega)]
      omega
  obtain ⟨a1, a2, _⟩ := fo_parts (x := imx 0 (bl - ah)) (y := cb - ca) ⟨by omega, by omega⟩ ⟨by omega, by omega⟩
  obtain ⟨b1, b2, _⟩ := fo_parts (x := bh - al) (y := cb - ca) ⟨by omega, by omega⟩ ⟨by omega, by omega⟩
  obtain ⟨p1, p2, _⟩ := fo_parts (x := d) (y := d + n) ⟨by omega, by omega⟩ ⟨by omega, by omega⟩
  obtain ⟨q1, q2, _⟩ := fo_parts (x := d) (y := d - n) ⟨by omega, by omega⟩ ⟨by omega, by omega⟩
  have w1 : cmpF (roX al ah ca bl bh cb) (roY al ah ca bl bh cb) (tj - ti) (cb - ca) ≤ 0 := by
    rw [e1, e2, a1, a2, cmp_fo hC, cmp_le]
    exact Int.mul_le_mul_of_nonneg_right hm.2.2 (by omega)
  have w2 : cmpF (rdX n d) (rdY n d) (tj - ti) (cb - ca) ≤ 0 := by
    rw [r1, r2, p1, p2, cmp_fo (by omega), cmp_le, Int.mul_comm d]
    exact h3
  have w3 : cmpF (tj - ti) (cb - ca) (roZ al ah ca bl bh cb) (roU al ah ca bl bh cb) ≤ 0 := by
    rw [e3, e4, b1, b2, cmp_fo' hC, cmp_le]
    exact Int.mul_le_mul_of_nonneg_right (by omega) (by omega)
  have w4 : cmpF (tj - ti) (cb - ca) (rdZ n d) (rdU n d) ≤ 0 := by
    rw [r3, r4, q1, q2, cmp_fo' (by omega), cmp_le, Int.mul_comm d]
    exact h4
  obtain ⟨_, y1, _⟩ := okF_t okl
  obtain ⟨_, y2, _⟩ := okF_t okh
  have fin := cmp_trans (by omega) hC (by omega) (lo_under w1 w2) (hi_over w3 w4)
  rw [hB, decide_eq_false (by omega)]
  rfl
theorem broken_no : brB 0 1 0 0 0 5 5 5 = false := by decide +kernel
theorem broken_yes : brB 0 1 0 0 0 5 5 6 = true := by decide +kernel
theorem mark_pair {n d : Int} {f : Nat → Int × Int} {l i j : Nat} (hr : mrB n d f l 1 = true) (hij : i ≤ j) (hj : j < l) : 0 ≤ (f j).2 - (f i).2 ∧ 0 ≤ (f j).1 - (f i).1 ∧ ((f j).1 - (f i).1) * (d - n) ≤ ((f j).2 - (f i).2) * d ∧ ((f j).2 - (f i).2) * d ≤ ((f j).1 - (f i).1) * (d + n) := by
  by_cases e : i = j
  · subst e; simp
  · have ⟨_, a2, a3, a4, a5⟩ := mcB_y (two_lt hr (show i < j by omega) hj)
    exact ⟨(okT_t a3).1, (okT_t a2).1, a4, a5⟩
end Go.Proofs.YtblappilppfkiaaDoor
namespace Go.Proofs.YtblappilppfkiaaDoor
open Go.RowKit
set_option linter.unusedVariables false
theorem pickLit (B p : Nat) (w : World) (L : List Int) (hcur : CurOk w B p) (h0 : 0 < L.length) (h1 : L.length ≤ 100) :
    Calls Tryd.prog 25 #[.pointer (some ⟨p, 0, none⟩), .slice (some ⟨w.heap.size, 0, none⟩) L.length L.length] (w.alloc (.cells (L.map (Value.int .i64)).toArray 3)) fun e w' => ∃ v : Int, e = .returned (.int .i64 v) ∧ CurOk w' B p ∧ But p w w' := by
  have hb : Below w.heap.size w (w.alloc (.cells (L.map (Value.int .i64)).toArray 3)) := (Below.refl _ _).alloc (Nat.le_refl _) _
  have hl := hcur.lt
  refine (l1PickInt_any B p w.heap.size 0 L.length L.length _ (hcur.below hb) h0 h1 (by simp) (by omega) (fun j hj => ⟨L[j], by simp [hj]⟩)).mono ?_
  rintro e w' ⟨j, v, hj, _, rfl, hc, hw⟩
  exact ⟨v, rfl, hc, (But.of_below hb).trans hw⟩
def imnD (x y : Int) : Int := if x < y then x else y
set_option maxHeartbeats 400000 in
theorem l1MinD (x y : Int) (w : World) :
    Calls Tryd.prog 77 #[.int .i64 x, .int .i64 y] w fun e w' => ∃ v : Int, e = .returned (.int .i64 v) ∧ w = w' := by
  go_enter Tryd.func77, Tryd.ntmps77
  go_wp2
  all_goals go_ret
  all_goals exact ⟨_, rfl, rfl⟩
set_option maxHeartbeats 400000 in
theorem l1MaxD (x y : Int) (w : World) :
    Calls Tryd.prog 78 #[.int .i64 x, .int .i64 y] w fun e w' => ∃ v : Int, e = .returned (.int .i64 v) ∧ w = w' := by
  go_enter Tryd.func78, Tryd.ntmps78
  go_wp2
  all_goals go_ret
  all_goals exact ⟨_, rfl, rfl⟩
theorem CurOk.setOther {w : World} {B p : Nat} (h : CurOk w B p) {k : Nat} (hk : k ≠ p) (hB : B ≤ k) (o : Nat) (u : Value) : CurOk (w.setCell ⟨k, o, none⟩ u) B p := by
  obtain ⟨a, n, c, i, hh, h0, h1, h2, f0, f1, f2, hi, hn, hc, hBp, hp⟩ := h
  have hne : ∀ q, (⟨k, o, none⟩ : Addr) ≠ ⟨p, q, none⟩ := fun q e => hk (congrArg Addr.block e)
  refine ⟨a, n, c, i, hh, ?_, ?_, ?_, by simpa using f0, by simpa using f1, by simpa using f2, hi, hn, hc.below ((Below.refl _ _).setCell hB _), hBp, by simpa using hp⟩
  · rw [World.cell?_setCell_other _ _ _ _ (hne _)]; exact h0
  · rw [World.cell?_setCell_other _ _ _ _ (hne _)]; exact h1
  · rw [World.cell?_setCell_other _ _ _ _ (hne _)]; exact h2
theorem But.setNew {p : Nat} {a w : World} (h : But p a w) {k : Nat} (hk : a.heap.size ≤ k) (o : Nat) (u : Value) : But p a (w.setCell ⟨k, o, none⟩ u) :=
  ⟨h.1, h.2.1, h.2.2.1, by rw [World.size_setCell]; exact h.2.2.2.1, fun j hj hp => (Below.heap_setCell w ⟨k, o, none⟩ u j (by simp; omega)).trans (h.2.2.2.2 j hj hp)⟩
theorem But.alloc {p : Nat} {a w : World} (h : But p a w) (o : Obj) : But p a (w.alloc o) :=
  h.trans (But.of_below ((Below.refl _ _).alloc (Nat.le_refl _) _))
end Go.Proofs.YtblappilppfkiaaDoor
namespace Go.Proofs.YtblappilppfkiaaDoor
open Go.RowKit
set_option linter.unusedVariables false
theorem curNew (w : World) (a : Option Addr) (n c : Nat) (h : Int) (T : TypeId) (hn : n ≤ 1048576) (hcode : CodeB w w.heap.size a n) : CurOk (w.alloc (.cells #[.slice a n c, .int .i64 0, .int .i64 h] T)) w.heap.size w.heap.size :=
  ⟨a, n, c, 0, h, by simp, by simp, by simp, by simp, by simp, by simp, Nat.zero_le _, hn, hcode.below ((Below.refl _ _).alloc (Nat.le_refl _) _), Nat.le_refl _, by simp⟩
set_option maxHeartbeats 1000000 in
theorem l1New_any (a : Option Addr) (n c : Nat) (w : World) (hn : n ≤ 1048576) (hcode : CodeB w w.heap.size a n) :
    Calls Tryd.prog 22 #[.slice a n c] w fun e w' => ∃ p, e = .returned (.pointer (some ⟨p, 0, none⟩)) ∧ CurOk w' w.heap.size p ∧ Below w.heap.size w w' := by
  have HC : Hid (CodeB w w.heap.size a n) := hcode
  clear hcode
  go_enter Tryd.func22, Tryd.ntmps22
  go_wp2_with fail
  go_loop [3, 4] (fun hv i => ∃ k : Nat, ∃ h : Int, k ≤ n ∧ i = .int .i64 k ∧ hv = .int .i64 h) (fun _ i => n - (intOf i).toNat)
  case atStart => exact ⟨0, _, Nat.zero_le _, rfl, rfl⟩
  case round =>
    obtain ⟨k, h, hk, rfl, rfl⟩ := hrel
    by_cases hlt : k < n
    · have hli : (k : Int) < (n : Int) := by omega
      by_cases h4 : (k : Int) < 4000
      · rcases HC.out with h0 | ⟨b, off, rfl, hb, hz⟩
        · omega
        · obtain ⟨z, hz, z0, z1⟩ := hz k hlt
          go_wp2_with fail
          go_round
          case rel => exact ⟨k + 1, _, by omega, by go_num, rfl⟩
          case measure => simp [intOf]; omega
      · have hd : decide ((k : Int) < 4000) = false := by simp; omega
        go_wp2_with fail
        go_ret
        exact ⟨_, rfl, curNew _ _ _ _ _ _ hn HC.out, (Below.refl _ _).alloc (Nat.le_refl _) _⟩
    · have hd : decide ((k : Int) < (n : Int)) = false := by simp; omega
      go_wp2_with fail
      go_ret
      exact ⟨_, rfl, curNew _ _ _ _ _ _ hn HC.out, (Below.refl _ _).alloc (Nat.le_refl _) _⟩
end Go.Proofs.YtblappilppfkiaaDoor
namespace Go.Proofs.YtblappilppfkiaaDoor
open Go.RowKit
set_option linter.unusedVariables false
theorem CurOk.drew {w : World} {B p : Nat} (h : CurOk w B p) : CurOk w.drew B p := h
theorem But.drew {p : Nat} {a w : World} (h : But p a w) : But p a w.drew := h
def Box (w : World) (k : Nat) (x y : Int) : Prop := k < w.heap.size ∧ w.cell? ⟨k, 0, none⟩ = some (.int .i64 x) ∧ w.cell? ⟨k, 1, none⟩ = some (.int .i64 y) ∧ w.frozen? ⟨k, 0, none⟩ = false ∧ w.frozen? ⟨k, 1, none⟩ = false
theorem Box.but {p k : Nat} {w w' : World} {x y : Int} (h : Box w k x y) (hw : But p w w') (hk : k ≠ p) : Box w' k x y :=
  ⟨Nat.lt_of_lt_of_le h.1 hw.2.2.2.1, by rw [hw.cell h.1 hk]; exact h.2.1, by rw [hw.cell h.1 hk]; exact h.2.2.1, by rw [hw.frozen h.1 hk]; exact h.2.2.2.1, by rw [hw.frozen h.1 hk]; exact h.2.2.2.2⟩
theorem Box.below {k : Nat} {w w' : World} {x y : Int} (h : Box w k x y) (hw : Below w.heap.size w w') : Box w' k x y :=
  ⟨Nat.lt_of_lt_of_le h.1 hw.size, by rw [hw.cell (p := ⟨k, 0, none⟩) h.1]; exact h.2.1, by rw [hw.cell (p := ⟨k, 1, none⟩) h.1]; exact h.2.2.1, by rw [hw.frozen (p := ⟨k, 0, none⟩) h.1]; exact h.2.2.2.1, by rw [hw.frozen (p := ⟨k, 1, none⟩) h.1]; exact h.2.2.2.2⟩
theorem Box.alloc {k : Nat} {w : World} {x y : Int} (h : Box w k x y) (o : Obj) : Box (w.alloc o) k x y := h.below ((Below.refl _ _).alloc (Nat.le_refl _) _)
theorem Box.setOther {k j : Nat} {w : World} {x y : Int} (h : Box w k x y) (hk : j ≠ k) (o : Nat) (u : Value) : Box (w.setCell ⟨j, o, none⟩ u) k x y := by
  have hne : ∀ q, (⟨j, o, none⟩ : Addr) ≠ ⟨k, q, none⟩ := fun q e => hk (congrArg Addr.block e)
  exact ⟨by simpa using h.1, by rw [World.cell?_setCell_other _ _ _ _ (hne _)]; exact h.2.1, by rw [World.cell?_setCell_other _ _ _ _ (hne _)]; exact h.2.2.1, by simpa using h.2.2.2.1, by simpa using h.2.2.2.2⟩
theorem Box.set {k : Nat} {w : World} {x y : Int} (h : Box w k x y) (x' y' : Int) : Box ((w.setCell ⟨k, 0, none⟩ (.int .i64 x')).setCell ⟨k, 1, none⟩ (.int .i64 y')) k x' y' := by
  refine ⟨by simpa using h.1, ?_, ?_, by simpa using h.2.2.2.1, by simpa using h.2.2.2.2⟩
  · rw [World.cell?_setCell_other _ _ _ _ (by simp), World.cell?_setCell_same _ _ _ h.2.1]
  · exact World.cell?_setCell_same _ _ _ (by rw [World.cell?_setCell_other _ _ _ _ (by simp)]; exact h.2.2.1)
theorem Box.new (w : World) (x y : Int) (T : TypeId) : Box (w.alloc (.cells #[.int .i64 x, .int .i64 y] T)) w.heap.size x y := ⟨by simp, by simp, by simp, by simp, by simp⟩
theorem CodeB.more {w : World} {B B' : Nat} {a : Option Addr} {n : Nat} (h : CodeB w B a n) (hB : B ≤ B') : CodeB w B' a n := by
  rcases h with h | ⟨b, off, h1, h2, h3⟩
  · exact .inl h
  · exact .inr ⟨b, off, h1, by omega, h3⟩
/- What a new world holds after an alloc or a store, for go_wp2's simp. -/
theorem Below.al (w : World) (o : Obj) : Below w.heap.size w (w.alloc o) := (Below.refl _ _).alloc (Nat.le_refl _) _
end Go.Proofs.YtblappilppfkiaaDoor
namespace Go.Proofs.YtblappilppfkiaaDoor
open Go.RowKit
set_option linter.unusedVariables false
set_option maxHeartbeats 1000000 in
theorem l2DrawCount_any (B p : Nat) (w : World) (hcur : CurOk w B p) :
    Calls Tryd.prog 57 #[.pointer (some ⟨p, 0, none⟩)] w fun e w' => ∃ v : Int, e = .returned (.int .i64 v) ∧ CurOk w' B p ∧ But p w w' := by
  go_enter Tryd.func57, Tryd.ntmps57
  go_wp2_with fail
  refine (l1Below_any B p 14 _ hcur).mono ?_; rintro e w1 ⟨x, rfl, xl, xh, xp, xz, w1c, w1b⟩
  clear xp xz
  cases hx0 : (x == 0)
  · cases hx1 : (x == 1)
    · cases hx2 : (x == 2)
      · go_wp2_with fail
        refine (l1Below_any B p 5000 _ w1c).mono ?_; rintro e w2 ⟨y, rfl, yl, yh, yp, yz, w2c, w2b⟩
        clear yp yz
        go_wp2_with fail
        go_ret
        exact ⟨_, rfl, w2c, w1b.trans w2b⟩
      · go_wp2_with fail
        refine (l1Below_any B p 6 _ w1c).mono ?_; rintro e w2 ⟨y, rfl, yl, yh, yp, yz, w2c, w2b⟩
        clear yp yz
        go_wp2_with fail
        go_ret
        exact ⟨_, rfl, w2c, w1b.trans w2b⟩
    · go_wp2_with fail
      refine (l1Below_any B p 1000000000 _ w1c).mono ?_; rintro e w2 ⟨y, rfl, yl, yh, yp, yz, w2c, w2b⟩
      clear yp yz
      go_wp2_with fail
      go_ret
      exact ⟨_, rfl, w2c, w1b.trans w2b⟩
  · go_wp2_with fail
    have hp := pickLit B p w1 [-1, 0, 1000000000000, 1000000000001, 500000000000, 666666666666, 9223372036854775807] w1c (by decide) (by decide); simp only [List.map_cons, List.map_nil, List.length_cons, List.length_nil, Nat.zero_add, Nat.reduceAdd] at hp; refine hp.mono ?_; clear hp; rintro e w3 ⟨v, rfl, w3c, w3b⟩
    go_wp2_with fail
    go_ret
    exact ⟨_, rfl, w3c, w1b.trans w3b⟩
set_option maxHeartbeats 3200000 in
theorem l2DrawDrift_any (B p : Nat) (w : World) (hcur : CurOk w B p) :
    Calls Tryd.prog 56 #[.pointer (some ⟨p, 0, none⟩)] w fun e w' => ∃ x y : Int, e = .returned (.agg #[.int .i64 x, .int .i64 y]) ∧ CurOk w' B p ∧ But p w w' := by
  have hpl := hcur.lt
  have hpw : w.heap.size ≠ p := by omega
  have hBw : B ≤ w.heap.size := by omega
  have A1 : Below w.heap.size w (w.alloc (.cells #[.int .i64 0, .int .i64 0] 35)) := Below.al _ _
  have R0 : Box (w.alloc (.cells #[.int .i64 0, .int .i64 0] 35)) w.heap.size 0 0 := Box.new w 0 0 35
  go_enter Tryd.func56, Tryd.ntmps56
  go_wp2_with fail
  refine (l1Below_any B p 6 _ (by exact hcur.below A1)).mono ?_
  rintro e w1 ⟨x, rfl, xl, xh, xp, xz, w1c, w1b⟩
  have R1 := R0.but w1b hpw
  have b1 : But p w w1 := (But.of_below A1).trans w1b
  clear xp xz R0 A1 w1b
  go_wp2_with fail
  refine (l1Below_any B p 90 _ w1c).mono ?_
  rintro e w2 ⟨y, rfl, yl, yh, yp, yz, w2c, w2b⟩
  have R2 := R1.but w2b hpw
  have b2 : But p w w2 := b1.trans w2b
  have q2 := w2c.lt
  have hk : w2.heap.size ≠ p := by omega
  have A2 : Below w2.heap.size w2 (w2.alloc (.cells #[.int .i64 x, .int .i64 (12 + y)] 35)) := Below.al _ _
  have N2 := Box.new w2 x (12 + y) 35
  clear yp yz R1 b1 w2b w1c
  go_wp2_with fail
  refine (l1Below_any B p 16 _ (by exact w2c.below A2)).mono ?_
  rintro e w3 ⟨z, rfl, zl, zh, zp, zz, w3c, w3b⟩
  have R3 := (R2.below A2).but w3b hpw
  have N3 := N2.but w3b hk
  have b3 : But p w w3 := (b2.alloc _).trans w3b
  have hwk : w.heap.size < w2.heap.size := R2.1
  have hwk' : w.heap.size ≤ w2.heap.size := by omega
  have hBk : B ≤ w2.heap.size := by omega
  have n1 : w.heap.size ≠ w2.heap.size := by omega
  have n2 : w2.heap.size ≠ w.heap.size := by omega
  clear zp zz R2 N2 b2 w3b A2 w2c hcur
  cases hz0 : (z == 0)
  · cases hz1 : (z == 1)
    · cases hz2 : (z == 2)
      · obtain ⟨g1, g2, g3, g4, g5⟩ := R3; obtain ⟨m1, m2, m3, m4, m5⟩ := N3
        go_wp2_with fail
        exact bodyPost_ret (v := .agg #[.int .i64 x, .int .i64 (12 + y)]) (by simp (maxDischargeDepth := 6) [results, Tryd.results56, go_sem, *]) rfl ⟨_, _, rfl, ((w3c.setOther hpw hBw _ _).setOther hpw hBw _ _), ((b3.setNew (Nat.le_refl _) _ _).setNew (Nat.le_refl _) _ _)⟩
      · obtain ⟨g1, g2, g3, g4, g5⟩ := R3; obtain ⟨m1, m2, m3, m4, m5⟩ := N3
        go_wp2_with fail
        exact bodyPost_ret (v := .agg #[.int .i64 0, .int .i64 1]) (by simp (maxDischargeDepth := 6) [results, Tryd.results56, go_sem, *]) rfl ⟨_, _, rfl, ((((w3c.setOther hk hBk _ _).setOther hk hBk _ _).setOther hpw hBw _ _).setOther hpw hBw _ _), ((((b3.setNew hwk' _ _).setNew hwk' _ _).setNew (Nat.le_refl _) _ _).setNew (Nat.le_refl _) _ _)⟩
    · go_wp2_with fail
      have hp := pickLit B p w3 [0, 1, -1, 3] w3c (by decide) (by decide); simp only [List.map_cons, List.map_nil, List.length_cons, List.length_nil, Nat.zero_add, Nat.reduceAdd] at hp; refine hp.mono ?_; clear hp; rintro e w4 ⟨v, rfl, w4c, w4b⟩
      have R4 := R3.but w4b hpw
      have N4 := N3.but w4b hk
      have b4 : But p w w4 := b3.trans w4b
      clear R3 N3 b3 w4b w3c
      go_wp2_with fail
      have hp := pickLit B p w4 [0, 1, 2, 3, 6, -1] w4c (by decide) (by decide); simp only [List.map_cons, List.map_nil, List.length_cons, List.length_nil, Nat.zero_add, Nat.reduceAdd] at hp; refine hp.mono ?_; clear hp; rintro e w5 ⟨u, rfl, w5c, w5b⟩
      have R5 := R4.but w5b hpw
      have N5 := N4.but w5b hk
      have b5 : But p w w5 := b4.trans w5b
      clear R4 N4 b4 w5b w4c
      obtain ⟨g1, g2, g3, g4, g5⟩ := R5; obtain ⟨m1, m2, m3, m4, m5⟩ := N5
      go_wp2_with fail
      exact bodyPost_ret (v := .agg #[.int .i64 v, .int .i64 u]) (by simp (maxDischargeDepth := 6) [results, Tryd.results56, go_sem, *]) rfl ⟨_, _, rfl, ((((w5c.setOther hk hBk _ _).setOther hk hBk _ _).setOther hpw hBw _ _).setOther hpw hBw _ _), ((((b5.setNew hwk' _ _).setNew hwk' _ _).setNew (Nat.le_refl _) _ _).setNew (Nat.le_refl _) _ _)⟩
  · go_wp2_with fail
    have hp := pickLit B p w3 [0, 1, 500000, 500001, 100] w3c (by decide) (by decide); simp only [List.map_cons, List.map_nil, List.length_cons, List.length_nil, Nat.zero_add, Nat.reduceAdd] at hp; refine hp.mono ?_; clear hp; rintro e w4 ⟨v, rfl, w4c, w4b⟩
    have R4 := R3.but w4b hpw
    have N4 := N3.but w4b hk
    have b4 : But p w w4 := b3.trans w4b
    clear R3 N3 b3 w4b w3c
    go_wp2_with fail
    have hp := pickLit B p w4 [1000000, 1000001, 999999] w4c (by decide) (by decide); simp only [List.map_cons, List.map_nil, List.length_cons, List.length_nil, Nat.zero_add, Nat.reduceAdd] at hp; refine hp.mono ?_; clear hp; rintro e w5 ⟨u, rfl, w5c, w5b⟩
    have R5 := R4.but w5b hpw
    have N5 := N4.but w5b hk
    have b5 : But p w w5 := b4.trans w5b
    clear R4 N4 b4 w5b w4c
    obtain ⟨g1, g2, g3, g4, g5⟩ := R5; obtain ⟨m1, m2, m3, m4, m5⟩ := N5
    go_wp2_with fail
    exact bodyPost_ret (v := .agg #[.int .i64 v, .int .i64 u]) (by simp (maxDischargeDepth := 6) [results, Tryd.results56, go_sem, *]) rfl ⟨_, _, rfl, ((((w5c.setOther hk hBk _ _).setOther hk hBk _ _).setOther hpw hBw _ _).setOther hpw hBw _ _), ((((b5.setNew hwk' _ _).setNew hwk' _ _).setNew (Nat.le_refl _) _ _).setNew (Nat.le_refl _) _ _)⟩
set_option maxHeartbeats 400000 in
theorem big_any (a : Option Addr) (n c : Nat) (w : World) :
    Calls Tryd.prog 5 #[.slice a n c] w fun e w' => e = .returned (.bool (decide (1048576 < (n : Int)))) ∧ w = w' := by
  go_enter Tryd.func5, Tryd.ntmps5
  go_wp2
  go_ret
  exact ⟨rfl, rfl⟩
set_option maxHeartbeats 400000 in
theorem at_any (a : Option Addr) (n c i B : Nat) (w : World) (hn : n ≤ 1048576) (hi : i ≤ 1000) (hcode : CodeB w B a n) :
    Calls Tryd.prog 19 #[.slice a n c, .int .i64 i] w fun e w' => ∃ x : Int, e = .returned (.int .i64 x) ∧ 0 ≤ x ∧ x ≤ 255 ∧ w = w' := by
  by_cases h : i < n
  · have hd : (i : Int) < (n : Int) := by omega
    rcases hcode with h0 | ⟨b, off, rfl, hb, hz⟩
    · omega
    · obtain ⟨z, hz, z0, z1⟩ := hz i h
      go_enter Tryd.func19, Tryd.ntmps19
      go_wp2_with fail
      go_ret
      exact ⟨z, rfl, z0, z1, rfl⟩
  · have hd : decide ((i : Int) < (n : Int)) = false := by simp; omega
    have hm := Int.emod_lt_of_pos ((i : Int) * 7 + n) (b := 256) (by omega)
    have hm0 := Int.emod_nonneg ((i : Int) * 7 + n) (b := 256) (by omega)
    clear hcode
    go_enter Tryd.func19, Tryd.ntmps19
    go_wp2_with fail
    go_ret
    exact ⟨_, rfl, by omega, by omega, rfl⟩
end Go.Proofs.YtblappilppfkiaaDoor
namespace Go.Proofs.YtblappilppfkiaaDoor
open Go.RowKit
set_option linter.unusedVariables false

theorem Box4.but {p k : Nat} {w w' : World} {a b c d : Int} (h : Box4 w k a b c d) (hw : But p w w') (hk : k ≠ p) : Box4 w' k a b c d := by
  obtain ⟨h0, h1, h2, h3, h4, f1, f2, f3, f4⟩ := h
  exact ⟨Nat.lt_of_lt_of_le h0 hw.2.2.2.1, by rw [hw.cell h0 hk]; exact h1, by rw [hw.cell h0 hk]; exact h2, by rw [hw.cell h0 hk]; exact h3, by rw [hw.cell h0 hk]; exact h4, by rw [hw.frozen h0 hk]; exact f1, by rw [hw.frozen h0 hk]; exact f2, by rw [hw.frozen h0 hk]; exact f3, by rw [hw.frozen h0 hk]; exact f4⟩
theorem Box4.setc {k : Nat} {w : World} {a b c d : Int} (h : Box4 w k a b c d) (c' : Int) : Box4 (w.setCell ⟨k, 2, none⟩ (.int .i64 c')) k a b c' d := by
  obtain ⟨h0, h1, h2, h3, h4, f1, f2, f3, f4⟩ := h
  have n0 : ∀ (j : Nat), 2 ≠ j → (w.setCell ⟨k, 2, none⟩ (.int .i64 c')).cell? ⟨k, j, none⟩ = w.cell? ⟨k, j, none⟩ := fun j hij => World.cell?_setCell_other _ _ _ _ (by intro e; exact hij (congrArg Addr.off e))
  exact ⟨by simpa using h0, by rw [n0 _ (by decide)]; exact h1, by rw [n0 _ (by decide)]; exact h2, World.cell?_setCell_same _ _ _ h3, by rw [n0 _ (by decide)]; exact h4, by simpa using f1, by simpa using f2, by simpa using f3, by simpa using f4⟩
theorem Box4.setd {k : Nat} {w : World} {a b c d : Int} (h : Box4 w k a b c d) (d' : Int) : Box4 (w.setCell ⟨k, 3, none⟩ (.int .i64 d')) k a b c d' := by
  obtain ⟨h0, h1, h2, h3, h4, f1, f2, f3, f4⟩ := h
  have n0 : ∀ (j : Nat), 3 ≠ j → (w.setCell ⟨k, 3, none⟩ (.int .i64 d')).cell? ⟨k, j, none⟩ = w.cell? ⟨k, j, none⟩ := fun j hij => World.cell?_setCell_other _ _ _ _ (by intro e; exact hij (congrArg Addr.off e))
  exact ⟨by simpa using h0, by rw [n0 _ (by decide)]; exact h1, by rw [n0 _ (by decide)]; exact h2, by rw [n0 _ (by decide)]; exact h3, World.cell?_setCell_same _ _ _ h4, by simpa using f1, by simpa using f2, by simpa using f3, by simpa using f4⟩
theorem CurOk.set4 {w : World} {B p k : Nat} (h : CurOk w B p) (hk : k ≠ p) (hB : B ≤ k) (a b c d : Int) : CurOk (set4 w k a b c d) B p := (((h.setOther hk hB _ _).setOther hk hB _ _).setOther hk hB _ _).setOther hk hB _ _
theorem But.set4 {p k : Nat} {u w : World} (h : But p u w) (hk : u.heap.size ≤ k) (a b c d : Int) : But p u (set4 w k a b c d) := (((h.setNew hk _ _).setNew hk _ _).setNew hk _ _).setNew hk _ _
set_option maxHeartbeats 4000000 in
theorem l3DrawOsc_any (B p : Nat) (w : World) (hcur : CurOk w B p) :
    Calls Tryd.prog 34 #[.pointer (some ⟨p, 0, none⟩)] w fun e w' => ∃ x y t u : Int, e = .returned (.agg #[.int .i64 x, .int .i64 y, .int .i64 t, .int .i64 u]) ∧ CurOk w' B p ∧ But p w w' := by
  have hpl := hcur.lt
  have hpw : w.heap.size ≠ p := by omega
  have hBw : B ≤ w.heap.size := by omega
  have A1 := Below.alc w (.cells #[.int .i64 0, .int .i64 0, .int .i64 0, .int .i64 0] 37)
  have R0 := Box4.new w 0 0 0 0 37
  go_enter Tryd.func34, Tryd.ntmps34
  go_wp2_with fail
  refine (l2DrawDrift_any B p _ (by exact hcur.below A1)).mono ?_
  rintro e w1 ⟨x, y, rfl, w1c, w1b⟩
  have R1 := R0.but w1b hpw
  have b1 : But p w w1 := (But.of_below A1).trans w1b
  clear R0 A1 w1b
  go_wp2_with fail
  refine (l1Below_any B p 300 _ w1c).mono ?_
  rintro e w2 ⟨t, rfl, -, -, -, -, w2c, w2b⟩
  have R2 := R1.but w2b hpw
  have b2 : But p w w2 := b1.trans w2b
  clear R1 b1 w2b w1c
  go_wp2_with fail
  refine (l1Below_any B p 300 _ w2c).mono ?_
  rintro e w3 ⟨u, rfl, -, -, -, -, w3c, w3b⟩
  have R3 := R2.but w3b hpw
  have b3 : But p w w3 := b2.trans w3b
  have q3 := w3c.lt
  have hk : w3.heap.size ≠ p := by omega
  have A3 := Below.alc w3 (.cells #[.int .i64 x, .int .i64 y, .int .i64 t, .int .i64 u] 37)
  have N3 := Box4.new w3 x y t u 37
  have hwk : w.heap.size < w3.heap.size := R3.1
  have hwk' : w.heap.size ≤ w3.heap.size := by omega
  have hBk : B ≤ w3.heap.size := by omega
  have n1 : w.heap.size ≠ w3.heap.size := by omega
  have n2 : w3.heap.size ≠ w.heap.size := by omega
  clear R2 b2 w3b w2c hcur
  go_wp2_with fail
  refine (l1Once_any B p 15 _ (by exact w3c.below A3)).mono ?_
  rintro e w4 ⟨o1, rfl, w4c, w4b⟩
  have R4 := (R3.below A3).but w4b hpw
  have N4 := N3.but w4b hk
  have b4 : But p w w4 := (b3.alloc _).trans w4b
  clear R3 N3 b3 w4b w3c A3
  generalize w3.heap.size = k at *
  cases o1
  · go_wp2_with fail
    refine (l1Once_any B p 15 _ w4c).mono ?_
    rintro e w5 ⟨o2, rfl, w5c, w5b⟩
    have R5 := R4.but w5b hpw
    have N5 := N4.but w5b hk
    have b5 : But p w w5 := b4.trans w5b
    clear R4 N4 b4 w5b w4c
    cases o2
    · obtain ⟨g1, g2, g3, g4, g5, g6, g7, g8, g9⟩ := R5; obtain ⟨m1, m2, m3, m4, m5, m6, m7, m8, m9⟩ := N5; go_wp2_with fail; exact bodyPost_ret (v := .agg #[.int .i64 x, .int .i64 y, .int .i64 t, .int .i64 u]) (by simp (maxDischargeDepth := 6) [results, Tryd.results34, go_sem, *]) rfl ⟨_, _, _, _, rfl, CurOk.set4 w5c hpw hBw _ _ _ _, But.set4 b5 (Nat.le_refl _) _ _ _ _⟩
    · go_wp2_with fail
      refine (l2DrawCount_any B p _ w5c).mono ?_
      rintro e w6 ⟨u2, rfl, w6c, w6b⟩
      have R6 := R5.but w6b hpw
      have N6 := N5.but w6b hk
      have b6 : But p w w6 := b5.trans w6b
      clear R5 N5 b5 w6b w5c
      obtain ⟨g1, g2, g3, g4, g5, g6, g7, g8, g9⟩ := R6; obtain ⟨m1, m2, m3, m4, m5, m6, m7, m8, m9⟩ := N6; go_wp2_with fail; exact bodyPost_ret (v := .agg #[.int .i64 x, .int .i64 y, .int .i64 t, .int .i64 u2]) (by simp (maxDischargeDepth := 6) [results, Tryd.results34, go_sem, *]) rfl ⟨_, _, _, _, rfl, CurOk.set4 (w6c.setOther hk hBk _ _) hpw hBw _ _ _ _, But.set4 (b6.setNew hwk' _ _) (Nat.le_refl _) _ _ _ _⟩
  · go_wp2_with fail
    refine (l2DrawCount_any B p _ w4c).mono ?_
    rintro e w5 ⟨t2, rfl, w5c, w5b⟩
    have R5 := (R4.but w5b hpw).setO n2 2 (.int .i64 t2)
    have N5 := (N4.but w5b hk).setc t2
    have b5 : But p w (w5.setCell ⟨k, 2, none⟩ (.int .i64 t2)) := (b4.trans w5b).setNew hwk' _ _
    have w5c' : CurOk (w5.setCell ⟨k, 2, none⟩ (.int .i64 t2)) B p := w5c.setOther hk hBk _ _
    obtain ⟨m1, m2, m3, m4, m5, m6, m7, m8, m9⟩ := N4.but w5b hk
    clear R4 N4 b4 w5b w4c w5c
    go_wp2_with fail
    clear m1 m2 m3 m4 m5 m6 m7 m8 m9
    refine (l1Once_any B p 15 _ w5c').mono ?_
    rintro e w6 ⟨o2, rfl, w6c, w6b⟩
    have R6 := R5.but w6b hpw
    have N6 := N5.but w6b hk
    have b6 : But p w w6 := b5.trans w6b
    clear R5 N5 b5 w6b w5c'
    cases o2
    · obtain ⟨g1, g2, g3, g4, g5, g6, g7, g8, g9⟩ := R6; obtain ⟨m1, m2, m3, m4, m5, m6, m7, m8, m9⟩ := N6; go_wp2_with fail; exact bodyPost_ret (v := .agg #[.int .i64 x, .int .i64 y, .int .i64 t2, .int .i64 u]) (by simp (maxDischargeDepth := 6) [results, Tryd.results34, go_sem, *]) rfl ⟨_, _, _, _, rfl, CurOk.set4 w6c hpw hBw _ _ _ _, But.set4 b6 (Nat.le_refl _) _ _ _ _⟩
    · go_wp2_with fail
      refine (l2DrawCount_any B p _ w6c).mono ?_
      rintro e w7 ⟨u2, rfl, w7c, w7b⟩
      have R7 := R6.but w7b hpw
      have N7 := N6.but w7b hk
      have b7 : But p w w7 := b6.trans w7b
      clear R6 N6 b6 w7b w6c
      obtain ⟨g1, g2, g3, g4, g5, g6, g7, g8, g9⟩ := R7; obtain ⟨m1, m2, m3, m4, m5, m6, m7, m8, m9⟩ := N7; go_wp2_with fail; exact bodyPost_ret (v := .agg #[.int .i64 x, .int .i64 y, .int .i64 t2, .int .i64 u2]) (by simp (maxDischargeDepth := 6) [results, Tryd.results34, go_sem, *]) rfl ⟨_, _, _, _, rfl, CurOk.set4 (w7c.setOther hk hBk _ _) hpw hBw _ _ _ _, But.set4 (b7.setNew hwk' _ _) (Nat.le_refl _) _ _ _ _⟩
end Go.Proofs.YtblappilppfkiaaDoor
namespace Go.Proofs.YtblappilppfkiaaDoor
open Go.RowKit
set_option linter.unusedVariables false
theorem Bx.but {p k : Nat} {w w' : World} {x y : Int} (h : Bx w k x y) (hw : But p w w') (hk : k ≠ p) : Bx w' k x y :=
  ⟨Nat.lt_of_lt_of_le h.1 hw.2.2.2.1, by rw [hw.cell h.1 hk]; exact h.2.1, by rw [hw.cell h.1 hk]; exact h.2.2.1, by rw [hw.frozen h.1 hk]; exact h.2.2.2.1, by rw [hw.frozen h.1 hk]; exact h.2.2.2.2⟩
theorem But.grown3 {p : Nat} {w w' : World} (h : But p w w') : w.grownBy w' (some p) := ⟨h.1, h.2.1, h.2.2.1, h.2.2.2.1, fun k hk hp => h.2.2.2.2 k hk (fun e => hp (by rw [e]))⟩
theorem own_but {w w' : World} {base p : Nat} {e : TypeId} {size : Nat} {v : Value} {n : Nat} {xs : List Value} (h : w.ownsRow base e size v n xs) (hb : But p w w') (hp : p < base) : w'.ownsRow base e size v n xs :=
  h.kept hb.grown3 (by
    cases hv : v.ownBlock with
    | none => exact .inl rfl
    | some g => exact .inr (fun he => by have := (h.lt g hv).1; simp at he; omega))
theorem CurOk.belowB {w w' : World} {B p base : Nat} (h : CurOk w B p) (hb : Below base w w') (hp : p < base) : CurOk w' B p := by
  obtain ⟨a, n, c, i, hh, h0, h1, h2, f0, f1, f2, hi, hn, hc, hB, hpw⟩ := h
  refine ⟨a, n, c, i, hh, ?_, ?_, ?_, ?_, ?_, ?_, hi, hn, hc.below (hb.mono (by omega)), hB, Nat.lt_of_lt_of_le hpw hb.size⟩
  · rw [hb.cell (p := ⟨p, 0, none⟩) hp]; exact h0
  · rw [hb.cell (p := ⟨p, 1, none⟩) hp]; exact h1
  · rw [hb.cell (p := ⟨p, 2, none⟩) hp]; exact h2
  · rw [hb.frozen (p := ⟨p, 0, none⟩) hp]; exact f0
  · rw [hb.frozen (p := ⟨p, 1, none⟩) hp]; exact f1
  · rw [hb.frozen (p := ⟨p, 2, none⟩) hp]; exact f2
theorem But.thenBelow {p : Nat} {a w w' : World} (h : But p a w) (hb : Below a.heap.size w w') : But p a w' :=
  ⟨hb.os.trans h.1, hb.tape.trans h.2.1, hb.output.trans h.2.2.1, Nat.le_trans h.2.2.2.1 hb.size, fun k hk hp => (hb.block k hk).trans (h.2.2.2.2 k hk hp)⟩
theorem infoStr : (Tryd.prog.info? 79).map (fun i => (i.zero, i.size, i.bytes)) = some (some (.agg #[.int .i64 0, .int .i64 0]), 2, 16) := by kernel_rfl
set_option maxHeartbeats 4000000 in
theorem l3DrawStride_any (B p : Nat) (w : World) (hcur : CurOk w B p) :
    Calls Tryd.prog 58 #[.pointer (some ⟨p, 0, none⟩)] w fun e w' => ∃ x y : Int, e = .returned (.agg #[.int .i64 x, .int .i64 y]) ∧ CurOk w' B p ∧ But p w w' := by
  have hpl := hcur.lt
  have hpw : w.heap.size ≠ p := by omega
  have hBw : B ≤ w.heap.size := by omega
  have A1 := Below.alc w (.cells #[.int .i64 0, .int .i64 0] 79)
  have R0 := Bx.new w 0 0 79
  go_enter Tryd.func58, Tryd.ntmps58
  go_wp2_with fail
  refine (l1Below_any B p 90 _ (by exact hcur.below A1)).mono ?_
  rintro e w1 ⟨x0, rfl, -, -, -, -, w1c, w1b⟩
  have R1 := R0.but w1b hpw
  have b1 : But p w w1 := (But.of_below A1).trans w1b
  clear R0 A1 w1b hcur
  go_wp2_with fail
  refine (l1Once_any B p 15 _ w1c).mono ?_
  rintro e w2 ⟨o1, rfl, w2c, w2b⟩
  have R2 := R1.but w2b hpw
  have b2 : But p w w2 := b1.trans w2b
  clear R1 b1 w2b w1c
  cases o1
  · go_wp2_with fail
    refine (l1Below_any B p 30 _ w2c).mono ?_
    rintro e w4 ⟨z, rfl, -, -, -, -, w4c, w4b⟩
    have R4 := R2.but w4b hpw
    have b4 : But p w w4 := b2.trans w4b
    have q4 := w4c.lt
    have hk : w4.heap.size ≠ p := by omega
    have hwk : w.heap.size < w4.heap.size := R4.1
    have hwk' : w.heap.size ≤ w4.heap.size := by omega
    have hBk : B ≤ w4.heap.size := by omega
    have n1 : w.heap.size ≠ w4.heap.size := by omega
    have n2 : w4.heap.size ≠ w.heap.size := by omega
    clear R2 b2 w4b w2c
    go_wp2_with fail
    generalize wrap64 (wrap64 (x0 + z) - 15) = y0 at *
    have A4 := Below.alc w4 (.cells #[.int .i64 x0, .int .i64 y0] 79)
    have N4 := Bx.new w4 x0 y0 79
    refine (l1Once_any B p 12 _ (by exact w4c.below A4)).mono ?_
    rintro e w5 ⟨o2, rfl, w5c, w5b⟩
    have R5 := (R4.below A4).but w5b hpw
    have N5 := N4.but w5b hk
    have b5 : But p w w5 := (b4.alloc _).trans w5b
    clear R4 N4 b4 w5b w4c A4
    generalize w4.heap.size = k at *
    cases o2
    · obtain ⟨g1, g2, g3, g4, g5⟩ := R5; obtain ⟨m1, m2, m3, m4, m5⟩ := N5; go_wp2_with fail; exact bodyPost_ret (v := .agg #[.int .i64 x0, .int .i64 y0]) (by simp (maxDischargeDepth := 6) [results, Tryd.results58, go_sem, *]) rfl ⟨_, _, rfl, ((w5c).setOther hpw hBw _ _).setOther hpw hBw _ _, ((b5).setNew (Nat.le_refl _) _ _).setNew (Nat.le_refl _) _ _⟩
    · go_wp2_with fail
      have hp := pickLit B p w5 [0, -1, 9223372036854775807, -9223372036854775807] w5c (by decide) (by decide); simp only [List.map_cons, List.map_nil, List.length_cons, List.length_nil, Nat.zero_add, Nat.reduceAdd] at hp; refine hp.mono ?_; clear hp; rintro e w6 ⟨y1, rfl, w6c, w6b⟩
      have R6 := R5.but w6b hpw
      have N6 := N5.but w6b hk
      have b6 : But p w w6 := b5.trans w6b
      clear R5 N5 b5 w6b w5c
      obtain ⟨g1, g2, g3, g4, g5⟩ := R6; obtain ⟨m1, m2, m3, m4, m5⟩ := N6; go_wp2_with fail; exact bodyPost_ret (v := .agg #[.int .i64 x0, .int .i64 y1]) (by simp (maxDischargeDepth := 6) [results, Tryd.results58, go_sem, *]) rfl ⟨_, _, rfl, (((w6c.setOther hk hBk _ _)).setOther hpw hBw _ _).setOther hpw hBw _ _, (((b6.setNew hwk' _ _)).setNew (Nat.le_refl _) _ _).setNew (Nat.le_refl _) _ _⟩
  · go_wp2_with fail
    refine (l2DrawCount_any B p _ w2c).mono ?_
    rintro e w3 ⟨x1, rfl, w3c, w3b⟩
    have R3 := R2.but w3b hpw
    have b3 : But p w w3 := b2.trans w3b
    clear R2 b2 w3b w2c
    go_wp2_with fail
    refine (l1Below_any B p 30 _ w3c).mono ?_
    rintro e w4 ⟨z, rfl, -, -, -, -, w4c, w4b⟩
    have R4 := R3.but w4b hpw
    have b4 : But p w w4 := b3.trans w4b
    have q4 := w4c.lt
    have hk : w4.heap.size ≠ p := by omega
    have hwk : w.heap.size < w4.heap.size := R4.1
    have hwk' : w.heap.size ≤ w4.heap.size := by omega
    have hBk : B ≤ w4.heap.size := by omega
    have n1 : w.heap.size ≠ w4.heap.size := by omega
    have n2 : w4.heap.size ≠ w.heap.size := by omega
    clear R3 b3 w4b w3c
    go_wp2_with fail
    generalize wrap64 (wrap64 (x1 + z) - 15) = y0 at *
    have A4 := Below.alc w4 (.cells #[.int .i64 x1, .int .i64 y0] 79)
    have N4 := Bx.new w4 x1 y0 79
    refine (l1Once_any B p 12 _ (by exact w4c.below A4)).mono ?_
    rintro e w5 ⟨o2, rfl, w5c, w5b⟩
    have R5 := (R4.below A4).but w5b hpw
    have N5 := N4.but w5b hk
    have b5 : But p w w5 := (b4.alloc _).trans w5b
    clear R4 N4 b4 w5b w4c A4
    generalize w4.heap.size = k at *
    cases o2
    · obtain ⟨g1, g2, g3, g4, g5⟩ := R5; obtain ⟨m1, m2, m3, m4, m5⟩ := N5; go_wp2_with fail; exact bodyPost_ret (v := .agg #[.int .i64 x1, .int .i64 y0]) (by simp (maxDischargeDepth := 6) [results, Tryd.results58, go_sem, *]) rfl ⟨_, _, rfl, ((w5c).setOther hpw hBw _ _).setOther hpw hBw _ _, ((b5).setNew (Nat.le_refl _) _ _).setNew (Nat.le_refl _) _ _⟩
    · go_wp2_with fail
      have hp := pickLit B p w5 [0, -1, 9223372036854775807, -9223372036854775807] w5c (by decide) (by decide); simp only [List.map_cons, List.map_nil, List.length_cons, List.length_nil, Nat.zero_add, Nat.reduceAdd] at hp; refine hp.mono ?_; clear hp; rintro e w6 ⟨y1, rfl, w6c, w6b⟩
      have R6 := R5.but w6b hpw
      have N6 := N5.but w6b hk
      have b6 : But p w w6 := b5.trans w6b
      clear R5 N5 b5 w6b w5c
      obtain ⟨g1, g2, g3, g4, g5⟩ := R6; obtain ⟨m1, m2, m3, m4, m5⟩ := N6; go_wp2_with fail; exact bodyPost_ret (v := .agg #[.int .i64 x1, .int .i64 y1]) (by simp (maxDischargeDepth := 6) [results, Tryd.results58, go_sem, *]) rfl ⟨_, _, rfl, (((w6c.setOther hk hBk _ _)).setOther hpw hBw _ _).setOther hpw hBw _ _, (((b6.setNew hwk' _ _)).setNew (Nat.le_refl _) _ _).setNew (Nat.le_refl _) _ _⟩
set_option maxHeartbeats 2000000 in
theorem l3DrawStrides_any (B p : Nat) (m : Int) (w : World) (hcur : CurOk w B p) (h1 : m ≤ 1000) :
    Calls Tryd.prog 36 #[.pointer (some ⟨p, 0, none⟩), .int .i64 m] w fun e w' => ∃ v : Value, ∃ L : List (Int × Int), e = .returned v ∧ w'.ownsRow w.heap.size 79 2 v L.length (prs L) ∧ L.length ≤ 1000 ∧ CurOk w' B p ∧ But p w w' := by
  obtain ⟨i0, hi, hz0, hz1, hz2⟩ := info_parts infoStr
  have hpl := hcur.lt
  have b0 : But p w (w.alloc (.cells #[] 79)) := But.of_below (Below.alc _ _)
  have O0 : (w.alloc (.cells #[] 79)).ownsRow w.heap.size 79 2 (.slice (some ⟨w.heap.size, 0, none⟩) 0 0) 0 [] := World.ownsRow_made w #[] 0 (Nat.le_refl _) (by simp [maxLen]) (by simp)
  have c0 : CurOk (w.alloc (.cells #[] 79)) B p := hcur.below (Below.alc _ _)
  go_enter Tryd.func36, Tryd.ntmps36
  go_wp2_with fail
  generalize w.alloc (.cells #[] 79) = v0 at *
  go_loopw [5, 6] (fun v i wr => ∃ L : List (Int × Int), L.length ≤ 1000 ∧ i = .int .i64 L.length ∧ wr.ownsRow w.heap.size 79 2 v L.length (prs L) ∧ CurOk wr B p ∧ But p w wr) (fun _ i _ => 1001 - (intOf i).toNat)
  case atStart => exact ⟨[], by simp, rfl, O0, c0, b0⟩
  case round =>
    obtain ⟨L, hk, rfl, O, c, bb⟩ := hrel
    clear O0 c0 b0 hcur
    by_cases hlt : (L.length : Int) < m
    · go_wp2_with fail
      refine (l3DrawStride_any B p _ c).mono ?_
      rintro e w7 ⟨x, y, rfl, w7c, w7b⟩
      have O7 := own_but O w7b (by omega)
      have b7 : But p w w7 := bb.trans w7b
      clear O bb c w7b
      have s7 : w.heap.size ≤ w7.heap.size := b7.2.2.2.1
      go_wp2_with (at_builtin; refine wpList_append_own _ rfl _ _ 38 rfl w.heap.size 79 i0 (.agg #[.int .i64 0, .int .i64 0]) 2 16 Tryd.underlying38 hi hz0 hz1 hz2 rfl (by decide) _ _ _ rfl (World.ownsRow.alloc O7 _) ⟨w7.heap.size, 0, none⟩ 1 1 [.int .i64 x, .int .i64 y] rfl rfl ?c1 ?c2 ?c3 ?c4 ?c5 ?_)
      case c1 => intro j u hj; exact pair_at w7 _ _ 79 j u hj
      case c2 => intro u hu; simp at hu; rcases hu with rfl | rfl <;> rfl
      case c3 => unfold maxLen; omega
      case c4 => omega
      case c5 => simp; omega
      · intro v' w9 hown' hgrow _
        have A9 := Below.alc w7 (.cells #[.int .i64 x, .int .i64 y] 79)
        have hsz : w.heap.size ≤ (w7.alloc (.cells #[.int .i64 x, .int .i64 y] 79)).heap.size := by simp; omega
        have G9 := grown_below (World.ownsRow.alloc O7 _) hgrow hsz
        have w9c : CurOk w9 B p := CurOk.belowB (CurOk.below w7c A9) G9 (by omega)
        have b9 : But p w w9 := But.thenBelow (But.alloc b7 _) G9
        have R9 : w9.ownsRow w.heap.size 79 2 v' (L ++ [(x, y)]).length (prs (L ++ [(x, y)])) := by rw [prs_add]; simpa using hown'
        clear hown' hgrow G9 A9 hsz O7 b7 w7c
        go_wp2
        go_roundw
        case rel => exact ⟨L ++ [(x, y)], by simp; omega, by simp; try go_num, R9, w9c, b9⟩
        case measure => simp [intOf]; omega
    · have hd : decide ((L.length : Int) < m) = false := by simp; omega
      go_wp2_with fail
      exact bodyPost_ret (v := u5) (by simp (maxDischargeDepth := 6) [results, Tryd.results36, go_sem, *]) rfl ⟨u5, rfl, L, O, hk, c, bb⟩
set_option maxHeartbeats 400000 in
theorem l1Size_m (a : Option Addr) (n c : Nat) (k : Int) (w : World) (hn : n ≤ 1048576) (h0 : 0 ≤ k) (h1 : k ≤ 100) :
    Calls Tryd.prog 35 #[.slice a n c, .int .i64 k] w fun e w' => ∃ x : Int, e = .returned (.int .i64 x) ∧ 0 ≤ x ∧ x ≤ k ∧ w = w' := by
  have hq : (n : Int).tdiv 20 = (n : Int) / 20 := Int.tdiv_eq_ediv_of_nonneg (by omega)
  go_enter Tryd.func35, Tryd.ntmps35
  go_wp2
  all_goals go_ret
  all_goals exact ⟨_, rfl, by omega, by omega, rfl⟩
end Go.Proofs.YtblappilppfkiaaDoor
namespace Go.Proofs.YtblappilppfkiaaDoor
open Go.RowKit
set_option linter.unusedVariables false
theorem But.undrewA {p : Nat} {a w : World} (h : But p a.drew w) : But p a w := h
theorem Below.undrewA {B : Nat} {a w : World} (h : Below B a.drew w) : Below B a w := ⟨h.os, h.tape, h.output, h.size, h.block⟩
set_option maxHeartbeats 4000000 in
theorem DrawOscRun_any (a : Option Addr) (n0 c0 : Nat) (w : World) (hn : n0 ≤ 1048576) (hcode : CodeB w w.heap.size a n0) :
    Calls Tryd.prog 14 #[.slice a n0 c0] w fun e w' => ∃ x y t u : Int, ∃ v : Value, ∃ L : List (Int × Int), e = .returned (.tuple #[.agg #[.int .i64 x, .int .i64 y, .int .i64 t, .int .i64 u], v]) ∧ w'.ownsRow (w.heap.size + 1) 79 2 v L.length (prs L) ∧ L.length ≤ 1000 ∧ Below w.heap.size w w' := by
  have A0 := Below.alc w (.cells #[.int .i64 0, .int .i64 0, .int .i64 0, .int .i64 0] 37)
  have R0 := Box4.new w 0 0 0 0 37
  have HC : Hid (CodeB (w.alloc (.cells #[.int .i64 0, .int .i64 0, .int .i64 0, .int .i64 0] 37)) (w.alloc (.cells #[.int .i64 0, .int .i64 0, .int .i64 0, .int .i64 0] 37)).heap.size a n0) := (hcode.below A0).more (by simp)
  clear hcode
  go_enter Tryd.func14, Tryd.ntmps14
  go_wp2_with fail
  refine (l1New_any a n0 c0 _ hn HC.out).mono ?_
  rintro e w1 ⟨p, rfl, w1c, w1b⟩
  have b1 := A0.trans (w1b.mono A0.size)
  have R1 := R0.below w1b
  have q1 := w1c.lt
  simp only [World.size_alloc] at q1
  have hpw : w.heap.size ≠ p := by omega
  clear HC R0 A0 w1b
  generalize (w.alloc (.cells #[.int .i64 0, .int .i64 0, .int .i64 0, .int .i64 0] 37)).heap.size = B at *
  go_wp2_with fail
  refine (l3DrawOsc_any B p _ w1c).mono ?_
  rintro e w2 ⟨x, y, t, u, rfl, w2c, w2b⟩
  have b2 : Below w.heap.size w w2 := b1.trans (w2b.below (by omega) b1.size)
  have R2 := R1.but w2b hpw
  have A2 := Below.alc w2 (.cells #[.int .i64 x, .int .i64 y, .int .i64 t, .int .i64 u] 37)
  have N2 := Box4.new w2 x y t u 37
  have q2 := w2c.lt
  have hk : w2.heap.size ≠ p := by omega
  have b2' := b2.trans (A2.mono b2.size)
  have R2' := R2.below A2
  have w2c' := w2c.below A2
  have hwk : w.heap.size < w2.heap.size := R2.1
  clear b1 R1 w1c w2b b2 R2 w2c A2
  go_wp2_with fail
  generalize w2.heap.size = k at *
  generalize w2.alloc (.cells #[.int .i64 x, .int .i64 y, .int .i64 t, .int .i64 u] 37) = v2 at *
  refine (l1Size_m _ _ _ _ _ hn (by omega) (by omega)).mono ?_
  rintro e w' ⟨s, rfl, s0, s1, rfl⟩
  go_wp2_with fail
  refine (l1Below_any B p _ _ w2c').mono ?_
  rintro e w3 ⟨m, rfl, ml, mh, mp, mz, w3c, w3b⟩
  have hm1 : m ≤ 20 := by
    by_cases h : 0 < s
    · have := mp h; omega
    · have := mz (by omega); omega
  have b3 := b2'.trans (w3b.below (by omega) b2'.size)
  have R3 := R2'.but w3b hpw
  have N3 := N2.but w3b hk
  clear b2' R2' N2 w2c' w3b mp mz
  go_wp2_with fail
  refine (l1Once_any B p 25 _ w3c).mono ?_
  rintro e w4 ⟨o1, rfl, w4c, w4b⟩
  have b4 := b3.trans (w4b.below (by omega) b3.size)
  have R4 := R3.but w4b hpw
  have N4 := N3.but w4b hk
  clear b3 R3 N3 w3c w4b
  cases o1
  · obtain ⟨m1, m2, m3, m4, m5, m6, m7, m8, m9⟩ := id N4
    have hw4 : w.heap.size + 1 ≤ w4.heap.size := R4.1
    go_wp2_with fail
    refine wp_region_held_drew (S := (fun w' => w'.cell? ⟨k, 0, none⟩ = some (.int .i64 x) ∧ w'.cell? ⟨k, 1, none⟩ = some (.int .i64 y) ∧ w'.cell? ⟨k, 2, none⟩ = some (.int .i64 t) ∧ w'.cell? ⟨k, 3, none⟩ = some (.int .i64 u))) (by kernel_rfl) ?_ (fun hHeld => ?_)
    · simp (maxDischargeDepth := 6) [go_sem, *]
    refine wpAnyH_take (i := 0) (v := ?_) (by rw [List.getElem?_toArray]; rfl) (by kernel_rfl) (by kernel_rfl) (by kernel_rfl) (by intro _ _ _ h; exact h) (Or.inl ⟨by rfl, ?_⟩) (by assumption) ?_
    rotate_left
    · (intro w hSw; (try dsimp only at hSw); go_simp; all_goals with_reducible rfl)
    (try simp only [Act.put, List.setIfInBounds_toArray, List.set_cons_zero, List.set_cons_succ])
    refine wpAnyH_take (i := 1) (v := ?_) (by rw [List.getElem?_toArray]; rfl) (by kernel_rfl) (by kernel_rfl) (by kernel_rfl) (by intro _ _ _ h; exact h) (Or.inl ⟨by rfl, ?_⟩) (by assumption) ?_
    rotate_left
    · (intro w hSw; (try dsimp only at hSw); go_simp; all_goals with_reducible rfl)
    (try simp only [Act.put, List.setIfInBounds_toArray, List.set_cons_zero, List.set_cons_succ])
    refine wpAnyH_take (i := 2) (v := ?_) (by rw [List.getElem?_toArray]; rfl) (by kernel_rfl) (by kernel_rfl) (by kernel_rfl) (by intro _ _ _ h; exact h) (Or.inl ⟨by rfl, ?_⟩) (by assumption) ?_
    rotate_left
    · (intro w hSw; (try dsimp only at hSw); go_simp; all_goals with_reducible rfl)
    (try simp only [Act.put, List.setIfInBounds_toArray, List.set_cons_zero, List.set_cons_succ])
    refine wpAnyH_ready (rs := [3]) (by kernel_rfl) (by simp) ?_
    refine AllReadyH.cons (by rw [List.getElem?_toArray]; rfl) (fun K hK => ?_) AllReadyH.nil
    go_simp
    refine (l3DrawStrides_any B p _ _ (by first | exact w4c | exact CurOk.drew w4c) (by omega)).mono ?_; rintro e w5 ⟨v, L, rfl, O, hL, w5c, w5b⟩; (first | replace w5b := But.undrewA w5b | skip); (have b5 := b4.trans (w5b.below (by omega) b4.size)); (have R5 := R4.but w5b hpw); (have N5 := N4.but w5b hk); clear m1 m2 m3 m4 m5 m6 m7 m8 m9; obtain ⟨m1, m2, m3, m4, m5, m6, m7, m8, m9⟩ := id N5; obtain ⟨g1, g2, g3, g4, g5, g6, g7, g8, g9⟩ := id R5; (have O2 := own_base3 O (show w.heap.size + 1 ≤ _ from hw4)); clear O
    (try go_wp2_with fail)
    refine hK.out _ _ ?_ (fun hHeld => ?_)
    · simp (maxDischargeDepth := 6) [go_sem, *]
    clear hK K
    (try simp only [Act.put, List.setIfInBounds_toArray, List.set_cons_zero, List.set_cons_succ])
    refine wpAnyH_ready (rs := [4]) (by kernel_rfl) (by simp) ?_
    refine AllReadyH.cons (by rw [List.getElem?_toArray]; rfl) (fun K hK => ?_) AllReadyH.nil
    go_simp
    refine hK.out _ _ ?_ (fun hHeld => ?_)
    · simp (maxDischargeDepth := 6) [go_sem, *]
    clear hK K
    (try simp only [Act.put, List.setIfInBounds_toArray, List.set_cons_zero, List.set_cons_succ])
    refine wpAnyH_take (i := 5) (v := ?_) (by rw [List.getElem?_toArray]; rfl) (by kernel_rfl) (by kernel_rfl) (by kernel_rfl) (by intro _ _ _ h; exact h) (Or.inl ⟨by rfl, ?_⟩) (by assumption) ?_
    rotate_left
    · (intro w hSw; (try dsimp only at hSw); go_simp; all_goals with_reducible rfl)
    (try simp only [Act.put, List.setIfInBounds_toArray, List.set_cons_zero, List.set_cons_succ])
    refine wpAnyH_done (by kernel_rfl) ?_ _
    go_wp2_with fail
    exact bodyPost_ret (v := .tuple #[.agg #[.int .i64 x, .int .i64 y, .int .i64 t, .int .i64 u], v]) (by simp (maxDischargeDepth := 6) [results, Tryd.results14, go_sem, *]) rfl ⟨x, y, t, u, v, L, rfl, own_set4 O2 (Nat.lt_succ_self _) x y t u, hL, Below.set4 b5 (Nat.le_refl _) x y t u⟩
  · go_wp2_with fail
    refine (l1Below_any B p 2 _ w4c).mono ?_
    rintro e w5 ⟨m', rfl, ml', mh', mp', mz', w5c, w5b⟩
    have hm2 := mp' (by omega)
    have b5 := b4.trans (w5b.below (by omega) b4.size)
    have R5 := R4.but w5b hpw
    have N5 := N4.but w5b hk
    clear b4 R4 N4 w4c w5b mp' mz'
    obtain ⟨m1, m2, m3, m4, m5, m6, m7, m8, m9⟩ := id N5
    have hw5 : w.heap.size + 1 ≤ w5.heap.size := R5.1
    go_wp2_with fail
    refine wp_region_held_drew (S := (fun w' => w'.cell? ⟨k, 0, none⟩ = some (.int .i64 x) ∧ w'.cell? ⟨k, 1, none⟩ = some (.int .i64 y) ∧ w'.cell? ⟨k, 2, none⟩ = some (.int .i64 t) ∧ w'.cell? ⟨k, 3, none⟩ = some (.int .i64 u))) (by kernel_rfl) ?_ (fun hHeld => ?_)
    · simp (maxDischargeDepth := 6) [go_sem, *]
    refine wpAnyH_take (i := 0) (v := ?_) (by rw [List.getElem?_toArray]; rfl) (by kernel_rfl) (by kernel_rfl) (by kernel_rfl) (by intro _ _ _ h; exact h) (Or.inl ⟨by rfl, ?_⟩) (by assumption) ?_
    rotate_left
    · (intro w hSw; (try dsimp only at hSw); go_simp; all_goals with_reducible rfl)
    (try simp only [Act.put, List.setIfInBounds_toArray, List.set_cons_zero, List.set_cons_succ])
    refine wpAnyH_take (i := 1) (v := ?_) (by rw [List.getElem?_toArray]; rfl) (by kernel_rfl) (by kernel_rfl) (by kernel_rfl) (by intro _ _ _ h; exact h) (Or.inl ⟨by rfl, ?_⟩) (by assumption) ?_
    rotate_left
    · (intro w hSw; (try dsimp only at hSw); go_simp; all_goals with_reducible rfl)
    (try simp only [Act.put, List.setIfInBounds_toArray, List.set_cons_zero, List.set_cons_succ])
    refine wpAnyH_take (i := 2) (v := ?_) (by rw [List.getElem?_toArray]; rfl) (by kernel_rfl) (by kernel_rfl) (by kernel_rfl) (by intro _ _ _ h; exact h) (Or.inl ⟨by rfl, ?_⟩) (by assumption) ?_
    rotate_left
    · (intro w hSw; (try dsimp only at hSw); go_simp; all_goals with_reducible rfl)
    (try simp only [Act.put, List.setIfInBounds_toArray, List.set_cons_zero, List.set_cons_succ])
    refine wpAnyH_ready (rs := [3]) (by kernel_rfl) (by simp) ?_
    refine AllReadyH.cons (by rw [List.getElem?_toArray]; rfl) (fun K hK => ?_) AllReadyH.nil
    go_simp
    refine (l3DrawStrides_any B p _ _ (by first | exact w5c | exact CurOk.drew w5c) (by omega)).mono ?_; rintro e w6 ⟨v, L, rfl, O, hL, w6c, w6b⟩; (first | replace w6b := But.undrewA w6b | skip); (have b6 := b5.trans (w6b.below (by omega) b5.size)); (have R6 := R5.but w6b hpw); (have N6 := N5.but w6b hk); clear m1 m2 m3 m4 m5 m6 m7 m8 m9; obtain ⟨m1, m2, m3, m4, m5, m6, m7, m8, m9⟩ := id N6; obtain ⟨g1, g2, g3, g4, g5, g6, g7, g8, g9⟩ := id R6; (have O2 := own_base3 O (show w.heap.size + 1 ≤ _ from hw5)); clear O
    (try go_wp2_with fail)
    refine hK.out _ _ ?_ (fun hHeld => ?_)
    · simp (maxDischargeDepth := 6) [go_sem, *]
    clear hK K
    (try simp only [Act.put, List.setIfInBounds_toArray, List.set_cons_zero, List.set_cons_succ])
    refine wpAnyH_ready (rs := [4]) (by kernel_rfl) (by simp) ?_
    refine AllReadyH.cons (by rw [List.getElem?_toArray]; rfl) (fun K hK => ?_) AllReadyH.nil
    go_simp
    refine hK.out _ _ ?_ (fun hHeld => ?_)
    · simp (maxDischargeDepth := 6) [go_sem, *]
    clear hK K
    (try simp only [Act.put, List.setIfInBounds_toArray, List.set_cons_zero, List.set_cons_succ])
    refine wpAnyH_take (i := 5) (v := ?_) (by rw [List.getElem?_toArray]; rfl) (by kernel_rfl) (by kernel_rfl) (by kernel_rfl) (by intro _ _ _ h; exact h) (Or.inl ⟨by rfl, ?_⟩) (by assumption) ?_
    rotate_left
    · (intro w hSw; (try dsimp only at hSw); go_simp; all_goals with_reducible rfl)
    (try simp only [Act.put, List.setIfInBounds_toArray, List.set_cons_zero, List.set_cons_succ])
    refine wpAnyH_done (by kernel_rfl) ?_ _
    go_wp2_with fail
    exact bodyPost_ret (v := .tuple #[.agg #[.int .i64 x, .int .i64 y, .int .i64 t, .int .i64 u], v]) (by simp (maxDischargeDepth := 6) [results, Tryd.results14, go_sem, *]) rfl ⟨x, y, t, u, v, L, rfl, own_set4 O2 (Nat.lt_succ_self _) x y t u, hL, Below.set4 b6 (Nat.le_refl _) x y t u⟩
end Go.Proofs.YtblappilppfkiaaDoor
namespace Go.Proofs.YtblappilppfkiaaDoor
open Go.RowKit
set_option linter.unusedVariables false
end Go.Proofs.YtblappilppfkiaaDoor
namespace Go.Proofs.YtblappilppfkiaaDoor
open Go.RowKit
set_option linter.unusedVariables false
theorem own_set4n {w : World} {base : Nat} {e : TypeId} {size : Nat} {v : Value} {n : Nat} {xs : List Value} (h : w.ownsRow base e size v n xs) {k : Nat} (hne : ∀ g, v.ownBlock = some g → g ≠ k) (a b c d : Int) : (set4 w k a b c d).ownsRow base e size v n xs :=
  own_set (own_set (own_set (own_set h hne _ _) hne _ _) hne _ _) hne _ _
theorem own_drew {w : World} {base : Nat} {e : TypeId} {size : Nat} {v : Value} {n : Nat} {xs : List Value} (h : w.ownsRow base e size v n xs) : w.drew.ownsRow base e size v n xs := h
theorem cell_drew {w : World} {q : Addr} {u : Option Value} (h : w.cell? q = u) : w.drew.cell? q = u := h
theorem size_drewn {w : World} {b : Nat} (h : b < w.heap.size) : b < w.drew.heap.size := h
set_option maxHeartbeats 1000000 in
theorem specOscRun_bad (n d t c : Int) (a : Option Addr) (m cp : Nat) (w : World) (hm : m ≤ maxLen) (h : runG n d t c m = false) :
    Calls Tryd.prog 15 #[.agg #[.int .i64 n, .int .i64 d, .int .i64 t, .int .i64 c], .slice a m cp] w fun e w' => ∃ v, e = .returned (.tuple #[v, .int .i64 0]) ∧ w'.ownsRow w.heap.size 52 2 v 0 (prs []) ∧ Below w.heap.size w w' := by
  unfold maxLen at hm
  have B0 := Below.alc w (.cells #[.int .i64 n, .int .i64 d, .int .i64 t, .int .i64 c] 37)
  cases ho : okO n d t c
  · go_enter Tryd.func15, Tryd.ntmps15
    go_wp2_with fail
    refine (specOscOk_any _ _ _ _ _).mono ?_
    rintro e w1 ⟨rfl, hb⟩
    rw [ho]
    have B1 := B0.trans (hb.mono B0.size)
    clear hb
    have O1 : (w1.alloc (.cells #[] 52)).ownsRow w.heap.size 52 2 (.slice (some ⟨w1.heap.size, 0, none⟩) 0 0) 0 [] := World.ownsRow_made w1 #[] 0 B1.size (by simp [maxLen]) (by simp)
    have B2 := B1.alloc B1.size (.cells #[] 52)
    go_wp2_with fail
    exact bodyPost_ret (v := .tuple #[.slice (some ⟨w1.heap.size, 0, none⟩) 0 0, .int .i64 0]) (by simp (maxDischargeDepth := 6) [results, Tryd.results15, go_sem, *]) rfl ⟨_, rfl, O1, B2⟩
  · have hi : decide (200 < (m : Int)) = true := by simp [runG, ho] at h; simp; omega
    go_enter Tryd.func15, Tryd.ntmps15
    go_wp2_with fail
    refine (specOscOk_any _ _ _ _ _).mono ?_
    rintro e w1 ⟨rfl, hb⟩
    rw [ho]
    have B1 := B0.trans (hb.mono B0.size)
    clear hb
    have O1 : (w1.alloc (.cells #[] 52)).ownsRow w.heap.size 52 2 (.slice (some ⟨w1.heap.size, 0, none⟩) 0 0) 0 [] := World.ownsRow_made w1 #[] 0 B1.size (by simp [maxLen]) (by simp)
    have B2 := B1.alloc B1.size (.cells #[] 52)
    go_wp2_with fail
    exact bodyPost_ret (v := .tuple #[.slice (some ⟨w1.heap.size, 0, none⟩) 0 0, .int .i64 0]) (by simp (maxDischargeDepth := 6) [results, Tryd.results15, go_sem, *]) rfl ⟨_, rfl, O1, B2⟩
set_option maxHeartbeats 4000000 in
theorem specOscRun_good (n d t c : Int) (a : Option Addr) (m cp : Nat) (f : Nat → Int × Int) (w : World) (ho : okO n d t c = true) (hm : m ≤ 200) (hs : Src w a m f) :
    Calls Tryd.prog 15 #[.agg #[.int .i64 n, .int .i64 d, .int .i64 t, .int .i64 c], .slice a m cp] w fun e w' => ∃ v, e = .returned (.tuple #[v, .int .i64 (runN n d t c f m)]) ∧ w'.ownsRow w.heap.size 52 2 v (runN n d t c f m + 1) (prs (mkL n d t c f (runN n d t c f m))) ∧ Below w.heap.size w w' := by
  obtain ⟨i0, hi, hz0, hz1, hz2⟩ := info_parts infoMark
  have B0 := Below.alc w (.cells #[.int .i64 n, .int .i64 d, .int .i64 t, .int .i64 c] 37)
  have P0 := Box4.new w n d t c 37
  have HO : Hid (okO n d t c = true) := ho
  have HS : Hid (Src w a m f) := hs
  have hd : decide (200 < (m : Int)) = false := by simp; omega
  clear hs ho
  go_enter Tryd.func15, Tryd.ntmps15
  go_wp2_with fail
  refine (specOscOk_any _ _ _ _ _).mono ?_
  rintro e w2 ⟨rfl, hb⟩
  rw [HO.out]
  have B2 := B0.trans (hb.mono B0.size)
  have P2 := P0.below hb
  clear hb B0 P0
  obtain ⟨a0, a1, a2, a3, a4, a5, a6, a7, a8⟩ := id P2
  have s2 : w.heap.size + 1 ≤ w2.heap.size := P2.1
  have O2 := own_one w2 (w.heap.size + 1) 52 t c s2
  have A2 := Below.alc w2 (.cells #[.int .i64 t, .int .i64 c] 52)
  have P3 := P2.below A2
  have B3 := B2.trans (A2.mono B2.size)
  rw [← mkL_zero n d t c f] at O2
  clear A2 B2
  go_wp2_with fail
  clear P2 a0 a1 a2 a3 a4 a5 a6 a7 a8
  generalize w2.alloc (.cells #[.int .i64 t, .int .i64 c] 52) = v3 at *
  go_loopw [6, 7] (fun v i wr => ∃ k : Nat, k ≤ m ∧ i = .int .i64 k ∧ (∀ i, i < k → stepAt n d t c f i = true) ∧ wr.ownsRow (w.heap.size + 1) 52 2 v (k + 1) (prs (mkL n d t c f k)) ∧ Box4 wr w.heap.size n d (mkM n d t c f k).1 (mkM n d t c f k).2 ∧ Below w.heap.size w wr) (fun _ i _ => m - (intOf i).toNat)
  case atStart => exact ⟨0, Nat.zero_le _, rfl, fun i hi => absurd hi (Nat.not_lt_zero _), O2, P3, B3⟩
  case round =>
    obtain ⟨k, hk, rfl, hall, O, P, B⟩ := hrel
    have HA : Hid (∀ i, i < k → stepAt n d t c f i = true) := hall
    clear hall O2 P3 B3
    by_cases hlt : k < m
    · rcases HS.out.below B with h0 | ⟨b, off, rfl, hp⟩
      · omega
      have e0 : wr.cell? ⟨b, off + k * 2, none⟩ = some (.int .i64 (f k).1) := (hp.2 k hlt).1
      have e1 : wr.cell? ⟨b, off + k * 2 + 1, none⟩ = some (.int .i64 (f k).2) := (hp.2 k hlt).2
      have bwr : b < wr.heap.size := hp.1
      have hli : (k : Int) < (m : Int) := by omega
      obtain ⟨a0, a1, a2, a3, a4, a5, a6, a7, a8⟩ := id P
      clear hp
      have HK := mkM_ok HO.out HA.out
      generalize wr = v at *
      cases hst : stepAt n d t c f k
      · have HR : Hid (runN n d t c f m = k) := runN_stop HA.out hst m hlt
        have hst' : stepB n d (mkM n d t c f k).1 (mkM n d t c f k).2 (f k).1 (f k).2 = false := hst
        go_wp2_with fail
        go_cut [8, 9] (fun s8 s9 wx => ∃ j : Nat, s8 = .pointer (some ⟨j, 0, none⟩) ∧ s9 = .bool false ∧ Box4 wx j n d (mkM n d t c f k).1 (mkM n d t c f k).2 ∧ Box4 wx w.heap.size n d (mkM n d t c f k).1 (mkM n d t c f k).2 ∧ wx.ownsRow (w.heap.size + 1) 52 2 u6 (k + 1) (prs (mkL n d t c f k)) ∧ Below w.heap.size w wx)
        case first =>
          refine wp_region_held_drew (S := (fun w' => w'.cell? ⟨w.heap.size, 0, none⟩ = some (.int .i64 n) ∧ w'.cell? ⟨w.heap.size, 1, none⟩ = some (.int .i64 d) ∧ w'.cell? ⟨w.heap.size, 2, none⟩ = some (.int .i64 (mkM n d t c f k).1) ∧ w'.cell? ⟨w.heap.size, 3, none⟩ = some (.int .i64 (mkM n d t c f k).2) ∧ w'.cell? ⟨b, off + k * 2, none⟩ = some (.int .i64 (f k).1) ∧ w'.cell? ⟨b, off + k * 2 + 1, none⟩ = some (.int .i64 (f k).2))) (by kernel_rfl) ?_ (fun hHeld => ?_)
          · simp (maxDischargeDepth := 6) [go_sem, *]
          clear a0 a1 a2 a3 a4 a5 a6 a7 a8; (try clear n0 n1 n2 n3 n4 n5 n6 n7 n8)
          replace P := P.drew
          replace O := own_drew O
          replace B := B.drew
          replace e0 := cell_drew e0
          replace e1 := cell_drew e1
          replace bwr := size_drewn bwr
          generalize v.drew = v at *
          obtain ⟨a0, a1, a2, a3, a4, a5, a6, a7, a8⟩ := id P; (try (obtain ⟨n0, n1, n2, n3, n4, n5, n6, n7, n8⟩ := id N))
          refine wpAnyH_take (i := 0) (v := ?_) (by rw [List.getElem?_toArray]; rfl) (by kernel_rfl) (by kernel_rfl) (by kernel_rfl) (by intro _ _ _ h; exact h) (Or.inl ⟨by rfl, ?_⟩) (by assumption) ?_
          rotate_left
          · (intro w hSw; (try dsimp only at hSw); go_simp; all_goals with_reducible rfl)
          (try simp only [Act.put, List.setIfInBounds_toArray, List.set_cons_zero, List.set_cons_succ])
          refine wpAnyH_take (i := 1) (v := ?_) (by rw [List.getElem?_toArray]; rfl) (by kernel_rfl) (by kernel_rfl) (by kernel_rfl) (by intro _ _ _ h; exact h) (Or.inl ⟨by rfl, ?_⟩) (by assumption) ?_
          rotate_left
          · (intro w hSw; (try dsimp only at hSw); go_simp; all_goals with_reducible rfl)
          (try simp only [Act.put, List.setIfInBounds_toArray, List.set_cons_zero, List.set_cons_succ])
          refine wpAnyH_take (i := 2) (v := ?_) (by rw [List.getElem?_toArray]; rfl) (by kernel_rfl) (by kernel_rfl) (by kernel_rfl) (by intro _ _ _ h; exact h) (Or.inl ⟨by rfl, ?_⟩) (by assumption) ?_
          rotate_left
          · (intro w hSw; (try dsimp only at hSw); go_simp; all_goals with_reducible rfl)
          (try simp only [Act.put, List.setIfInBounds_toArray, List.set_cons_zero, List.set_cons_succ])
          refine wpAnyH_take (i := 3) (v := ?_) (by rw [List.getElem?_toArray]; rfl) (by kernel_rfl) (by kernel_rfl) (by kernel_rfl) (by intro _ _ _ h; exact h) (Or.inl ⟨by rfl, ?_⟩) (by assumption) ?_
          rotate_left
          · (intro w hSw; (try dsimp only at hSw); go_simp; all_goals with_reducible rfl)
          (try simp only [Act.put, List.setIfInBounds_toArray, List.set_cons_zero, List.set_cons_succ])
          refine wpAnyH_take (i := 4) (v := ?_) (by rw [List.getElem?_toArray]; rfl) (by kernel_rfl) (by kernel_rfl) (by kernel_rfl) (by intro _ _ _ h; exact h) (Or.inl ⟨by rfl, ?_⟩) (by assumption) ?_
          rotate_left
          · (intro w hSw; (try dsimp only at hSw); go_simp; all_goals with_reducible rfl)
          (try simp only [Act.put, List.setIfInBounds_toArray, List.set_cons_zero, List.set_cons_succ])
          refine wpAnyH_ready (rs := [5, 9]) (by kernel_rfl) (by simp) ?_
          refine (AllReadyH.cons (by rw [List.getElem?_toArray]; rfl) (fun K hK => ?_) (AllReadyH.cons (by rw [List.getElem?_toArray]; rfl) (fun K hK => ?_) AllReadyH.nil))
          · go_simp
            refine (specStep_f _ _ _ _ _ _ _ HK hst').mono ?_; rintro e v ⟨rfl, hb⟩; clear a0 a1 a2 a3 a4 a5 a6 a7 a8; (try clear n0 n1 n2 n3 n4 n5 n6 n7 n8); (replace P := P.below hb); (try (replace N := N.below hb)); (replace O := own_below O hb); (replace B := B.trans (hb.mono B.size)); (replace e0 := (hb.cell (p := ⟨b, off + k * 2, none⟩) bwr).trans e0); (replace e1 := (hb.cell (p := ⟨b, off + k * 2 + 1, none⟩) bwr).trans e1); (replace bwr := Nat.lt_of_lt_of_le bwr hb.size); clear hb; obtain ⟨a0, a1, a2, a3, a4, a5, a6, a7, a8⟩ := id P; (try (obtain ⟨n0, n1, n2, n3, n4, n5, n6, n7, n8⟩ := id N))
            (try go_wp2_with fail)
            refine hK.out _ _ ?_ (fun hHeld => ?_)
            · simp (maxDischargeDepth := 6) [go_sem, *]
            clear hK K
            (try simp only [Act.put, List.setIfInBounds_toArray, List.set_cons_zero, List.set_cons_succ])
            refine wpAnyH_take (i := 6) (v := ?_) (by rw [List.getElem?_toArray]; rfl) (by kernel_rfl) (by kernel_rfl) (by kernel_rfl) (by intro _ _ _ h; exact h) (Or.inl ⟨by rfl, ?_⟩) (by assumption) ?_
            rotate_left
            · (intro w hSw; (try dsimp only at hSw); go_simp; all_goals with_reducible rfl)
            (try simp only [Act.put, List.setIfInBounds_toArray, List.set_cons_zero, List.set_cons_succ])
            refine wpAnyH_take (i := 7) (v := ?_) (by rw [List.getElem?_toArray]; rfl) (by kernel_rfl) (by kernel_rfl) (by kernel_rfl) (by intro _ _ _ h; exact h) (Or.inl ⟨by rfl, ?_⟩) (by assumption) ?_
            rotate_left
            · (intro w hSw; (try dsimp only at hSw); go_simp; all_goals with_reducible rfl)
            (try simp only [Act.put, List.setIfInBounds_toArray, List.set_cons_zero, List.set_cons_succ])
            refine wpAnyH_take (i := 8) (v := ?_) (by rw [List.getElem?_toArray]; rfl) (by kernel_rfl) (by kernel_rfl) (by kernel_rfl) (by intro _ _ _ h; exact h) (Or.inl ⟨by rfl, ?_⟩) (by assumption) ?_
            rotate_left
            · (intro w hSw; (try dsimp only at hSw); go_simp; all_goals with_reducible rfl)
            (try simp only [Act.put, List.setIfInBounds_toArray, List.set_cons_zero, List.set_cons_succ])
            refine wpAnyH_ready (rs := [9]) (by kernel_rfl) (by simp) ?_
            refine (AllReadyH.cons (by rw [List.getElem?_toArray]; rfl) (fun K hK => ?_) AllReadyH.nil)
            go_simp
            (have N := Box4.new v 0 0 0 0 37); (have hj : w.heap.size < v.heap.size := a0); (have bj : b < v.heap.size := bwr); (have hjg : ∀ g, u6.ownBlock = some g → g ≠ v.heap.size := fun g hg => by have := (O.lt g hg).2; omega); (have hA := Below.alc v (.cells #[.int .i64 0, .int .i64 0, .int .i64 0, .int .i64 0] 37)); clear a0 a1 a2 a3 a4 a5 a6 a7 a8; (try clear n0 n1 n2 n3 n4 n5 n6 n7 n8); (replace P := P.below hA); (replace O := own_below O hA); (replace B := B.trans (hA.mono B.size)); (replace e0 := (hA.cell (p := ⟨b, off + k * 2, none⟩) bwr).trans e0); (replace e1 := (hA.cell (p := ⟨b, off + k * 2 + 1, none⟩) bwr).trans e1); (replace bwr := Nat.lt_of_lt_of_le bwr hA.size); clear hA; (generalize v.alloc (.cells #[.int .i64 0, .int .i64 0, .int .i64 0, .int .i64 0] 37) = v2 at *); obtain ⟨a0, a1, a2, a3, a4, a5, a6, a7, a8⟩ := id P; (try (obtain ⟨n0, n1, n2, n3, n4, n5, n6, n7, n8⟩ := id N))
            refine hK.out _ _ ?_ (fun hHeld => ?_)
            · simp (maxDischargeDepth := 6) [go_sem, *]
            clear hK K
            (try simp only [Act.put, List.setIfInBounds_toArray, List.set_cons_zero, List.set_cons_succ])
            refine wpAnyH_ready (rs := [10]) (by kernel_rfl) (by simp) ?_
            refine (AllReadyH.cons (by rw [List.getElem?_toArray]; rfl) (fun K hK => ?_) AllReadyH.nil)
            go_simp
            refine hK.out _ _ ?_ (fun hHeld => ?_)
            · simp (maxDischargeDepth := 6) [go_sem, *]
            clear hK K
            (try simp only [Act.put, List.setIfInBounds_toArray, List.set_cons_zero, List.set_cons_succ])
            refine wpAnyH_take (i := 11) (v := ?_) (by rw [List.getElem?_toArray]; rfl) (by kernel_rfl) (by kernel_rfl) (by kernel_rfl) (by intro _ _ _ h; exact h) (Or.inl ⟨by rfl, ?_⟩) (by assumption) ?_
            rotate_left
            · (intro w hSw; (try dsimp only at hSw); go_simp; all_goals with_reducible rfl)
            (try simp only [Act.put, List.setIfInBounds_toArray, List.set_cons_zero, List.set_cons_succ])
            refine wpAnyH_done (by kernel_rfl) ?_ _
            go_wp2_with fail
            go_meet
            case rel => exact ⟨_, rfl, rfl, N.set n d (mkM n d t c f k).1 (mkM n d t c f k).2, P.set4O (by omega) n d (mkM n d t c f k).1 (mkM n d t c f k).2, own_set4n O hjg n d (mkM n d t c f k).1 (mkM n d t c f k).2, Below.set4 B (by omega) n d (mkM n d t c f k).1 (mkM n d t c f k).2⟩
          · go_simp
            (have N := Box4.new v 0 0 0 0 37); (have hj : w.heap.size < v.heap.size := a0); (have bj : b < v.heap.size := bwr); (have hjg : ∀ g, u6.ownBlock = some g → g ≠ v.heap.size := fun g hg => by have := (O.lt g hg).2; omega); (have hA := Below.alc v (.cells #[.int .i64 0, .int .i64 0, .int .i64 0, .int .i64 0] 37)); clear a0 a1 a2 a3 a4 a5 a6 a7 a8; (try clear n0 n1 n2 n3 n4 n5 n6 n7 n8); (replace P := P.below hA); (replace O := own_below O hA); (replace B := B.trans (hA.mono B.size)); (replace e0 := (hA.cell (p := ⟨b, off + k * 2, none⟩) bwr).trans e0); (replace e1 := (hA.cell (p := ⟨b, off + k * 2 + 1, none⟩) bwr).trans e1); (replace bwr := Nat.lt_of_lt_of_le bwr hA.size); clear hA; (generalize v.alloc (.cells #[.int .i64 0, .int .i64 0, .int .i64 0, .int .i64 0] 37) = v2 at *); obtain ⟨a0, a1, a2, a3, a4, a5, a6, a7, a8⟩ := id P; (try (obtain ⟨n0, n1, n2, n3, n4, n5, n6, n7, n8⟩ := id N))
            refine hK.out _ _ ?_ (fun hHeld => ?_)
            · simp (maxDischargeDepth := 6) [go_sem, *]
            clear hK K
            (try simp only [Act.put, List.setIfInBounds_toArray, List.set_cons_zero, List.set_cons_succ])
            refine wpAnyH_ready (rs := [5]) (by kernel_rfl) (by simp) ?_
            refine (AllReadyH.cons (by rw [List.getElem?_toArray]; rfl) (fun K hK => ?_) AllReadyH.nil)
            go_simp
            refine (specStep_f _ _ _ _ _ _ _ HK hst').mono ?_; rintro e v ⟨rfl, hb⟩; clear a0 a1 a2 a3 a4 a5 a6 a7 a8; (try clear n0 n1 n2 n3 n4 n5 n6 n7 n8); (replace P := P.below hb); (try (replace N := N.below hb)); (replace O := own_below O hb); (replace B := B.trans (hb.mono B.size)); (replace e0 := (hb.cell (p := ⟨b, off + k * 2, none⟩) bwr).trans e0); (replace e1 := (hb.cell (p := ⟨b, off + k * 2 + 1, none⟩) bwr).trans e1); (replace bwr := Nat.lt_of_lt_of_le bwr hb.size); clear hb; obtain ⟨a0, a1, a2, a3, a4, a5, a6, a7, a8⟩ := id P; (try (obtain ⟨n0, n1, n2, n3, n4, n5, n6, n7, n8⟩ := id N))
            (try go_wp2_with fail)
            refine hK.out _ _ ?_ (fun hHeld => ?_)
            · simp (maxDischargeDepth := 6) [go_sem, *]
            clear hK K
            (try simp only [Act.put, List.setIfInBounds_toArray, List.set_cons_zero, List.set_cons_succ])
            refine wpAnyH_take (i := 6) (v := ?_) (by rw [List.getElem?_toArray]; rfl) (by kernel_rfl) (by kernel_rfl) (by kernel_rfl) (by intro _ _ _ h; exact h) (Or.inl ⟨by rfl, ?_⟩) (by assumption) ?_
            rotate_left
            · (intro w hSw; (try dsimp only at hSw); go_simp; all_goals with_reducible rfl)
            (try simp only [Act.put, List.setIfInBounds_toArray, List.set_cons_zero, List.set_cons_succ])
            refine wpAnyH_take (i := 7) (v := ?_) (by rw [List.getElem?_toArray]; rfl) (by kernel_rfl) (by kernel_rfl) (by kernel_rfl) (by intro _ _ _ h; exact h) (Or.inl ⟨by rfl, ?_⟩) (by assumption) ?_
            rotate_left
            · (intro w hSw; (try dsimp only at hSw); go_simp; all_goals with_reducible rfl)
            (try simp only [Act.put, List.setIfInBounds_toArray, List.set_cons_zero, List.set_cons_succ])
            refine wpAnyH_take (i := 8) (v := ?_) (by rw [List.getElem?_toArray]; rfl) (by kernel_rfl) (by kernel_rfl) (by kernel_rfl) (by intro _ _ _ h; exact h) (Or.inl ⟨by rfl, ?_⟩) (by assumption) ?_
            rotate_left
            · (intro w hSw; (try dsimp only at hSw); go_simp; all_goals with_reducible rfl)
            (try simp only [Act.put, List.setIfInBounds_toArray, List.set_cons_zero, List.set_cons_succ])
            refine wpAnyH_ready (rs := [10]) (by kernel_rfl) (by simp) ?_
            refine (AllReadyH.cons (by rw [List.getElem?_toArray]; rfl) (fun K hK => ?_) AllReadyH.nil)
            go_simp
            refine hK.out _ _ ?_ (fun hHeld => ?_)
            · simp (maxDischargeDepth := 6) [go_sem, *]
            clear hK K
            (try simp only [Act.put, List.setIfInBounds_toArray, List.set_cons_zero, List.set_cons_succ])
            refine wpAnyH_take (i := 11) (v := ?_) (by rw [List.getElem?_toArray]; rfl) (by kernel_rfl) (by kernel_rfl) (by kernel_rfl) (by intro _ _ _ h; exact h) (Or.inl ⟨by rfl, ?_⟩) (by assumption) ?_
            rotate_left
            · (intro w hSw; (try dsimp only at hSw); go_simp; all_goals with_reducible rfl)
            (try simp only [Act.put, List.setIfInBounds_toArray, List.set_cons_zero, List.set_cons_succ])
            refine wpAnyH_done (by kernel_rfl) ?_ _
            go_wp2_with fail
            go_meet
            case rel => exact ⟨_, rfl, rfl, N.set n d (mkM n d t c f k).1 (mkM n d t c f k).2, P.set4O (by omega) n d (mkM n d t c f k).1 (mkM n d t c f k).2, own_set4n O hjg n d (mkM n d t c f k).1 (mkM n d t c f k).2, Below.set4 B (by omega) n d (mkM n d t c f k).1 (mkM n d t c f k).2⟩
        case rest =>
          obtain ⟨j, rfl, rfl, N, P', O', B'⟩ := hcut
          clear P O B a0 a1 a2 a3 a4 a5 a6 a7 a8 e0 e1 bwr
          go_wp2_with fail
          exact bodyPost_ret (v := .tuple #[u6, .int .i64 (k : Int)]) (by simp (maxDischargeDepth := 6) [results, Tryd.results15, go_sem, *]) rfl ⟨u6, by rw [HR.out], by rw [HR.out]; exact own_base3 O' (Nat.le_succ _), B'⟩
      · have hst' : stepB n d (mkM n d t c f k).1 (mkM n d t c f k).2 (f k).1 (f k).2 = true := hst
        have HA2 : Hid (∀ i, i < k + 1 → stepAt n d t c f i = true) := fun i hi => by
          by_cases e : i = k
          · subst e; exact hst
          · exact HA.out i (by omega)
        have C1 : ∀ w', Calls Tryd.prog 38 #[.agg #[.int .i64 n, .int .i64 d, .int .i64 (mkM n d t c f k).1, .int .i64 (mkM n d t c f k).2], .agg #[.int .i64 (f k).1, .int .i64 (f k).2]] w' fun e w'' => e = .returned (.tuple #[.agg #[.int .i64 n, .int .i64 d, .int .i64 (mkM n d t c f (k + 1)).1, .int .i64 (mkM n d t c f (k + 1)).2], .bool true]) ∧ Below w'.heap.size w' w'' := fun w' => specStep_t _ _ _ _ _ _ w' hst'
        have LA := mkL_add n d t c f k
        generalize hnx : mkM n d t c f (k + 1) = nx at *
        have HX : Hid (mkM n d t c f (k + 1) = nx) := hnx
        clear hnx HA hst hst' HK
        go_wp2_with fail
        go_cut [8, 9] (fun s8 s9 wx => ∃ j : Nat, s8 = .pointer (some ⟨j, 0, none⟩) ∧ s9 = .bool true ∧ Box4 wx j n d nx.1 nx.2 ∧ Box4 wx w.heap.size n d (mkM n d t c f k).1 (mkM n d t c f k).2 ∧ wx.ownsRow (w.heap.size + 1) 52 2 u6 (k + 1) (prs (mkL n d t c f k)) ∧ Below w.heap.size w wx)
        case first =>
          refine wp_region_held_drew (S := (fun w' => w'.cell? ⟨w.heap.size, 0, none⟩ = some (.int .i64 n) ∧ w'.cell? ⟨w.heap.size, 1, none⟩ = some (.int .i64 d) ∧ w'.cell? ⟨w.heap.size, 2, none⟩ = some (.int .i64 (mkM n d t c f k).1) ∧ w'.cell? ⟨w.heap.size, 3, none⟩ = some (.int .i64 (mkM n d t c f k).2) ∧ w'.cell? ⟨b, off + k * 2, none⟩ = some (.int .i64 (f k).1) ∧ w'.cell? ⟨b, off + k * 2 + 1, none⟩ = some (.int .i64 (f k).2))) (by kernel_rfl) ?_ (fun hHeld => ?_)
          · simp (maxDischargeDepth := 6) [go_sem, *]
          clear a0 a1 a2 a3 a4 a5 a6 a7 a8; (try clear n0 n1 n2 n3 n4 n5 n6 n7 n8)
          replace P := P.drew
          replace O := own_drew O
          replace B := B.drew
          replace e0 := cell_drew e0
          replace e1 := cell_drew e1
          replace bwr := size_drewn bwr
          generalize v.drew = v at *
          obtain ⟨a0, a1, a2, a3, a4, a5, a6, a7, a8⟩ := id P; (try (obtain ⟨n0, n1, n2, n3, n4, n5, n6, n7, n8⟩ := id N))
          refine wpAnyH_take (i := 0) (v := ?_) (by rw [List.getElem?_toArray]; rfl) (by kernel_rfl) (by kernel_rfl) (by kernel_rfl) (by intro _ _ _ h; exact h) (Or.inl ⟨by rfl, ?_⟩) (by assumption) ?_
          rotate_left
          · (intro w hSw; (try dsimp only at hSw); go_simp; all_goals with_reducible rfl)
          (try simp only [Act.put, List.setIfInBounds_toArray, List.set_cons_zero, List.set_cons_succ])
          refine wpAnyH_take (i := 1) (v := ?_) (by rw [List.getElem?_toArray]; rfl) (by kernel_rfl) (by kernel_rfl) (by kernel_rfl) (by intro _ _ _ h; exact h) (Or.inl ⟨by rfl, ?_⟩) (by assumption) ?_
          rotate_left
          · (intro w hSw; (try dsimp only at hSw); go_simp; all_goals with_reducible rfl)
          (try simp only [Act.put, List.setIfInBounds_toArray, List.set_cons_zero, List.set_cons_succ])
          refine wpAnyH_take (i := 2) (v := ?_) (by rw [List.getElem?_toArray]; rfl) (by kernel_rfl) (by kernel_rfl) (by kernel_rfl) (by intro _ _ _ h; exact h) (Or.inl ⟨by rfl, ?_⟩) (by assumption) ?_
          rotate_left
          · (intro w hSw; (try dsimp only at hSw); go_simp; all_goals with_reducible rfl)
          (try simp only [Act.put, List.setIfInBounds_toArray, List.set_cons_zero, List.set_cons_succ])
          refine wpAnyH_take (i := 3) (v := ?_) (by rw [List.getElem?_toArray]; rfl) (by kernel_rfl) (by kernel_rfl) (by kernel_rfl) (by intro _ _ _ h; exact h) (Or.inl ⟨by rfl, ?_⟩) (by assumption) ?_
          rotate_left
          · (intro w hSw; (try dsimp only at hSw); go_simp; all_goals with_reducible rfl)
          (try simp only [Act.put, List.setIfInBounds_toArray, List.set_cons_zero, List.set_cons_succ])
          refine wpAnyH_take (i := 4) (v := ?_) (by rw [List.getElem?_toArray]; rfl) (by kernel_rfl) (by kernel_rfl) (by kernel_rfl) (by intro _ _ _ h; exact h) (Or.inl ⟨by rfl, ?_⟩) (by assumption) ?_
          rotate_left
          · (intro w hSw; (try dsimp only at hSw); go_simp; all_goals with_reducible rfl)
          (try simp only [Act.put, List.setIfInBounds_toArray, List.set_cons_zero, List.set_cons_succ])
          refine wpAnyH_ready (rs := [5, 9]) (by kernel_rfl) (by simp) ?_
          refine (AllReadyH.cons (by rw [List.getElem?_toArray]; rfl) (fun K hK => ?_) (AllReadyH.cons (by rw [List.getElem?_toArray]; rfl) (fun K hK => ?_) AllReadyH.nil))
          · go_simp
            refine (C1 _).mono ?_; rintro e v ⟨rfl, hb⟩; clear a0 a1 a2 a3 a4 a5 a6 a7 a8; (try clear n0 n1 n2 n3 n4 n5 n6 n7 n8); (replace P := P.below hb); (try (replace N := N.below hb)); (replace O := own_below O hb); (replace B := B.trans (hb.mono B.size)); (replace e0 := (hb.cell (p := ⟨b, off + k * 2, none⟩) bwr).trans e0); (replace e1 := (hb.cell (p := ⟨b, off + k * 2 + 1, none⟩) bwr).trans e1); (replace bwr := Nat.lt_of_lt_of_le bwr hb.size); clear hb; obtain ⟨a0, a1, a2, a3, a4, a5, a6, a7, a8⟩ := id P; (try (obtain ⟨n0, n1, n2, n3, n4, n5, n6, n7, n8⟩ := id N))
            (try go_wp2_with fail)
            refine hK.out _ _ ?_ (fun hHeld => ?_)
            · simp (maxDischargeDepth := 6) [go_sem, *]
            clear hK K
            (try simp only [Act.put, List.setIfInBounds_toArray, List.set_cons_zero, List.set_cons_succ])
            refine wpAnyH_take (i := 6) (v := ?_) (by rw [List.getElem?_toArray]; rfl) (by kernel_rfl) (by kernel_rfl) (by kernel_rfl) (by intro _ _ _ h; exact h) (Or.inl ⟨by rfl, ?_⟩) (by assumption) ?_
            rotate_left
            · (intro w hSw; (try dsimp only at hSw); go_simp; all_goals with_reducible rfl)
            (try simp only [Act.put, List.setIfInBounds_toArray, List.set_cons_zero, List.set_cons_succ])
            refine wpAnyH_take (i := 7) (v := ?_) (by rw [List.getElem?_toArray]; rfl) (by kernel_rfl) (by kernel_rfl) (by kernel_rfl) (by intro _ _ _ h; exact h) (Or.inl ⟨by rfl, ?_⟩) (by assumption) ?_
            rotate_left
            · (intro w hSw; (try dsimp only at hSw); go_simp; all_goals with_reducible rfl)
            (try simp only [Act.put, List.setIfInBounds_toArray, List.set_cons_zero, List.set_cons_succ])
            refine wpAnyH_take (i := 8) (v := ?_) (by rw [List.getElem?_toArray]; rfl) (by kernel_rfl) (by kernel_rfl) (by kernel_rfl) (by intro _ _ _ h; exact h) (Or.inl ⟨by rfl, ?_⟩) (by assumption) ?_
            rotate_left
            · (intro w hSw; (try dsimp only at hSw); go_simp; all_goals with_reducible rfl)
            (try simp only [Act.put, List.setIfInBounds_toArray, List.set_cons_zero, List.set_cons_succ])
            refine wpAnyH_ready (rs := [9]) (by kernel_rfl) (by simp) ?_
            refine (AllReadyH.cons (by rw [List.getElem?_toArray]; rfl) (fun K hK => ?_) AllReadyH.nil)
            go_simp
            (have N := Box4.new v 0 0 0 0 37); (have hj : w.heap.size < v.heap.size := a0); (have bj : b < v.heap.size := bwr); (have hjg : ∀ g, u6.ownBlock = some g → g ≠ v.heap.size := fun g hg => by have := (O.lt g hg).2; omega); (have hA := Below.alc v (.cells #[.int .i64 0, .int .i64 0, .int .i64 0, .int .i64 0] 37)); clear a0 a1 a2 a3 a4 a5 a6 a7 a8; (try clear n0 n1 n2 n3 n4 n5 n6 n7 n8); (replace P := P.below hA); (replace O := own_below O hA); (replace B := B.trans (hA.mono B.size)); (replace e0 := (hA.cell (p := ⟨b, off + k * 2, none⟩) bwr).trans e0); (replace e1 := (hA.cell (p := ⟨b, off + k * 2 + 1, none⟩) bwr).trans e1); (replace bwr := Nat.lt_of_lt_of_le bwr hA.size); clear hA; (generalize v.alloc (.cells #[.int .i64 0, .int .i64 0, .int .i64 0, .int .i64 0] 37) = v2 at *); obtain ⟨a0, a1, a2, a3, a4, a5, a6, a7, a8⟩ := id P; (try (obtain ⟨n0, n1, n2, n3, n4, n5, n6, n7, n8⟩ := id N))
            refine hK.out _ _ ?_ (fun hHeld => ?_)
            · simp (maxDischargeDepth := 6) [go_sem, *]
            clear hK K
            (try simp only [Act.put, List.setIfInBounds_toArray, List.set_cons_zero, List.set_cons_succ])
            refine wpAnyH_ready (rs := [10]) (by kernel_rfl) (by simp) ?_
            refine (AllReadyH.cons (by rw [List.getElem?_toArray]; rfl) (fun K hK => ?_) AllReadyH.nil)
            go_simp
            refine hK.out _ _ ?_ (fun hHeld => ?_)
            · simp (maxDischargeDepth := 6) [go_sem, *]
            clear hK K
            (try simp only [Act.put, List.setIfInBounds_toArray, List.set_cons_zero, List.set_cons_succ])
            refine wpAnyH_take (i := 11) (v := ?_) (by rw [List.getElem?_toArray]; rfl) (by kernel_rfl) (by kernel_rfl) (by kernel_rfl) (by intro _ _ _ h; exact h) (Or.inl ⟨by rfl, ?_⟩) (by assumption) ?_
            rotate_left
            · (intro w hSw; (try dsimp only at hSw); go_simp; all_goals with_reducible rfl)
            (try simp only [Act.put, List.setIfInBounds_toArray, List.set_cons_zero, List.set_cons_succ])
            refine wpAnyH_done (by kernel_rfl) ?_ _
            go_wp2_with fail
            go_meet
            case rel => exact ⟨_, rfl, rfl, N.set n d nx.1 nx.2, P.set4O (by omega) n d nx.1 nx.2, own_set4n O hjg n d nx.1 nx.2, Below.set4 B (by omega) n d nx.1 nx.2⟩
          · go_simp
            (have N := Box4.new v 0 0 0 0 37); (have hj : w.heap.size < v.heap.size := a0); (have bj : b < v.heap.size := bwr); (have hjg : ∀ g, u6.ownBlock = some g → g ≠ v.heap.size := fun g hg => by have := (O.lt g hg).2; omega); (have hA := Below.alc v (.cells #[.int .i64 0, .int .i64 0, .int .i64 0, .int .i64 0] 37)); clear a0 a1 a2 a3 a4 a5 a6 a7 a8; (try clear n0 n1 n2 n3 n4 n5 n6 n7 n8); (replace P := P.below hA); (replace O := own_below O hA); (replace B := B.trans (hA.mono B.size)); (replace e0 := (hA.cell (p := ⟨b, off + k * 2, none⟩) bwr).trans e0); (replace e1 := (hA.cell (p := ⟨b, off + k * 2 + 1, none⟩) bwr).trans e1); (replace bwr := Nat.lt_of_lt_of_le bwr hA.size); clear hA; (generalize v.alloc (.cells #[.int .i64 0, .int .i64 0, .int .i64 0, .int .i64 0] 37) = v2 at *); obtain ⟨a0, a1, a2, a3, a4, a5, a6, a7, a8⟩ := id P; (try (obtain ⟨n0, n1, n2, n3, n4, n5, n6, n7, n8⟩ := id N))
            refine hK.out _ _ ?_ (fun hHeld => ?_)
            · simp (maxDischargeDepth := 6) [go_sem, *]
            clear hK K
            (try simp only [Act.put, List.setIfInBounds_toArray, List.set_cons_zero, List.set_cons_succ])
            refine wpAnyH_ready (rs := [5]) (by kernel_rfl) (by simp) ?_
            refine (AllReadyH.cons (by rw [List.getElem?_toArray]; rfl) (fun K hK => ?_) AllReadyH.nil)
            go_simp
            refine (C1 _).mono ?_; rintro e v ⟨rfl, hb⟩; clear a0 a1 a2 a3 a4 a5 a6 a7 a8; (try clear n0 n1 n2 n3 n4 n5 n6 n7 n8); (replace P := P.below hb); (try (replace N := N.below hb)); (replace O := own_below O hb); (replace B := B.trans (hb.mono B.size)); (replace e0 := (hb.cell (p := ⟨b, off + k * 2, none⟩) bwr).trans e0); (replace e1 := (hb.cell (p := ⟨b, off + k * 2 + 1, none⟩) bwr).trans e1); (replace bwr := Nat.lt_of_lt_of_le bwr hb.size); clear hb; obtain ⟨a0, a1, a2, a3, a4, a5, a6, a7, a8⟩ := id P; (try (obtain ⟨n0, n1, n2, n3, n4, n5, n6, n7, n8⟩ := id N))
            (try go_wp2_with fail)
            refine hK.out _ _ ?_ (fun hHeld => ?_)
            · simp (maxDischargeDepth := 6) [go_sem, *]
            clear hK K
            (try simp only [Act.put, List.setIfInBounds_toArray, List.set_cons_zero, List.set_cons_succ])
            refine wpAnyH_take (i := 6) (v := ?_) (by rw [List.getElem?_toArray]; rfl) (by kernel_rfl) (by kernel_rfl) (by kernel_rfl) (by intro _ _ _ h; exact h) (Or.inl ⟨by rfl, ?_⟩) (by assumption) ?_
            rotate_left
            · (intro w hSw; (try dsimp only at hSw); go_simp; all_goals with_reducible rfl)
            (try simp only [Act.put, List.setIfInBounds_toArray, List.set_cons_zero, List.set_cons_succ])
            refine wpAnyH_take (i := 7) (v := ?_) (by rw [List.getElem?_toArray]; rfl) (by kernel_rfl) (by kernel_rfl) (by kernel_rfl) (by intro _ _ _ h; exact h) (Or.inl ⟨by rfl, ?_⟩) (by assumption) ?_
            rotate_left
            · (intro w hSw; (try dsimp only at hSw); go_simp; all_goals with_reducible rfl)
            (try simp only [Act.put, List.setIfInBounds_toArray, List.set_cons_zero, List.set_cons_succ])
            refine wpAnyH_take (i := 8) (v := ?_) (by rw [List.getElem?_toArray]; rfl) (by kernel_rfl) (by kernel_rfl) (by kernel_rfl) (by intro _ _ _ h; exact h) (Or.inl ⟨by rfl, ?_⟩) (by assumption) ?_
            rotate_left
            · (intro w hSw; (try dsimp only at hSw); go_simp; all_goals with_reducible rfl)
            (try simp only [Act.put, List.setIfInBounds_toArray, List.set_cons_zero, List.set_cons_succ])
            refine wpAnyH_ready (rs := [10]) (by kernel_rfl) (by simp) ?_
            refine (AllReadyH.cons (by rw [List.getElem?_toArray]; rfl) (fun K hK => ?_) AllReadyH.nil)
            go_simp
            refine hK.out _ _ ?_ (fun hHeld => ?_)
            · simp (maxDischargeDepth := 6) [go_sem, *]
            clear hK K
            (try simp only [Act.put, List.setIfInBounds_toArray, List.set_cons_zero, List.set_cons_succ])
            refine wpAnyH_take (i := 11) (v := ?_) (by rw [List.getElem?_toArray]; rfl) (by kernel_rfl) (by kernel_rfl) (by kernel_rfl) (by intro _ _ _ h; exact h) (Or.inl ⟨by rfl, ?_⟩) (by assumption) ?_
            rotate_left
            · (intro w hSw; (try dsimp only at hSw); go_simp; all_goals with_reducible rfl)
            (try simp only [Act.put, List.setIfInBounds_toArray, List.set_cons_zero, List.set_cons_succ])
            refine wpAnyH_done (by kernel_rfl) ?_ _
            go_wp2_with fail
            go_meet
            case rel => exact ⟨_, rfl, rfl, N.set n d nx.1 nx.2, P.set4O (by omega) n d nx.1 nx.2, own_set4n O hjg n d nx.1 nx.2, Below.set4 B (by omega) n d nx.1 nx.2⟩
        case rest =>
          obtain ⟨j, rfl, rfl, N, P', O', B'⟩ := hcut
          clear P O B a0 a1 a2 a3 a4 a5 a6 a7 a8 e0 e1 bwr C1
          have P7 := P'.set n d nx.1 nx.2
          have O7 := own_set4 O' (Nat.lt_succ_self _) n d nx.1 nx.2
          have B7 := Below.set4 B' (Nat.le_refl _) n d nx.1 nx.2
          have s7 : w.heap.size + 1 ≤ wc.heap.size := P'.1
          obtain ⟨a0, a1, a2, a3, a4, a5, a6, a7, a8⟩ := id P'
          obtain ⟨n0, n1, n2, n3, n4, n5, n6, n7, n8⟩ := id N
          go_wp2_with (at_builtin; refine wpList_append_own _ rfl _ _ 41 rfl (w.heap.size + 1) 52 i0 (.agg #[.int .i64 0, .int .i64 0]) 2 16 Tryd.underlying41 hi hz0 hz1 hz2 rfl (by decide) _ _ _ rfl (World.ownsRow.alloc O7 _) ⟨wc.heap.size, 0, none⟩ 1 1 [.int .i64 nx.1, .int .i64 nx.2] rfl rfl ?c1 ?c2 ?c3 ?c4 ?c5 ?_)
          case c1 => intro j u hj; (have h := pair_at (set4 wc w.heap.size n d nx.1 nx.2) nx.1 nx.2 52 j u hj); unfold set4 at h; (try simp only [World.size_setCell] at h); exact h
          case c2 => intro u hu; simp at hu; rcases hu with rfl | rfl <;> rfl
          case c3 => unfold maxLen; omega
          case c4 => omega
          case c5 => simp; omega
          · intro v' w9 hown' hgrow _
            have A9 := Below.alc (set4 wc w.heap.size n d nx.1 nx.2) (.cells #[.int .i64 nx.1, .int .i64 nx.2] 52)
            have hsz : w.heap.size + 1 ≤ ((set4 wc w.heap.size n d nx.1 nx.2).alloc (.cells #[.int .i64 nx.1, .int .i64 nx.2] 52)).heap.size := by simp [set4]; omega
            have G9 := grown_below (World.ownsRow.alloc O7 _) hgrow hsz
            have P9 := (P7.below A9).belowB G9 (Nat.lt_succ_self _)
            have B9 := (B7.trans (A9.mono B7.size)).trans (G9.mono (Nat.le_succ _))
            have R9 : w9.ownsRow (w.heap.size + 1) 52 2 v' (k + 1 + 1) (prs (mkL n d t c f (k + 1))) := by rw [LA, prs_add]; exact hown'
            clear hown' hgrow G9 A9 hsz O7 B7 P7
            go_wp2
            go_roundw
            case rel => exact ⟨k + 1, by omega, by go_num, HA2.out, R9, by rw [HX.out]; exact P9, B9⟩
            case measure => simp [intOf]; omega
    · have hkm : k = m := by omega
      have hli : ¬ (k : Int) < (m : Int) := by omega
      have HR : Hid (runN n d t c f m = m) := runN_all (by subst hkm; exact HA.out)
      have hown' : wr.ownsRow (w.heap.size + 1) 52 2 u6 (m + 1) (prs (mkL n d t c f m)) := by rw [hkm] at O; exact O
      clear O
      go_wp2_with fail
      exact bodyPost_ret (v := .tuple #[u6, .int .i64 (m : Int)]) (by simp (maxDischargeDepth := 6) [results, Tryd.results15, go_sem, *]) rfl ⟨u6, by rw [HR.out], by rw [HR.out]; exact own_base3 hown' (Nat.le_succ _), B⟩
end Go.Proofs.YtblappilppfkiaaDoor
namespace Go.Proofs.YtblappilppfkiaaDoor
open Go.RowKit
set_option linter.unusedVariables false
theorem specOscRun_any (n d t c : Int) (a : Option Addr) (m cp : Nat) (f : Nat → Int × Int) (w : World) (hm : m ≤ maxLen) (hs : Src w a m f) :
    Calls Tryd.prog 15 #[.agg #[.int .i64 n, .int .i64 d, .int .i64 t, .int .i64 c], .slice a m cp] w fun e w' => ∃ v, e = .returned (.tuple #[v, .int .i64 (runD n d t c f m)]) ∧ w'.ownsRow w.heap.size 52 2 v (runL n d t c f m).length (prs (runL n d t c f m)) ∧ Below w.heap.size w w' := by
  cases h : runG n d t c m
  · have e1 : runD n d t c f m = 0 := by simp [runD, h]
    have e2 : runL n d t c f m = [] := by simp [runL, h]
    rw [e1, e2]
    exact specOscRun_bad n d t c a m cp w hm h
  · have e1 : runD n d t c f m = (runN n d t c f m : Int) := by simp [runD, h]
    have e2 : runL n d t c f m = mkL n d t c f (runN n d t c f m) := by simp [runL, h]
    rw [e1, e2, mkL_len]
    simp only [runG, Bool.and_eq_true, decide_eq_true_eq] at h
    exact specOscRun_good n d t c a m cp f w h.1 h.2 hs
theorem runL_len (n d t c : Int) (f : Nat → Int × Int) (m : Nat) : (runL n d t c f m).length ≤ 201 := by
  cases h : runG n d t c m
  · simp [runL, h]
  · have e2 : runL n d t c f m = mkL n d t c f (runN n d t c f m) := by simp [runL, h]
    rw [e2, mkL_len]
    simp only [runG, Bool.and_eq_true, decide_eq_true_eq] at h
    have := runN_le (n := n) (d := d) (t := t) (c := c) (f := f) m
    omega
end Go.Proofs.YtblappilppfkiaaDoor
