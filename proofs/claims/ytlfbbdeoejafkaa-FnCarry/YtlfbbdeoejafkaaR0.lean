/- Rows of pairs in memory of one's own; what a run of strides comes to. -/
import Derived.Test.YtlfbbdeoejafkaaO2
import Derived.Test.YtlfbbdeoejafkaaT1
import Derived.WalkKit
import Derived.WalkSpells
import Derived.WalkLawsBesides
import Derived.Deep.RegionHeld
namespace Go.Proofs.Ytlfbbdeoejafkaa
open Go.RowKit
set_option linter.unusedVariables false
def prs (L : List (Int × Int)) : List Value := L.flatMap fun p => [.int .i64 p.1, .int .i64 p.2]
theorem prs_add (L : List (Int × Int)) (x y : Int) : prs (L ++ [(x, y)]) = prs L ++ [.int .i64 x, .int .i64 y] := by simp [prs]
theorem own_below {w w' : World} {base : Nat} {e : TypeId} {size : Nat} {v : Value} {n : Nat} {xs : List Value} (h : w.ownsRow base e size v n xs) (hb : Below w.heap.size w w') : w'.ownsRow base e size v n xs :=
  h.kept (row := none) ⟨hb.os, hb.tape, hb.output, hb.size, fun k hk _ => hb.block k hk⟩ (by
    cases hv : v.ownBlock with
    | none => exact .inl rfl
    | some g => exact .inr (by simp))
theorem own_set {w : World} {base : Nat} {e : TypeId} {size : Nat} {v : Value} {n : Nat} {xs : List Value} (h : w.ownsRow base e size v n xs) {k : Nat} (hk : ∀ g, v.ownBlock = some g → g ≠ k) (o : Nat) (u : Value) : (w.setCell ⟨k, o, none⟩ u).ownsRow base e size v n xs :=
  ownsRow_setCell_other h (by
    cases hv : v.ownBlock with
    | none => simp
    | some g => simp; exact hk g hv) u
theorem own_set4 {w : World} {base : Nat} {e : TypeId} {size : Nat} {v : Value} {n : Nat} {xs : List Value} (h : w.ownsRow base e size v n xs) {k : Nat} (hk : k < base) (a b c d : Int) : (set4 w k a b c d).ownsRow base e size v n xs := by
  have hne : ∀ g, v.ownBlock = some g → g ≠ k := fun g hg => by have := (h.lt g hg).1; omega
  exact own_set (own_set (own_set (own_set h hne _ _) hne _ _) hne _ _) hne _ _
theorem grown_below {w w' : World} {base : Nat} {e : TypeId} {size : Nat} {v : Value} {n : Nat} {xs : List Value} (h : w.ownsRow base e size v n xs) (hg : w.grownBy w' v.ownBlock) (hb : base ≤ w.heap.size) : Below base w w' :=
  ⟨hg.os, hg.tape, hg.output, hg.size, fun k hk => hg.block k (by omega) (fun he => by have := (h.lt k he.symm).1; omega)⟩
theorem pair_at (w : World) (a b : Int) (T : TypeId) (j : Nat) (u : Value) (h : [Value.int .i64 a, Value.int .i64 b][j]? = some u) : (w.alloc (.cells #[.int .i64 a, .int .i64 b] T)).cell? ((⟨w.heap.size, 0, none⟩ : Addr).add j) = some u := by
  match j, h with
  | 0, h => simp at h; subst h; simp [Addr.add]
  | 1, h => simp at h; subst h; simp [Addr.add]
theorem own_base {w : World} {base base' : Nat} {e : TypeId} {size : Nat} {v : Value} {n : Nat} {xs : List Value} (h : w.ownsRow base e size v n xs) (hb : base' ≤ base) : w.ownsRow base' e size v n xs := by
  refine ⟨h.1, ?_⟩
  rcases h.2 with h | ⟨g, cap, cur, h1, h2, h3⟩
  · exact .inl h
  · exact .inr ⟨g, cap, cur, h1, by omega, h3⟩
theorem own_one (w : World) (base : Nat) (T : TypeId) (x y : Int) (hb : base ≤ w.heap.size) : (w.alloc (.cells #[.int .i64 x, .int .i64 y] T)).ownsRow base T 2 (.slice (some ⟨w.heap.size, 0, none⟩) 1 1) 1 (prs [(x, y)]) :=
  ⟨by simp [prs], .inr ⟨w.heap.size, 1, _, rfl, hb, heap_alloc_new w _, Nat.le_refl _, by simp [maxLen], by simp, by simp [prs]⟩⟩
theorem prs_at (L : List (Int × Int)) (i : Nat) (hi : i < L.length) : (prs L)[i * 2]? = some (.int .i64 (L.getD i (0, 0)).1) ∧ (prs L)[i * 2 + 1]? = some (.int .i64 (L.getD i (0, 0)).2) := by
  induction L generalizing i with
  | nil => simp at hi
  | cons p L ih =>
    cases i with
    | zero => simp [prs]
    | succ i =>
      have := ih i (by simpa using hi)
      have e : prs (p :: L) = .int .i64 p.1 :: .int .i64 p.2 :: prs L := by simp [prs]
      rw [e, show (i + 1) * 2 = i * 2 + 1 + 1 by omega]
      simpa using this
theorem own_src {w : World} {base : Nat} {T : TypeId} {v : Value} {L : List (Int × Int)} (h : w.ownsRow base T 2 v L.length (prs L)) :
    ∃ a c, v = .slice a L.length c ∧ L.length ≤ c ∧ c ≤ maxLen ∧ Src w a L.length (fun i => L.getD i (0, 0)) := by
  rcases h.2 with ⟨rfl, h0⟩ | ⟨g, cap, cur, rfl, hb, hg, hc, hm, hs, ht⟩
  · exact ⟨none, 0, by rw [h0], by omega, by simp [maxLen], .inl h0⟩
  · refine ⟨_, cap, rfl, hc, hm, .inr ⟨g, 0, rfl, (Array.getElem?_eq_some_iff.1 hg).1, fun i hi => ?_⟩⟩
    have ⟨h1, h2⟩ := prs_at L i hi
    have hcell : ∀ j u, j < L.length * 2 → (prs L)[j]? = some u → w.cell? ⟨g, j, none⟩ = some u := by
      intro j u hj hu
      rw [← ht, List.getElem?_take, if_pos hj] at hu
      simp [World.cell?, hg] 
      simpa using hu
    exact ⟨by simpa using hcell (i * 2) _ (by omega) h1, by simpa using hcell (i * 2 + 1) _ (by omega) h2⟩
def mkM (n d t c : Int) (f : Nat → Int × Int) : Nat → Int × Int
  | 0 => (t, c)
  | k + 1 => ((mkM n d t c f k).1 + (f k).1, (mkM n d t c f k).2 + clI n d (f k).1 (f k).2)
def stepAt (n d t c : Int) (f : Nat → Int × Int) (k : Nat) : Bool := stepB n d (mkM n d t c f k).1 (mkM n d t c f k).2 (f k).1 (f k).2
def runN (n d t c : Int) (f : Nat → Int × Int) : Nat → Nat
  | 0 => 0
  | m + 1 => if runN n d t c f m = m then (if stepAt n d t c f m then m + 1 else m) else runN n d t c f m
section
variable {n d t c : Int} {f : Nat → Int × Int}
theorem runN_all {k : Nat} (h : ∀ i, i < k → stepAt n d t c f i = true) : runN n d t c f k = k := by
  induction k with
  | zero => rfl
  | succ k ih => simp [runN, ih (fun i hi => h i (by omega)), h k (by omega)]
theorem runN_stop {k : Nat} (h : ∀ i, i < k → stepAt n d t c f i = true) (hk : stepAt n d t c f k = false) : ∀ m, k < m → runN n d t c f m = k
  | 0, hm => absurd hm (by omega)
  | m + 1, hm => by
    by_cases e : k = m
    · subst e; simp [runN, runN_all h, hk]
    · have := runN_stop h hk m (by omega)
      simp only [runN, this]
      rw [if_neg (by omega)]
theorem runN_le : ∀ m, runN n d t c f m ≤ m
  | 0 => Nat.le_refl _
  | m + 1 => by
    have := runN_le m
    simp only [runN]
    split
    · split <;> omega
    · omega
theorem runN_step : ∀ m i, i < runN n d t c f m → stepAt n d t c f i = true
  | 0, i, h => absurd h (Nat.not_lt_zero _)
  | m + 1, i, h => by
    simp only [runN] at h
    split at h
    · next e =>
      split at h
      · next hs =>
        by_cases hi : i = m
        · subst hi; exact hs
        · exact runN_step m i (by omega)
      · exact runN_step m i (by omega)
    · exact runN_step m i h
end
def mkL (n d t c : Int) (f : Nat → Int × Int) (k : Nat) : List (Int × Int) := (List.range (k + 1)).map (mkM n d t c f)
theorem mkL_len (n d t c : Int) (f : Nat → Int × Int) (k : Nat) : (mkL n d t c f k).length = k + 1 := by simp [mkL]
theorem mkL_add (n d t c : Int) (f : Nat → Int × Int) (k : Nat) : mkL n d t c f (k + 1) = mkL n d t c f k ++ [((mkM n d t c f (k + 1)).1, (mkM n d t c f (k + 1)).2)] := by
  simp only [mkL]; rw [List.range_succ (n := k + 1), List.map_append]; rfl
theorem mkL_zero (n d t c : Int) (f : Nat → Int × Int) : mkL n d t c f 0 = [(t, c)] := by simp [mkL, mkM]
def runG (n d t c : Int) (m : Nat) : Bool := okO n d t c && decide (m ≤ 200)
def runL (n d t c : Int) (f : Nat → Int × Int) (m : Nat) : List (Int × Int) := if runG n d t c m then mkL n d t c f (runN n d t c f m) else []
def runD (n d t c : Int) (f : Nat → Int × Int) (m : Nat) : Int := if runG n d t c m then (runN n d t c f m : Int) else 0
theorem specStep_t (n d t c b v : Int) (w : World) (h : stepB n d t c b v = true) :
    Calls Try.prog 31 #[.agg #[.int .i64 n, .int .i64 d, .int .i64 t, .int .i64 c], .agg #[.int .i64 b, .int .i64 v]] w fun e w' => e = .returned (.tuple #[.agg #[.int .i64 n, .int .i64 d, .int .i64 (t + b), .int .i64 (c + clI n d b v)], .bool true]) ∧ Below w.heap.size w w' := by
  have ho : okO n d t c = true := by simp [stepB] at h; exact h.1.1.1
  have := specOscStep_any n d t c b v w
  simp only [stT, stC, h, ho, if_true] at this
  exact this
theorem specStep_f (n d t c b v : Int) (w : World) (ho : okO n d t c = true) (h : stepB n d t c b v = false) :
    Calls Try.prog 31 #[.agg #[.int .i64 n, .int .i64 d, .int .i64 t, .int .i64 c], .agg #[.int .i64 b, .int .i64 v]] w fun e w' => e = .returned (.tuple #[.agg #[.int .i64 n, .int .i64 d, .int .i64 t, .int .i64 c], .bool false]) ∧ Below w.heap.size w w' := by
  have := specOscStep_any n d t c b v w
  simp only [stT, stC, h, ho, Bool.false_eq_true, if_false] at this
  exact this
theorem step_ok {n d t c b v : Int} (h : stepB n d t c b v = true) : okO n d (t + b) (c + clI n d b v) = true := by
  simp [stepB] at h
  have ⟨o1, _, _⟩ := okO_t h.1.1.1
  exact okO_of o1 h.1.2 h.2
theorem mkM_ok {n d t c : Int} {f : Nat → Int × Int} (h0 : okO n d t c = true) {k : Nat} (h : ∀ i, i < k → stepAt n d t c f i = true) : okO n d (mkM n d t c f k).1 (mkM n d t c f k).2 = true := by
  cases k with
  | zero => exact h0
  | succ k => exact step_ok (h k (by omega))
end Go.Proofs.Ytlfbbdeoejafkaa
