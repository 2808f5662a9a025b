/- What Use tells, in one statement for each side. -/
import Derived.Test.YtlaladalnbdhpaaD8
import Derived.WalkKit
import Derived.WalkSpells
import Derived.WalkLawsBesides
import Derived.Deep.RegionHeld
namespace Go.Proofs.Ytlaladalnbdhpaa
open Go.RowKit
set_option linter.unusedVariables false
def UseIs (ep us : Int) (M : Nat → KT) (n : Nat) (x y Xe Xu : Int) (mm : Nat) (G : Nat → KT) (z0 z1 z2 z3 C1 : Int) : Prop :=
  (tabB ep us M n = false ∧ Xe = 0 ∧ Xu = 0 ∧ mm = 0 ∧ G = M ∧ z0 = 0 ∧ z1 = 0 ∧ z2 = 0 ∧ z3 = 0 ∧ C1 = 1) ∨
  (tabB ep us M n = true ∧ (∀ j, j < n → (M j).1 ≠ x) ∧ Xe = ep ∧ Xu = us ∧ mm = n ∧ G = M ∧ z0 = 0 ∧ z1 = 0 ∧ z2 = 0 ∧ z3 = 0 ∧ C1 = 4) ∨
  (tabB ep us M n = true ∧ ∃ i, i < n ∧ (M i).1 = x ∧ (M i).2.1 ≠ y ∧ Xe = ep ∧ Xu = us ∧ mm = n ∧ G = M ∧ z0 = 0 ∧ z1 = 0 ∧ z2 = 0 ∧ z3 = 0 ∧ C1 = 5) ∨
  (tabB ep us M n = true ∧ ∃ i, i < n ∧ (M i).1 = x ∧ (M i).2.1 = y ∧ Xe = ep ∧ Xu = us ∧ mm = n - 1 ∧ G = cutK M i ∧ M i = kT z0 z1 z2 z3 ∧ C1 = 0)
theorem ansUse (ep us : Int) (M : Nat → KT) (n : Nat) (x y : Int) : ∃ Xe Xu mm G z0 z1 z2 z3 C1, UseIs ep us M n x y Xe Xu mm G z0 z1 z2 z3 C1 ∧ mm ≤ 17 ∧ True := by
  cases h : tabB ep us M n
  · exact ⟨_, _, _, _, _, _, _, _, _, .inl ⟨h, rfl, rfl, rfl, rfl, rfl, rfl, rfl, rfl, rfl⟩, by omega, trivial⟩
  · have hn := tabB_len' h
    by_cases he : ∃ i, i < n ∧ (M i).1 = x
    · obtain ⟨i, hi, hx⟩ := he
      by_cases hy : (M i).2.1 = y
      · obtain ⟨a0, a1, a2, a3, hM⟩ := tupAsk M i
        exact ⟨_, _, _, _, a0, a1, a2, a3, _, .inr (.inr (.inr ⟨h, i, hi, hx, hy, rfl, rfl, rfl, rfl, hM, rfl⟩)), by omega, trivial⟩
      · exact ⟨_, _, _, _, _, _, _, _, _, .inr (.inr (.inl ⟨h, i, hi, hx, hy, rfl, rfl, rfl, rfl, rfl, rfl, rfl, rfl, rfl⟩)), by omega, trivial⟩
    · exact ⟨_, _, _, _, _, _, _, _, _, .inr (.inl ⟨h, fun j hj e => he ⟨j, hj, e⟩, rfl, rfl, rfl, rfl, rfl, rfl, rfl, rfl, rfl⟩), by omega, trivial⟩
theorem one_at {ep us : Int} {M : Nat → KT} {n : Nat} (h : tabB ep us M n = true) {i : Nat} (hi : i < n) {x : Int} (hx : (M i).1 = x) : ∀ j, j < n → j ≠ i → (M j).1 ≠ x := by
  intro j hj hne e
  have ha := tOk_asc (tabB_tOk h)
  rcases Nat.lt_or_gt_of_ne hne with q | q
  · have := ha j i q hi; omega
  · have := ha i j q hj; omega
theorem implUse_ans (ep us : Int) (b n c : Nat) (M : Nat → KT) (x y Xe Xu : Int) (mm : Nat) (G : Nat → KT) (z0 z1 z2 z3 C1 : Int) (w : World) (hm : n ≤ maxLen) (hf : Cs w b 0 (n * 4) (MFAsk M)) (hw : ∀ i, i < n → (Lit.int .i64 (M i).1).wf = true) (wx : (Lit.int .i64 x).wf = true) (wy : (Lit.int .i64 y).wf = true) (h : UseIs ep us M n x y Xe Xu mm G z0 z1 z2 z3 C1) :
    Calls Try.prog 10 #[.agg #[.int .i64 ep, .int .i64 us, .slice (some ⟨b, 0, none⟩) n c], .int .i64 x, .int .i64 y] w fun e w' => ∃ a' c', e = .returned (.tuple #[.agg #[.int .i64 Xe, .int .i64 Xu, .slice a' mm c'], .agg #[.int .i64 z0, .int .i64 z1, .int .i64 z2, .int .i64 z3], .int .i64 C1]) ∧ w'.ownsRow w.heap.size 34 4 (.slice a' mm c') mm (krow G mm) ∧ Below w.heap.size w w' := by
  rcases h with ⟨h, rfl, rfl, rfl, rfl, rfl, rfl, rfl, rfl, rfl⟩ | ⟨h, hno, rfl, rfl, rfl, rfl, rfl, rfl, rfl, rfl, rfl⟩ | ⟨h, i, hi, hx, hy, rfl, rfl, rfl, rfl, rfl, rfl, rfl, rfl, rfl⟩ | ⟨h, i, hi, hx, hy, rfl, rfl, rfl, rfl, hM, rfl⟩
  · exact implUse_bad _ _ _ _ c _ x y w hm (.inr ⟨b, 0, rfl, hf⟩) hw h
  · exact implUse_none _ _ _ _ c _ x y w hm (.inr ⟨b, 0, rfl, hf⟩) hw wx h ((FA.lk (tOk_asc (tabB_tOk h))).2.2 x hno)
  · obtain ⟨a0, a1, a2, a3, hM⟩ := tupAsk G i
    refine implUse_other _ _ _ _ c _ x y w hm (.inr ⟨b, 0, rfl, hf⟩) hw wx h a0 a1 a2 a3 ?_ ?_
    · have := lkK_at (tOk_asc (tabB_tOk h)) hi
      rw [hx] at this
      exact this.trans (congrArg some hM)
    · rw [hM] at hy; exact bne_iff_ne.2 hy
  · have e : z1 = y := by rw [hM] at hy; exact hy
    subst e
    exact implUse_done _ _ _ _ c _ x w hm (.inr ⟨b, 0, rfl, hf⟩) hw wx h z0 z1 z2 z3 i hi hM (by rw [hM] at hx; exact hx)
end Go.Proofs.Ytlaladalnbdhpaa
