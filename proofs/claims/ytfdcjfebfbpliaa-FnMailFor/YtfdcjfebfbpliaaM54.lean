/- Numbers of FnMailFor: all flights go to nodes; what is cut is right. -/
import Derived.Test.YtfdcjfebfbpliaaN84
import Derived.WalkKit
import Derived.WalkSpells
import Derived.WalkLawsBesides
import Derived.Deep.RegionHeld
namespace Go.Proofs.Ytfdcjfebfbpliaa
open Go.RowKit
set_option linter.unusedVariables false
theorem forL_at (M : Nat → FT) (tu : Int) : ∀ (n i : Nat), i < (forL M tu n).length → ∃ e : Nat, e < n ∧ (forL M tu n).getD i 0 = (e : Int) ∧ tuF (M e) = tu
  | 0, i, h => by simp [forL] at h
  | n + 1, i, h => by
    by_cases ht : tuF (M n) = tu
    · rw [forL, if_pos ht] at h ⊢
      by_cases hi : i < (forL M tu n).length
      · obtain ⟨e, h1, h2, h3⟩ := forL_at M tu n i hi
        refine ⟨e, by omega, ?_, h3⟩
        rw [← h2]
        simp [List.getElem?_append_left hi]
      · have hi2 : i = (forL M tu n).length := by simp at h; omega
        subst hi2
        exact ⟨n, by omega, by simp, ht⟩
    · rw [forL, if_neg ht] at h ⊢
      obtain ⟨e, h1, h2, h3⟩ := forL_at M tu n i h
      exact ⟨e, by omega, h2, h3⟩
/- How many flights go to the nodes below K. -/
def sm (M : Nat → FT) (n : Nat) : Nat → Nat
  | 0 => 0
  | K + 1 => sm M n K + (forL M (K : Int) n).length
theorem sm_zero (M : Nat → FT) : ∀ K, sm M 0 K = 0
  | 0 => rfl
  | K + 1 => by rw [sm, sm_zero M K]; simp [forL]
theorem sm_step (M : Nat → FT) (n : Nat) : ∀ K : Nat, sm M (n + 1) K = sm M n K + (if 0 ≤ tuF (M n) ∧ tuF (M n) < (K : Int) then 1 else 0)
  | 0 => by rw [if_neg (by omega)]; rfl
  | K + 1 => by
    simp only [sm]
    rw [sm_step M n K]
    by_cases ht : tuF (M n) = (K : Int)
    · rw [forL, if_pos ht, if_neg (by omega), if_pos (by omega)]; simp; omega
    · rw [forL, if_neg ht]
      by_cases h2 : 0 ≤ tuF (M n) ∧ tuF (M n) < (K : Int)
      · rw [if_pos h2, if_pos (by omega)]; omega
      · rw [if_neg h2, if_neg (by omega)]; omega
theorem sm_all {M : Nat → FT} : ∀ {n : Nat}, (∀ j, j < n → 0 ≤ tuF (M j) ∧ tuF (M j) < 8) → sm M n 8 = n
  | 0, _ => sm_zero M 8
  | n + 1, h => by
    rw [sm_step, sm_all (n := n) fun j hj => h j (by omega), if_pos]
    exact h n (by omega)
theorem nOk_fl {nx : Int} {M : Nat → FT} : ∀ {n : Nat}, nOk nx M n = true → ∀ j, j < n → flT (M j) = true ∧ inB nx (M j).1 = true
  | 0, _, j, hj => absurd hj (Nat.not_lt_zero _)
  | n + 1, h, j, hj => by
    simp only [nOk, Bool.and_eq_true] at h
    rcases Nat.lt_succ_iff_lt_or_eq.1 hj with h1 | h1
    · exact nOk_fl h.1 j h1
    · subst h1; exact h.2.1
theorem to_node {nx : Int} {M : Nat → FT} {n : Nat} (h : netB nx M n = true) : ∀ j, j < n → 0 ≤ tuF (M j) ∧ tuF (M j) < 8 := fun j hj => by
  have := (nOk_fl (netB_nOk h) j hj).1
  simp only [flT, flB, Bool.and_eq_true, nodB, decide_eq_true_eq] at this
  have h2 := this.1.1.2
  simp only [tuF]
  omega
theorem kF_from (M : Nat → FT) (nd : Int) : ∀ n j, j < kc M nd n → ∃ i, i < n ∧ kF M nd n j = M i ∧ cuB nd (M i) = false
  | 0, j, h => by simp [kc] at h
  | n + 1, j, h => by
    cases hc : cuB nd (M n)
    · rw [(kc_keep hc).1] at h
      rw [(kc_keep hc).2]
      by_cases e : j = kc M nd n
      · exact ⟨n, by omega, by simp [e], hc⟩
      · obtain ⟨i, h1, h2, h3⟩ := kF_from M nd n j (by omega)
        exact ⟨i, by omega, by simp [e, h2], h3⟩
    · rw [(kc_cut hc).1] at h
      rw [(kc_cut hc).2]
      obtain ⟨i, h1, h2, h3⟩ := kF_from M nd n j h
      exact ⟨i, by omega, h2, h3⟩
theorem lk_no {M : Nat → FT} {x : Int} : ∀ {n : Nat}, lk M n x = none ↔ ∀ j, j < n → (M j).1 ≠ x
  | 0 => by simp [lk]
  | n + 1 => by
    rw [lk]
    by_cases e : (M n).1 = x
    · rw [if_pos e]
      exact ⟨fun h => (by cases h), fun h => absurd e (h n (by omega))⟩
    · rw [if_neg e, lk_no (n := n)]
      refine ⟨fun h j hj => ?_, fun h j hj => h j (by omega)⟩
      rcases Nat.lt_succ_iff_lt_or_eq.1 hj with h1 | h1
      · exact h j h1
      · subst h1; exact e
theorem lk_ext {M N : Nat → FT} {x : Int} : ∀ {n : Nat}, (∀ j, j < n → M j = N j) → lk M n x = lk N n x
  | 0, _ => rfl
  | n + 1, h => by rw [lk, lk, h n (by omega), lk_ext (n := n) fun j hj => h j (by omega)]
theorem nOk_ext {nx : Int} {M N : Nat → FT} : ∀ {n : Nat}, (∀ j, j < n → M j = N j) → nOk nx M n = nOk nx N n
  | 0, _ => rfl
  | n + 1, h => by
    have hh : ∀ j, j < n → M j = N j := fun j hj => h j (by omega)
    rw [nOk, nOk, nOk_ext hh, h n (by omega), lk_ext hh]
theorem nOk_cut {nx : Int} {M : Nat → FT} (nd : Int) : ∀ {n : Nat}, nOk nx M n = true → nOk nx (kF M nd n) (kc M nd n) = true
  | 0, _ => rfl
  | n + 1, h => by
    simp only [nOk, Bool.and_eq_true] at h
    have ih := nOk_cut nd h.1
    cases hc : cuB nd (M n)
    · rw [(kc_keep hc).1, (kc_keep hc).2, nOk]
      have hx : ∀ j, j < kc M nd n → kF M nd n j = (fun j => if j = kc M nd n then M n else kF M nd n j) j := fun j hj => (if_neg (by omega)).symm
      rw [← nOk_ext hx, ← lk_ext hx, ih]
      simp only [if_true, Bool.true_and, h.2.1.1, h.2.1.2]
      have hn : lk M n (M n).1 = none := by
        have := h.2.2
        cases e : lk M n (M n).1
        · rfl
        · rw [e] at this; simp at this
      have hn2 : lk (kF M nd n) (kc M nd n) (M n).1 = none := lk_no.2 fun j hj => by
        obtain ⟨i, h1, h2, _⟩ := kF_from M nd n j hj
        rw [h2]; exact lk_no.1 hn i h1
      rw [hn2]; rfl
    · rw [(kc_cut hc).1, (kc_cut hc).2]; exact ih
theorem netB_cut {nx : Int} {M : Nat → FT} {n : Nat} (nd : Int) (h : netB nx M n = true) : netB nx (kF M nd n) (kc M nd n) = true := by
  have h2 := netB_n h
  have h3 : 0 ≤ nx ∧ nx ≤ 1000000 := by simp only [netB, Bool.and_eq_true, decide_eq_true_eq] at h; exact h.1.1
  exact netB_ok h3 (Nat.le_trans (kc_le M nd n) h2) (nOk_cut nd (netB_nOk h))
end Go.Proofs.Ytfdcjfebfbpliaa
