/- Numbers of FnMail: what is doubled and dropped, moved and moved back. -/
import Derived.Test.YtfdcjfebfbpliaaN81
import Derived.Test.YtfdcjfebfbpliaaN74
import Derived.WalkKit
import Derived.WalkSpells
import Derived.WalkLawsBesides
import Derived.Deep.RegionHeld
namespace Go.Proofs.Ytfdcjfebfbpliaa
open Go.RowKit
set_option linter.unusedVariables false
theorem nOk_fl9 {nx : Int} {M : Nat → FT} : ∀ {n : Nat}, nOk nx M n = true → ∀ j, j < n → flT (M j) = true ∧ inB nx (M j).1 = true
  | 0, _, j, hj => absurd hj (Nat.not_lt_zero _)
  | n + 1, h, j, hj => by
    simp only [nOk, Bool.and_eq_true] at h
    rcases Nat.lt_succ_iff_lt_or_eq.1 hj with h1 | h1
    · exact nOk_fl9 h.1 j h1
    · subst h1; exact h.2.1
theorem lk_no9 {M : Nat → FT} {x : Int} : ∀ {n : Nat}, lk M n x = none ↔ ∀ j, j < n → (M j).1 ≠ x
  | 0 => by simp [lk]
  | n + 1 => by
    rw [lk]
    by_cases e : (M n).1 = x
    · rw [if_pos e]
      exact ⟨fun h => (by cases h), fun h => absurd e (h n (by omega))⟩
    · rw [if_neg e, lk_no9 (n := n)]
      refine ⟨fun h j hj => ?_, fun h j hj => h j (by omega)⟩
      rcases Nat.lt_succ_iff_lt_or_eq.1 hj with h1 | h1
      · exact h j h1
      · subst h1; exact e
theorem nOk_of {nx : Int} {M : Nat → FT} : ∀ {n : Nat}, (∀ j, j < n → flT (M j) = true ∧ inB nx (M j).1 = true) → (∀ i j, i < j → j < n → (M i).1 ≠ (M j).1) → nOk nx M n = true
  | 0, _, _ => rfl
  | n + 1, h1, h2 => by
    rw [nOk, nOk_of (n := n) (fun j hj => h1 j (by omega)) (fun i j hi hj => h2 i j hi (by omega)), (h1 n (by omega)).1, (h1 n (by omega)).2]
    have : lk M n (M n).1 = none := lk_no9.2 fun j hj => h2 j n hj (by omega)
    rw [this]; rfl
theorem netB_nx9 {nx : Int} {M : Nat → FT} {n : Nat} (h : netB nx M n = true) : 0 ≤ nx ∧ nx ≤ 1000000 := by simp only [netB, Bool.and_eq_true, decide_eq_true_eq] at h; exact h.1.1
/- The doubled one at the end: the net is right, and without it as it was. -/
theorem netB_dbl {nx : Int} {M : Nat → FT} {n : Nat} {f : FT} (h : netB nx M n = true) (hf1 : f.1 = nx) (hf2 : flT f = true) (hu : ¬ (n = 40 ∨ nx = 1000000)) : netB (nx + 1) (insG M n f) (n + 1) = true := by
  have hn := netB_n h
  have hx := netB_nx9 h
  have hF := nOk_fl9 (netB_nOk h)
  have hI := nOk_ids (netB_nOk h)
  refine netB_ok (by omega) (by omega) (nOk_of (fun j hj => ?_) (fun i j hi hj => ?_))
  · unfold insG
    by_cases e : j < n
    · rw [if_pos e]
      have := hF j e
      refine ⟨this.1, ?_⟩
      have h2 := this.2
      simp only [inB, decide_eq_true_eq] at h2 ⊢
      omega
    · rw [if_neg e, if_pos (by omega)]
      refine ⟨hf2, ?_⟩
      simp only [inB, decide_eq_true_eq]
      omega
  · unfold insG
    by_cases e : j < n
    · rw [if_pos e, if_pos (by omega)]; exact hI i j hi e
    · rw [if_neg e, if_pos (show j = n by omega), if_pos (show i < n by omega)]
      have := (hF i (by omega)).2
      simp only [inB, decide_eq_true_eq] at this
      omega
theorem back_dbl {M : Nat → FT} {n : Nat} {f : FT} : ∀ j, j < n → cutG (insG M n f) n j = M j := fun j hj => by
  unfold cutG insG
  simp [hj]
/- What is moved: each flight is one of the net's, each once. -/
def mvP (n k l j : Nat) : Nat := if j < l then (if j < k then j else j + 1) else if j = l then k else (if j - 1 < k then j - 1 else j)
theorem mv_at (M : Nat → FT) {n k l j : Nat} (hk : k < n) (hl : l < n) (hj : j < n) : insG (cutG M k) l (M k) j = M (mvP n k l j) := by
  unfold insG cutG mvP
  by_cases h1 : j < l
  · simp only [if_pos h1]; split <;> rfl
  · simp only [if_neg h1]
    by_cases h2 : j = l
    · simp only [if_pos h2]
    · simp only [if_neg h2]
      by_cases h3 : j - 1 < k
      · simp only [if_pos h3]
      · simp only [if_neg h3]
        rw [show j - 1 + 1 = j by omega]
theorem mvP_lt {n k l j : Nat} (hk : k < n) (hl : l < n) (hj : j < n) : mvP n k l j < n := by
  unfold mvP
  split
  · split <;> omega
  · split
    · omega
    · split <;> omega
theorem mvP_inj {n k l i j : Nat} (hk : k < n) (hl : l < n) (hi : i < j) (hj : j < n) : mvP n k l i ≠ mvP n k l j := by
  unfold mvP
  repeat' split
  all_goals omega
theorem ids_ne {nx : Int} {M : Nat → FT} {n i j : Nat} (h : netB nx M n = true) (hi : i < n) (hj : j < n) (hne : i ≠ j) : (M i).1 ≠ (M j).1 := by
  have hI := nOk_ids (netB_nOk h)
  rcases Nat.lt_or_gt_of_ne hne with q | q
  · exact hI i j q hj
  · exact fun e => hI j i q hi e.symm
theorem netB_mv {nx : Int} {M : Nat → FT} {n k l : Nat} (h : netB nx M n = true) (hk : k < n) (hl : l < n) : netB nx (insG (cutG M k) l (M k)) n = true := by
  have hF := nOk_fl9 (netB_nOk h)
  refine netB_ok (netB_nx9 h) (netB_n h) (nOk_of (fun j hj => ?_) (fun i j hi hj => ?_))
  · rw [mv_at M hk hl hj]; exact hF _ (mvP_lt hk hl hj)
  · rw [mv_at M hk hl hj, mv_at M hk hl (by omega : i < n)]
    exact ids_ne h (mvP_lt hk hl (by omega)) (mvP_lt hk hl hj) (mvP_inj hk hl hi hj)
theorem mv_to (M : Nat → FT) (k l : Nat) : insG (cutG M k) l (M k) l = M k := by unfold insG; simp
theorem mv_home (M : Nat → FT) {n k l : Nat} (hk : k < n) (hl : l < n) : ∀ j, j < n → insG (cutG (insG (cutG M k) l (M k)) l) k (M k) j = M j := fun j hj => by
  unfold insG cutG
  by_cases h1 : j < k
  · simp only [if_pos h1]
    by_cases h2 : j < l
    · simp only [if_pos h2]
    · simp only [if_neg h2]
      rw [if_neg (by omega), if_neg (by omega), if_pos (by omega), show j + 1 - 1 = j by omega]
  · simp only [if_neg h1]
    by_cases h3 : j = k
    · simp only [if_pos h3]; rw [h3]
    · simp only [if_neg h3]
      by_cases h2 : j - 1 < l
      · simp only [if_pos h2]
        rw [if_neg (by omega), show j - 1 + 1 = j by omega]
      · simp only [if_neg h2]
        rw [if_neg (by omega), if_neg (by omega), if_neg (by omega), show j - 1 + 1 - 1 + 1 = j by omega]
end Go.Proofs.Ytfdcjfebfbpliaa
