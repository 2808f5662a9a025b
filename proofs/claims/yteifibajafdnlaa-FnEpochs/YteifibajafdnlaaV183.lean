/- Numbers of FnEpochs. -/
import Derived.Test.YteifibajafdnlaaT174
import Derived.WalkKit
import Derived.WalkSpells
import Derived.WalkLawsBesides
import Derived.Deep.RegionHeld
namespace Go.Proofs.Yteifibajafdnlaa
open Go.RowKit
set_option linter.unusedVariables false
/- Numbers of FnEpochs: what an event that is done leaves. -/
theorem st_no {m e s k t : Int} (h : stC m e s k t = 2) : stM m e s k t = m ∧ stE m e s k t = e ∧ stS m e s k t = s := by
  unfold stC at h
  unfold stM stE stS
  cases h1 : evB m e s k t
  · rw [h1] at h; simp at h
  · cases h2 : mayB m e k
    · exact ⟨rfl, rfl, rfl⟩
    · rw [h1, h2] at h; simp at h
theorem st_yes {m e s k t : Int} (h : stC m e s k t = 0) : evB m e s k t = true ∧ mayB m e k = true := by
  unfold stC at h
  cases h1 : evB m e s k t
  · rw [h1] at h; simp at h
  · cases h2 : mayB m e k
    · rw [h1, h2] at h; simp at h
    · exact ⟨rfl, rfl⟩
theorem st_done {m e s k t : Int} (h : stC m e s k t = 0) : lmB m k = true ∧ ((k == 1) = (stE m e s k t - e == 1)) ∧ 0 ≤ stE m e s k t - e ∧ stE m e s k t - e ≤ 1 ∧ lfB (stM m e s k t) (stE m e s k t) (stS m e s k t) = true ∧ 0 ≤ e ∧ e ≤ 100000 := by
  obtain ⟨h1, h2⟩ := st_yes h
  have eM : stM m e s k t = toM k := by unfold stM; rw [h1, h2]
  have eE : stE m e s k t = (if k = 1 then e + 1 else e) := by unfold stE; rw [h1, h2]
  have eS : stS m e s k t = (if toM k = m then s else t) := by unfold stS; rw [h1, h2]
  rw [eM, eE, eS]
  unfold evB lfB epB at h1
  unfold mayB at h2
  simp only [Bool.and_eq_true, decide_eq_true_eq, Bool.not_eq_true', Bool.and_eq_false_iff, beq_eq_false_iff_ne] at h1 h2
  obtain ⟨⟨h3, h4, h5⟩, h6, h7⟩ := h1
  obtain ⟨h8, h9⟩ := h2
  have hs := of_decide_eq_true h5
  have hm3 : mdB (toM k) = true := by
    unfold mdB toM
    rw [decide_eq_true]
    split <;> (try split) <;> (try split) <;> (try split) <;> (try split) <;> decide
  refine ⟨h8, ?_, ?_, ?_, ?_, h4.1, h4.2⟩
  · by_cases hk : k = 1
    · rw [if_pos hk, hk]; simp; omega
    · rw [if_neg hk, beq_eq_false_iff_ne.2 hk]; simp
  · split <;> omega
  · split <;> omega
  · unfold lfB
    rw [hm3]
    have he : epB (if k = 1 then e + 1 else e) = true := by
      unfold epB
      rw [decide_eq_true]
      by_cases hk : k = 1
      · rw [if_pos hk]; rcases h9 with q | q; exact absurd hk q; omega
      · rw [if_neg hk]; exact h4
    have ht : okT (if toM k = m then s else t) = true := by
      unfold okT
      rw [decide_eq_true]
      split <;> omega
    rw [he, ht]; rfl
theorem kn_hold (m e s : Int) (h : lfB m e s = true) : knB m e s = (seB m e s || ((nmS m).toList == [104, 111, 108, 100])) := by
  have hm : 0 ≤ m ∧ m ≤ 3 := by unfold lfB mdB at h; simp only [Bool.and_eq_true, decide_eq_true_eq] at h; exact h.1
  unfold knB seB
  rw [h, Bool.true_and, Bool.true_and]
  have : m = 0 ∨ m = 1 ∨ m = 2 ∨ m = 3 := by omega
  rcases this with rfl | rfl | rfl | rfl <;> first | decide | rfl | (simp [nmS]; done) | (simp [nmS, ByteArray.toList, ByteArray.toList.loop]; done)
end Go.Proofs.Yteifibajafdnlaa
