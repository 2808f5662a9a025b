/- Numbers of occurrences. -/
import Derived.Test.YtkdbgchmknanlaaB130
import Derived.WalkKit
import Derived.WalkSpells
import Derived.WalkLawsBesides
import Derived.Deep.RegionHeld
namespace Go.Proofs.Ytkdbgchmknanlaa
open Go.RowKit
set_option linter.unusedVariables false
/- Numbers of occurrences: two of them lie apart; each time of one is found in it. -/
theorem ocB_t {s g : Int} {M : Nat → SlT} {n : Nat} {i k : Int} (h : ocB s g M n i k = true) : ocG s g M n i k = true ∧ okI (ocF s g M n i k) (ocF s g M n i k + (M i.toNat).2) = true := by
  unfold ocB at h
  rw [Bool.and_eq_true] at h
  exact h
theorem ocG_k {s g : Int} {M : Nat → SlT} {n : Nat} {i k : Int} (h : ocG s g M n i k = true) : sfB s g M n i = true ∧ okK (upS g M n) k = true := by
  unfold ocG at h
  rw [Bool.and_eq_true] at h
  exact h
/- What an occurrence that is told is made of. -/
theorem oc_parts {s g : Int} {M : Nat → SlT} {n : Nat} {i k : Int} (h : ocB s g M n i k = true) :
    plB s g M n = true ∧ i.toNat < n ∧ (i.toNat : Int) = i ∧ 0 ≤ k ∧ ocL s g M n i k = s + k * upS g M n + upS g M i.toNat ∧ ocH s g M n i k = s + k * upS g M n + upS g M i.toNat + (M i.toNat).2 ∧ 1 ≤ (M i.toNat).2 ∧ 0 ≤ upS g M i.toNat ∧ upS g M i.toNat + (M i.toNat).2 ≤ upS g M n ∧ 0 ≤ s ∧ ocH s g M n i k ≤ 1000000000000 ∧ okK (upS g M n) k = true ∧ 1 ≤ upS g M n ∧ 0 ≤ k * upS g M n := by
  obtain ⟨hG, hI⟩ := ocB_t h
  obtain ⟨b1, b2, b3, b4, b5, b6, b7⟩ := ocG_bd hG
  obtain ⟨g1, g2⟩ := ocG_k hG
  obtain ⟨p1, p2, p3, p4⟩ := plB_t b7
  obtain ⟨y1, y2⟩ := oc_yes h
  have hr := rn_bd b7
  have hk := okK_t hr.1 g2
  have hu := upS_bd p2 p4 i.toNat (by omega)
  have ha := upS_add p2 p4 b5 (Nat.le_refl n)
  have i1 := okI_t hI
  refine ⟨b7, b5, b6, hk.1, y1, y2, b4.1, by omega, by omega, p1.1, by rw [y2]; exact i1.2.2, g2, hr.1, b1.1⟩
theorem mul_step {k m r : Int} (h : k < m) (hr : 0 ≤ r) : k * r + r ≤ m * r := by
  have := Int.mul_le_mul_of_nonneg_right (show k + 1 ≤ m by omega) hr
  rw [Int.add_mul, Int.one_mul] at this
  exact this
theorem oc_apart {s g : Int} {M : Nat → SlT} {n : Nat} {i k j m : Int} (ha : ocB s g M n i k = true) (hb : ocB s g M n j m = true) (hne : i ≠ j ∨ k ≠ m) :
    ¬ (ocL s g M n i k < ocH s g M n j m ∧ ocL s g M n j m < ocH s g M n i k) := by
  obtain ⟨a1, a2, a3, a4, a5, a6, a7, a8, a9, a10, a11, a12, a13, a14⟩ := oc_parts ha
  obtain ⟨b1, b2, b3, b4, b5, b6, b7, b8, b9, b10, b11, b12, b13, b14⟩ := oc_parts hb
  obtain ⟨p1, p2, p3, p4⟩ := plB_t a1
  rw [a5, a6, b5, b6]
  by_cases hk : k < m
  · have := mul_step hk (show 0 ≤ upS g M n by omega)
    omega
  · by_cases hm : m < k
    · have := mul_step hm (show 0 ≤ upS g M n by omega)
      omega
    · have e : k = m := by omega
      subst e
      by_cases hij : i.toNat < j.toNat
      · have := upS_add p2 p4 hij (by omega)
        omega
      · by_cases hji : j.toNat < i.toNat
        · have := upS_add p2 p4 hji (by omega)
          omega
        · omega
theorem div_is {x k r : Int} (hr : 1 ≤ r) (h1 : k * r ≤ x) (h2 : x < k * r + r) : x / r = k := by
  have e : x = (x - k * r) + k * r := by omega
  rw [e, Int.add_mul_ediv_right _ _ (by omega), Int.ediv_eq_zero_of_lt (by omega) (by omega), Int.zero_add]
/- A time of an occurrence is found in it. -/
theorem oc_found {s g : Int} {M : Nat → SlT} {n : Nat} {i k t : Int} (h : ocB s g M n i k = true) (h1 : ocL s g M n i k ≤ t) (h2 : t < ocH s g M n i k) :
    saB s g M n t = true ∧ saI s g M n t = i ∧ saK s g M n t = k := by
  obtain ⟨a1, a2, a3, a4, a5, a6, a7, a8, a9, a10, a11, a12, a13, a14⟩ := oc_parts h
  obtain ⟨p1, p2, p3, p4⟩ := plB_t a1
  have hR : saR s g M n t = k := by
    unfold saR
    exact div_is a13 (by omega) (by omega)
  have hG : saG s g M n t = true := by
    unfold saG okT
    rw [a1, decide_eq_true (⟨by omega, by omega⟩ : 0 ≤ t ∧ t ≤ 1000000000000), decide_eq_false (by omega : ¬ t < s)]
    rfl
  have hP : saP s g M n t i.toNat = true := by
    unfold saP
    rw [hR, a3, h, decide_eq_true h1, decide_eq_true h2]
    rfl
  have hN : ∀ j, j < i.toNat → saP s g M n t j = false := by
    intro j hj
    unfold saP
    rw [hR]
    cases hb : ocB s g M n (j : Int) k
    · rfl
    · obtain ⟨b1, b2, b3, b4, b5, b6, b7, b8, b9, b10, b11, b12, b13, b14⟩ := oc_parts hb
      have hjj : (j : Int).toNat = j := by omega
      have := upS_add p2 p4 hj (by omega)
      rw [hjj] at b6
      rw [decide_eq_false (by omega : ¬ t < ocH s g M n (j : Int) k)]
      simp
  have hF : fnd (saP s g M n t) n = i.toNat := by
    have e : ∀ j, j ≤ i.toNat → fnd (saP s g M n t) j = j := by
      intro j
      induction j with
      | zero => intro _; rfl
      | succ j ih => intro hj; exact fnd_miss (ih (by omega)) (hN j (by omega))
    exact fnd_is (e _ (Nat.le_refl _)) hP a2
  have hB : saB s g M n t = true := by
    unfold saB
    rw [hG, hF, decide_eq_true a2]
    rfl
  obtain ⟨y1, y2, y3, y4⟩ := sa_yes hB
  exact ⟨hB, by rw [y1, hF, a3], by rw [y2, hR]⟩
/- What SlotAt tells holds the time. -/
theorem sa_holds {s g : Int} {M : Nat → SlT} {n : Nat} {t : Int} (h : saB s g M n t = true) : ocB s g M n (saI s g M n t) (saK s g M n t) = true ∧ ocL s g M n (saI s g M n t) (saK s g M n t) ≤ t ∧ t < ocH s g M n (saI s g M n t) (saK s g M n t) := by
  obtain ⟨y1, y2, y3, y4⟩ := sa_yes h
  have := fnd_so y3
  unfold saP at this
  simp only [Bool.and_eq_true, decide_eq_true_eq] at this
  rw [y1, y2]
  exact this
theorem oc_behind {s g : Int} {M : Nat → SlT} {n : Nat} {i k : Int} : ¬ (saB s g M n (ocH s g M n i k) = true ∧ saI s g M n (ocH s g M n i k) = i ∧ saK s g M n (ocH s g M n i k) = k) := by
  rintro ⟨h1, h2, h3⟩
  have := (sa_holds h1).2.2
  rw [h2, h3] at this
  omega
theorem oc_from {s g : Int} {M : Nat → SlT} {n : Nat} {i k : Int} (h : ocB s g M n i k = true) : sfB s g M n i = true ∧ sfI s g M n i = ocL s g M n i k - s - k * rnI s g M n := by
  obtain ⟨a1, a2, a3, a4, a5, a6, a7, a8, a9, a10, a11, a12, a13, a14⟩ := oc_parts h
  have hs := (ocG_k (ocB_t h).1).1
  refine ⟨hs, ?_⟩
  unfold sfI
  rw [hs, a5, rnI_t a1]
  show upS g M i.toNat = _
  omega
end Go.Proofs.Ytkdbgchmknanlaa
