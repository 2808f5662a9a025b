/- Numbers of the next own slot. -/
import Derived.Test.YtkdbgchmknanlaaV131
import Derived.Test.YtkdbgchmknanlaaB137
import Derived.WalkKit
import Derived.WalkSpells
import Derived.WalkLawsBesides
import Derived.Deep.RegionHeld
namespace Go.Proofs.Ytkdbgchmknanlaa
open Go.RowKit
set_option linter.unusedVariables false
theorem okI_of13 {lo hi : Int} (h1 : -1000000000000 ≤ lo) (h2 : lo ≤ hi) (h3 : hi ≤ 1000000000000) : okI lo hi = true := by
  cases h : okI lo hi
  · exfalso
    unfold okI at h
    simp at h
    omega
  · rfl
theorem imx_is (a b : Int) : (a ≤ imx a b ∧ b ≤ imx a b) ∧ (imx a b = a ∨ imx a b = b) := by unfold imx; split <;> omega
/- Numbers of the next own slot: what is told is an occurrence of that owner; none of that owner begins between. -/
theorem noP_t {s g : Int} {M : Nat → SlT} {n : Nat} {o t j : Int} {i : Nat} (h : noP s g M n o t j i = true) : ocB s g M n i j = true ∧ (M i).1 = o ∧ t ≤ ocL s g M n i j := by
  unfold noP at h
  simp only [Bool.and_eq_true, beq_iff_eq, decide_eq_true_eq] at h
  exact h
theorem noP_of {s g : Int} {M : Nat → SlT} {n : Nat} {o t j : Int} {i : Nat} (h1 : ocB s g M n i j = true) (h2 : (M i).1 = o) (h3 : t ≤ ocL s g M n i j) : noP s g M n o t j i = true := by
  unfold noP
  rw [h1, h2, decide_eq_true h3]
  simp
theorem fnd_min {P : Nat → Bool} {n i : Nat} (hi : i < n) (h : P i = true) : fnd P n ≤ i := by
  by_cases e : fnd P n ≤ i
  · exact e
  · have := fnd_not (P := P) (n := n) (i := i) (by omega)
    rw [h] at this
    exact absurd this (by decide)
theorem no_parts {s g : Int} {M : Nat → SlT} {n : Nat} {o t : Int} (h : noB s g M n o t = true) :
    noG s g M n t = true ∧ ∃ (i : Nat) (j : Int), i < n ∧ (j = noR s g M n t ∨ (j = noR s g M n t + 1 ∧ noF s g M n o t (noR s g M n t) = n)) ∧ noF s g M n o t j = i ∧ noI s g M n o t = i ∧ noT s g M n o t = ocL s g M n i j ∧ ocB s g M n i j = true ∧ (M i).1 = o ∧ t ≤ ocL s g M n i j := by
  have h' := h
  unfold noB at h'
  simp only [Bool.and_eq_true, Bool.or_eq_true, decide_eq_true_eq] at h'
  obtain ⟨hG, hF⟩ := h'
  refine ⟨hG, ?_⟩
  by_cases h1 : noF s g M n o t (noR s g M n t) < n
  · have hP := noP_t (fnd_so (P := noP s g M n o t (noR s g M n t)) h1)
    obtain ⟨e1, e2, e3⟩ := no_one hG (i := noF s g M n o t (noR s g M n t)) rfl h1
    exact ⟨_, _, h1, .inl rfl, rfl, e2, e3, hP⟩
  · have h2 := hF.resolve_left h1
    have h0 : noF s g M n o t (noR s g M n t) = n := by have := fnd_le (noP s g M n o t (noR s g M n t)) n; unfold noF at h1 ⊢; omega
    have hP := noP_t (fnd_so (P := noP s g M n o t (noR s g M n t + 1)) h2)
    obtain ⟨e1, e2, e3⟩ := no_two hG h0 (i := noF s g M n o t (noR s g M n t + 1)) rfl h2
    exact ⟨_, _, h2, .inr ⟨rfl, h0⟩, rfl, e2, e3, hP⟩
theorem noR_is {s g : Int} {M : Nat → SlT} {n : Nat} {t : Int} (hG : noG s g M n t = true) : (noR s g M n t = 0 ∨ (s ≤ t ∧ noR s g M n t * upS g M n ≤ t - s)) ∧ 0 ≤ noR s g M n t := by
  unfold noG at hG
  rw [Bool.and_eq_true] at hG
  have hr := rn_bd hG.1
  have hx := imx_is 0 ((t - s).tdiv (upS g M n))
  refine ⟨?_, by unfold noR; omega⟩
  unfold noR
  by_cases h : 0 ≤ t - s
  · rcases hx.2 with q | q
    · exact .inl q
    · right
      refine ⟨by omega, ?_⟩
      rw [q, Int.tdiv_eq_ediv_of_nonneg h]
      exact Int.ediv_mul_le _ (by omega)
  · left
    have e : (t - s).tdiv (upS g M n) = -((-(t - s)).tdiv (upS g M n)) := by rw [Int.neg_tdiv, Int.neg_neg]
    have a := Int.ediv_nonneg (show 0 ≤ -(t - s) by omega) (show 0 ≤ upS g M n by omega)
    rw [Int.tdiv_eq_ediv_of_nonneg (show 0 ≤ -(t - s) by omega)] at e
    omega
theorem oc_lt {s g : Int} {M : Nat → SlT} {n : Nat} {i k j m : Int} (ha : ocB s g M n i k = true) (hb : ocB s g M n j m = true) (h : k < m) : ocL s g M n i k < ocL s g M n j m := by
  obtain ⟨a1, a2, a3, a4, a5, a6, a7, a8, a9, a10, a11, a12, a13, a14⟩ := oc_parts ha
  obtain ⟨b1, b2, b3, b4, b5, b6, b7, b8, b9, b10, b11, b12, b13, b14⟩ := oc_parts hb
  have := mul_step h (show 0 ≤ upS g M n by omega)
  omega
theorem oc_le {s g : Int} {M : Nat → SlT} {n : Nat} {i j : Nat} {k : Int} (ha : ocB s g M n i k = true) (hb : ocB s g M n j k = true) (h : i ≤ j) : ocL s g M n i k ≤ ocL s g M n j k := by
  obtain ⟨a1, a2, a3, a4, a5, a6, a7, a8, a9, a10, a11, a12, a13, a14⟩ := oc_parts ha
  obtain ⟨b1, b2, b3, b4, b5, b6, b7, b8, b9, b10, b11, b12, b13, b14⟩ := oc_parts hb
  obtain ⟨p1, p2, p3, p4⟩ := plB_t a1
  have := upS_mono p2 p4 (i := (i : Int).toNat) (j := (j : Int).toNat) (by omega) (by omega)
  omega
theorem no_first {s g : Int} {M : Nat → SlT} {n : Nat} {o t : Int} (h : noB s g M n o t = true) {i' : Nat} {j' : Int} (hb : ocB s g M n i' j' = true) (ho : (M i').1 = o) (ht : t ≤ ocL s g M n i' j') : noT s g M n o t ≤ ocL s g M n i' j' := by
  obtain ⟨hG, i, j, hi, hj, hF, hI, hT, hB, hO, hL⟩ := no_parts h
  obtain ⟨hR, hR0⟩ := noR_is hG
  obtain ⟨b1, b2, b3, b4, b5, b6, b7, b8, b9, b10, b11, b12, b13, b14⟩ := oc_parts hb
  have hi' : i' < n := by omega
  rw [hT]
  have hK : noR s g M n t ≤ j' := by
    rcases hR with q | ⟨q1, q2⟩
    · omega
    · by_cases e : noR s g M n t ≤ j'
      · exact e
      · have := mul_step (show j' < noR s g M n t by omega) (show 0 ≤ upS g M n by omega)
        omega
  by_cases e1 : j < j'
  · exact Int.le_of_lt (oc_lt hB hb e1)
  by_cases e2 : j' < j
  · exfalso
    rcases hj with q | ⟨q, q0⟩
    · omega
    · have ej : j' = noR s g M n t := by omega
      subst ej
      have := fnd_min hi' (noP_of hb ho ht)
      unfold noF at q0
      omega
  · have ej : j' = j := by omega
    subst ej
    have := fnd_min hi' (noP_of hb ho ht)
    unfold noF at hF
    exact oc_le hB hb (by omega)
theorem no_told {s g : Int} {M : Nat → SlT} {n : Nat} {o t : Int} (h : noB s g M n o t = true) :
    t ≤ noT s g M n o t ∧ 0 ≤ noI s g M n o t ∧ (noI s g M n o t).toNat < n ∧ ((noI s g M n o t).toNat : Int) = noI s g M n o t ∧ (M (noI s g M n o t).toNat).1 = o ∧ saB s g M n (noT s g M n o t) = true ∧ saI s g M n (noT s g M n o t) = noI s g M n o t ∧ plB s g M n = true ∧ (0 ≤ t ∧ t ≤ 1000000000000) ∧ (0 ≤ noT s g M n o t ∧ noT s g M n o t ≤ 1000000000000) := by
  obtain ⟨hG, i, j, hi, hj, hF, hI, hT, hB, hO, hL⟩ := no_parts h
  obtain ⟨b1, b2, b3, b4, b5, b6, b7, b8, b9, b10, b11, b12, b13, b14⟩ := oc_parts hB
  obtain ⟨f1, f2, f3⟩ := oc_found hB (Int.le_refl _) (by omega)
  have hok : okT t = true := by
    unfold noG at hG
    rw [Bool.and_eq_true] at hG
    exact hG.2
  have ht : 0 ≤ t ∧ t ≤ 1000000000000 := of_decide_eq_true hok
  rw [hI, hT]
  refine ⟨hL, by omega, by omega, by omega, ?_, f1, f2, b1, ht, by omega⟩
  rw [show (i : Int).toNat = i by omega]
  exact hO
/- A plan that is moved: its occurrences are moved. -/
theorem oc_moved {s g : Int} {M : Nat → SlT} {n : Nat} {i : Nat} {j b : Int} (hp : plB s g M n = true) (hq : plB (s + b) g M n = true) (hb : 0 ≤ b) (h : ocB (s + b) g M n i j = true) : ocB s g M n i j = true ∧ ocL (s + b) g M n i j = ocL s g M n i j + b ∧ ocH (s + b) g M n i j = ocH s g M n i j + b := by
  obtain ⟨b1, b2, b3, b4, b5, b6, b7, b8, b9, b10, b11, b12, b13, b14⟩ := oc_parts h
  obtain ⟨hG, hI⟩ := ocB_t h
  obtain ⟨g1, g2⟩ := ocG_k hG
  have hG2 : ocG s g M n i j = true := by
    unfold ocG sfB at hG ⊢
    rw [hq] at hG
    rw [hp]
    exact hG
  have i1 := okI_t hI
  have e : ocF (s + b) g M n i j = ocF s g M n i j + b := by unfold ocF; omega
  obtain ⟨q1, q2, q3, q4, q5, q6, q7⟩ := ocG_bd hG2
  have hB : ocB s g M n i j = true := by
    unfold ocB
    rw [hG2, okI_of13 (by omega) (by omega) (by rw [e] at i1; omega)]
    rfl
  obtain ⟨y1, y2⟩ := oc_yes h
  obtain ⟨z1, z2⟩ := oc_yes hB
  exact ⟨hB, by rw [y1, z1, e], by rw [y2, z2, e]; omega⟩
theorem oc_moves {s g : Int} {M : Nat → SlT} {n : Nat} {i : Nat} {j b : Int} (hq : plB (s + b) g M n = true) (hb : 0 ≤ b) (h : ocB s g M n i j = true) (hH : ocH s g M n i j + b ≤ 1000000000000) : ocB (s + b) g M n i j = true := by
  obtain ⟨b1, b2, b3, b4, b5, b6, b7, b8, b9, b10, b11, b12, b13, b14⟩ := oc_parts h
  obtain ⟨hG, hI⟩ := ocB_t h
  obtain ⟨z1, z2⟩ := oc_yes h
  have hG2 : ocG (s + b) g M n i j = true := by
    unfold ocG sfB at hG ⊢
    rw [b1] at hG
    rw [hq]
    exact hG
  have e : ocF (s + b) g M n i j = ocF s g M n i j + b := by unfold ocF; omega
  have i1 := okI_t hI
  unfold ocB
  rw [hG2, e, okI_of13 (by omega) (by omega) (by omega)]
  rfl
theorem no_moved {s g : Int} {M : Nat → SlT} {n : Nat} {o t b : Int} (hb : 0 ≤ b) (hq : plB (s + b) g M n = true) (h : noB s g M n o t = true) (h' : noB (s + b) g M n o (t + b) = true) :
    noI (s + b) g M n o (t + b) = noI s g M n o t ∧ noT (s + b) g M n o (t + b) = noT s g M n o t + b := by
  obtain ⟨hG, i, j, hi, hj, hF, hI, hT, hB, hO, hL⟩ := no_parts h
  obtain ⟨hG', i', j', hi', hj', hF', hI', hT', hB', hO', hL'⟩ := no_parts h'
  have hp := (oc_parts hB).1
  obtain ⟨m1, m2, m3⟩ := oc_moved hp hq hb hB'
  have f1 := no_first h m1 hO' (by omega)
  obtain ⟨c1, c2, c3, c4, c5, c6, c7, c8, c9, c10, c11, c12, c13, c14⟩ := oc_parts hB
  obtain ⟨d1, d2, d3, d4, d5, d6, d7, d8, d9, d10, d11, d12, d13, d14⟩ := oc_parts m1
  have f2 : ocL s g M n i' j' ≤ ocL s g M n i j := by
    by_cases e : ocL s g M n i' j' ≤ ocL s g M n i j
    · exact e
    · exfalso
      have hd : i ≠ i' ∨ j ≠ j' := by
        by_cases q : i = i'
        · by_cases q2 : j = j'
          · subst q q2; omega
          · exact .inr q2
        · exact .inl q
      have hne : (i : Int) ≠ (i' : Int) ∨ j ≠ j' := by
        rcases hd with q | q
        · exact .inl (by omega)
        · exact .inr q
      have ha := oc_apart hB m1 hne
      have hH : ocH s g M n i j ≤ ocL s g M n i' j' := by
        by_cases q : ocH s g M n i j ≤ ocL s g M n i' j'
        · exact q
        · exact absurd ⟨by omega, by omega⟩ ha
      have hHi' := (oc_parts hB').2.2.2.2.2.2.2.2.2.2.1
      have hM := oc_moves hq hb hB (by omega)
      obtain ⟨_, k2, _⟩ := oc_moved hp hq hb hM
      have f3 := no_first h' hM hO (by omega)
      omega
  have hEq : ocL s g M n i' j' = ocL s g M n i j := by omega
  obtain ⟨u1, u2, u3⟩ := oc_found hB (Int.le_refl _) (by omega)
  obtain ⟨v1, v2, v3⟩ := oc_found m1 (Int.le_refl _) (by omega)
  rw [hEq] at v2
  have hii : (i' : Int) = (i : Int) := v2.symm.trans u2
  exact ⟨by rw [hI', hI, hii], by rw [hT', m2, hT, hEq]⟩
end Go.Proofs.Ytkdbgchmknanlaa
