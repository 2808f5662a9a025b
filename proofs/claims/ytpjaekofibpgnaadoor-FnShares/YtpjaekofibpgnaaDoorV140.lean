/- Numbers of shares. -/
import Derived.Test.YtpjaekofibpgnaaDoorB130
import Derived.Test.YtpjaekofibpgnaaDoorF113
import Derived.Test.YtpjaekofibpgnaaDoorI106
import Derived.WalkKit
import Derived.WalkSpells
import Derived.WalkLawsBesides
import Derived.Deep.RegionHeld
namespace Go.Proofs.YtpjaekofibpgnaaDoor
open Go.RowKit
set_option linter.unusedVariables false
/- Numbers of shares. -/
theorem share_is {m r : Int} (hr : 1 ≤ r ∧ r ≤ 13200000) (hm : 0 ≤ m ∧ m ≤ 12000000) : foB m r = true ∧ 1 ≤ foD m r ∧ foD m r ≤ r ∧ r.tmod (foD m r) = 0 ∧ (0 ≤ foN m r ∧ foN m r ≤ m) ∧ (0 ≤ r.tdiv (foD m r) ∧ r.tdiv (foD m r) ≤ r) ∧ foN m r * r.tdiv (foD m r) = m ∧ (1 ≤ m → 1 ≤ foN m r) ∧ (foN m r = 0 ↔ m = 0) := by
  have hy : r ≠ 0 := by omega
  obtain ⟨e1, e2⟩ := fo_exact (x := m) (y := r)
  have hd := fo_pos (x := m) hy
  have hg : 0 < foG m r := by
    have := gcd_pos (a := m) hy
    unfold foG
    rw [if_neg (by omega)]
    exact this
  have hB : foB m r = true := by
    unfold foB szF
    simp
    omega
  have hq : r.tdiv (foD m r) = foG m r := by
    have : r.tdiv (foD m r) = (foD m r * foG m r).tdiv (foD m r) := by rw [e2]
    rw [this, Int.mul_tdiv_cancel_left _ (by omega)]
  have hN0 : 0 ≤ foN m r := by
    refine Int.le_of_not_gt fun hc => ?_
    have : foN m r * foG m r < 0 := Int.mul_neg_of_neg_of_pos hc hg
    omega
  have hNm : foN m r ≤ m := by
    have : foN m r * 1 ≤ foN m r * foG m r := Int.mul_le_mul_of_nonneg_left (by omega) hN0
    omega
  have hGr : foG m r ≤ r := by
    have : 1 * foG m r ≤ foD m r * foG m r := Int.mul_le_mul_of_nonneg_right (by omega) (by omega)
    omega
  have hDr : foD m r ≤ r := by
    have : foD m r * 1 ≤ foD m r * foG m r := Int.mul_le_mul_of_nonneg_left (by omega) (by omega)
    omega
  have hz : foN m r = 0 ↔ m = 0 := by
    constructor
    · intro h
      rw [h, Int.zero_mul] at e1
      exact e1.symm
    · intro h
      have : foN m r ≤ 0 := by omega
      omega
  refine ⟨hB, by omega, hDr, ?_, ⟨hN0, hNm⟩, ⟨by omega, by omega⟩, by rw [hq]; exact e1, fun h => ?_, hz⟩
  · have h := Int.tmod_add_mul_tdiv r (foD m r)
    rw [hq] at h
    omega
  · have : foN m r ≠ 0 := fun q => by have := hz.1 q; omega
    omega
/- The longs of all slots; of the owners below q. -/
def totS (M : Nat → SlT) : Nat → Int
  | 0 => 0
  | j + 1 => totS M j + (M j).2
theorem upS_tot (g : Int) (M : Nat → SlT) : ∀ n : Nat, upS g M n = totS M n + g * (n : Int)
  | 0 => by rw [upS, totS]; simp
  | n + 1 => by
    rw [upS, totS, upS_tot g M n, show ((n + 1 : Nat) : Int) = (n : Int) + 1 by omega, Int.mul_add, Int.mul_one]
    omega
def allO (M : Nat → SlT) (n : Nat) : Nat → Int
  | 0 => 0
  | q + 1 => allO M n q + smS M (q : Int) n
theorem allO_zero (M : Nat → SlT) : ∀ q, allO M 0 q = 0
  | 0 => rfl
  | q + 1 => by rw [allO, allO_zero M q, smS]; rfl
theorem allO_step (M : Nat → SlT) (n : Nat) : ∀ q : Nat, allO M (n + 1) q = allO M n q + (if 0 ≤ (M n).1 ∧ (M n).1 < (q : Int) then (M n).2 else 0)
  | 0 => by rw [allO, allO, if_neg (by omega)]; rfl
  | q + 1 => by
    have ih := allO_step M n q
    rw [allO, allO, ih, smS]
    cases h : ((M n).1 == (q : Int))
    · have hne := beq_eq_false_iff_ne.1 h
      show _ + smS M (q : Int) n = _
      by_cases c : 0 ≤ (M n).1 ∧ (M n).1 < (q : Int)
      · rw [if_pos c, if_pos (by omega)]; omega
      · rw [if_neg c, if_neg (by omega)]; omega
    · have he := beq_iff_eq.1 h
      show _ + (smS M (q : Int) n + (M n).2) = _
      rw [if_neg (by omega), if_pos (by omega)]
      omega
theorem allO_tot {M : Nat → SlT} {n : Nat} (hA : slA M n = true) : ∀ k, k ≤ n → allO M k 8 = totS M k
  | 0, _ => by rw [allO_zero, totS]
  | k + 1, hk => by
    have ho := (slB_t (slA_at hA (show k < n by omega))).1
    rw [allO_step, allO_tot hA k (by omega), if_pos (by omega), totS]
/- An owner has a slot just if its share is not nothing. -/
theorem smS_none {M : Nat → SlT} {o : Int} : ∀ {n : Nat}, hasO M o n = false → smS M o n = 0
  | 0, _ => rfl
  | n + 1, h => by
    rw [hasO] at h
    simp only [Bool.or_eq_false_iff] at h
    rw [smS, h.2]
    exact smS_none h.1
theorem smS_some {M : Nat → SlT} {n : Nat} {o : Int} (hA : slA M n = true) : ∀ {k : Nat}, k ≤ n → hasO M o k = true → 1 ≤ smS M o k
  | 0, _, h => by rw [hasO] at h; exact Bool.noConfusion h
  | k + 1, hk, h => by
    have hl := (slB_t (slA_at hA (show k < n by omega))).2
    have hb := smS_bd (o := o) hA k (by omega)
    rw [hasO] at h
    rw [smS]
    cases e : ((M k).1 == o)
    · rw [e, Bool.or_false] at h
      exact smS_some hA (by omega) h
    · show 1 ≤ smS M o k + (M k).2
      omega
theorem hasO_rng {M : Nat → SlT} {n : Nat} {o : Int} (hA : slA M n = true) : ∀ {k : Nat}, k ≤ n → hasO M o k = true → 0 ≤ o ∧ o < 8
  | 0, _, h => by rw [hasO] at h; exact Bool.noConfusion h
  | k + 1, hk, h => by
    have ho := (slB_t (slA_at hA (show k < n by omega))).1
    rw [hasO] at h
    cases e : ((M k).1 == o)
    · rw [e, Bool.or_false] at h
      exact hasO_rng hA (by omega) h
    · have := beq_iff_eq.1 e
      omega
/- The owners: those that have a slot, ascending; the sum of their longs. -/
def pS (M : Nat → SlT) (n : Nat) (L : List Int) : Nat → Int
  | 0 => 0
  | i + 1 => pS M n L i + smS M (gI L i) n
theorem pS_congr {M : Nat → SlT} {n : Nat} {L : List Int} {x : Int} : ∀ {i : Nat}, i ≤ L.length → pS M n (L ++ [x]) i = pS M n L i
  | 0, _ => rfl
  | i + 1, h => by rw [pS, pS, pS_congr (by omega), gI_old (by omega)]
theorem owL_sum (M : Nat → SlT) (n : Nat) : ∀ q, pS M n (owL M n q) (owL M n q).length = allO M n q
  | 0 => rfl
  | q + 1 => by
    have ih := owL_sum M n q
    rw [allO]
    cases h : hasO M (q : Int) n
    · have e : owL M n (q + 1) = owL M n q := by rw [owL, h]
      rw [e, ih, smS_none h, Int.add_zero]
    · have e : owL M n (q + 1) = owL M n q ++ [(q : Int)] := by rw [owL, h]
      rw [e, List.length_append]
      show pS M n (owL M n q ++ [(q : Int)]) ((owL M n q).length + 1) = _
      rw [pS, pS_congr (Nat.le_refl _), ih, gI_new]
theorem owL_at {M : Nat → SlT} {n : Nat} : ∀ {q i : Nat}, i < (owL M n q).length → hasO M (gI (owL M n q) i) n = true ∧ (0 ≤ gI (owL M n q) i ∧ gI (owL M n q) i < (q : Int))
  | 0, i, h => absurd h (Nat.not_lt_zero _)
  | q + 1, i, h => by
    cases hh : hasO M (q : Int) n
    · have e : owL M n (q + 1) = owL M n q := by rw [owL, hh]
      rw [e] at h ⊢
      have := owL_at h
      exact ⟨this.1, by omega⟩
    · have e : owL M n (q + 1) = owL M n q ++ [(q : Int)] := by rw [owL, hh]
      rw [e] at h ⊢
      by_cases c : i < (owL M n q).length
      · rw [gI_old c]
        have := owL_at c
        exact ⟨this.1, by omega⟩
      · have ei : i = (owL M n q).length := by rw [List.length_append] at h; simp at h; omega
        subst ei
        rw [gI_new]
        exact ⟨hh, by omega⟩
theorem owL_asc {M : Nat → SlT} {n : Nat} : ∀ {q i : Nat}, i + 1 < (owL M n q).length → gI (owL M n q) i < gI (owL M n q) (i + 1)
  | 0, i, h => absurd h (Nat.not_lt_zero _)
  | q + 1, i, h => by
    cases hh : hasO M (q : Int) n
    · have e : owL M n (q + 1) = owL M n q := by rw [owL, hh]
      rw [e] at h ⊢
      exact owL_asc h
    · have e : owL M n (q + 1) = owL M n q ++ [(q : Int)] := by rw [owL, hh]
      rw [e] at h ⊢
      by_cases c : i + 1 < (owL M n q).length
      · rw [gI_old (by omega), gI_old c]
        exact owL_asc c
      · have ei : i + 1 = (owL M n q).length := by rw [List.length_append] at h; simp at h; omega
        rw [gI_old (by omega), ei, gI_new]
        exact (owL_at (show i < (owL M n q).length by omega)).2.2
theorem owL_all {M : Nat → SlT} {n : Nat} {o : Nat} (h : hasO M (o : Int) n = true) : ∀ {q : Nat}, o < q → ∃ i, i < (owL M n q).length ∧ gI (owL M n q) i = (o : Int)
  | 0, hq => absurd hq (Nat.not_lt_zero _)
  | q + 1, hq => by
    by_cases c : o < q
    · obtain ⟨i, h1, h2⟩ := owL_all h c
      cases hh : hasO M (q : Int) n
      · have e : owL M n (q + 1) = owL M n q := by rw [owL, hh]
        rw [e]
        exact ⟨i, h1, h2⟩
      · have e : owL M n (q + 1) = owL M n q ++ [(q : Int)] := by rw [owL, hh]
        rw [e]
        exact ⟨i, by rw [List.length_append]; omega, by rw [gI_old h1]; exact h2⟩
    · have eo : o = q := by omega
      subst eo
      have e : owL M n (o + 1) = owL M n o ++ [(o : Int)] := by rw [owL, h]
      rw [e]
      exact ⟨(owL M n o).length, by rw [List.length_append]; simp, gI_new _ _⟩
/- Is a number among those of a list. -/
def inL (L : List Int) (x : Int) : Nat → Bool
  | 0 => false
  | i + 1 => inL L x i || (gI L i == x)
theorem inL_t {L : List Int} {x : Int} : ∀ {k : Nat}, inL L x k = true → ∃ i, i < k ∧ gI L i = x
  | 0, h => by rw [inL] at h; exact Bool.noConfusion h
  | k + 1, h => by
    rw [inL] at h
    cases e : (gI L k == x)
    · rw [e, Bool.or_false] at h
      obtain ⟨i, h1, h2⟩ := inL_t h
      exact ⟨i, by omega, h2⟩
    · exact ⟨k, by omega, beq_iff_eq.1 e⟩
theorem inL_of {L : List Int} {x : Int} {i : Nat} (h : gI L i = x) : ∀ {k : Nat}, i < k → inL L x k = true
  | 0, hk => absurd hk (Nat.not_lt_zero _)
  | k + 1, hk => by
    rw [inL]
    by_cases c : i < k
    · rw [inL_of h c]; rfl
    · have e : i = k := by omega
      subst e
      rw [h]
      simp
theorem in_owners {M : Nat → SlT} {n : Nat} {o : Int} (hA : slA M n = true) : (smS M o n = 0) ↔ inL (owL M n 8) o (owL M n 8).length = false := by
  constructor
  · intro h
    cases e : inL (owL M n 8) o (owL M n 8).length
    · rfl
    · obtain ⟨i, h1, h2⟩ := inL_t e
      have h3 := (owL_at h1).1
      rw [h2] at h3
      have := smS_some hA (Nat.le_refl _) h3
      omega
  · intro h
    cases e : hasO M o n
    · exact smS_none e
    · have hr := hasO_rng hA (Nat.le_refl _) e
      obtain ⟨k, rfl⟩ := Int.eq_ofNat_of_zero_le hr.1
      obtain ⟨i, h1, h2⟩ := owL_all e (show k < 8 by omega)
      rw [inL_of h2 h1] at h
      exact absurd h (by decide)
/- All shares and the gaps come to the whole round. -/
theorem shares_all {s g : Int} {M : Nat → SlT} {n : Nat} (h : plB s g M n = true) : g * (n : Int) + pS M n (owL M n 8) (owL M n 8).length = upS g M n := by
  obtain ⟨p1, p2, p3, p4⟩ := plB_t h
  rw [owL_sum, allO_tot p4 n (Nat.le_refl _), upS_tot]
  omega
end Go.Proofs.YtpjaekofibpgnaaDoor
