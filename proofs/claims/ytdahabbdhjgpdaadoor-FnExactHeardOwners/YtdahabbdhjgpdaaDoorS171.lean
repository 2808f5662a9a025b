/- A set of small numbers as the bits of one number. -/
import Derived.Test.YtdahabbdhjgpdaaDoorS160
import Derived.Lib.TrailingZeros
import Derived.Laws.BitsAllLaws
import Derived.WalkKit
import Derived.WalkSpells
import Derived.WalkLawsBesides
import Derived.Deep.RegionHeld
namespace Go.Proofs.YtdahabbdhjgpdaaDoor
open Go.RowKit
set_option linter.unusedVariables false
/- A set of small numbers as the bits of one number: an ascending list, and the number. -/
def ascF (lo : Int) : List Int → Prop
  | [] => True
  | x :: L => lo ≤ x ∧ x ≤ 15 ∧ ascF (x + 1) L
def numL : List Int → Nat
  | [] => 0
  | x :: L => 2 ^ x.toNat + numL L
theorem ascF_le {lo lo' : Int} (h : lo' ≤ lo) : ∀ {L : List Int}, ascF lo L → ascF lo' L
  | [], _ => trivial
  | x :: L, hL => ⟨Int.le_trans h hL.1, hL.2⟩
theorem num_top : ∀ {L : List Int} {lo : Int}, 0 ≤ lo → lo ≤ 16 → ascF lo L → numL L + 2 ^ lo.toNat ≤ 65536
  | [], lo, h0, h1, _ => by
    have : 2 ^ lo.toNat ≤ 2 ^ 16 := Nat.pow_le_pow_right (by decide) (by omega)
    rw [numL]; omega
  | x :: L, lo, h0, h1, h => by
    have ih := num_top (L := L) (lo := x + 1) (by have := h.1; omega) (by have := h.2.1; omega) h.2.2
    have e : 2 ^ (x + 1).toNat = 2 * 2 ^ x.toNat := by
      rw [show (x + 1).toNat = x.toNat + 1 by have := h.1; omega, Nat.pow_succ, Nat.mul_comm]
    have : 2 ^ lo.toNat ≤ 2 ^ x.toNat := Nat.pow_le_pow_right (by decide) (by have := h.1; omega)
    rw [numL]; omega
theorem num_lt {L : List Int} (h : ascF 0 L) : numL L < 65536 := by
  have := num_top (lo := 0) (by decide) (by decide) h
  simp at this; omega
theorem num_dvd : ∀ {L : List Int} {lo : Int}, 0 ≤ lo → ascF lo L → ∃ q, numL L = 2 ^ lo.toNat * q
  | [], _, _, _ => ⟨0, by simp [numL]⟩
  | x :: L, lo, h0, h => by
    obtain ⟨q, hq⟩ := num_dvd (L := L) (lo := x + 1) (by have := h.1; omega) h.2.2
    obtain ⟨d, hd⟩ : ∃ d, x.toNat = lo.toNat + d := ⟨x.toNat - lo.toNat, by have := h.1; omega⟩
    have e1 : (x + 1).toNat = lo.toNat + (d + 1) := by have := h.1; omega
    refine ⟨2 ^ d + 2 ^ (d + 1) * q, ?_⟩
    rw [numL, hq, hd, e1, Nat.pow_add, Nat.pow_add, Nat.mul_add, Nat.mul_assoc]
theorem num_odd {x : Int} {L : List Int} {lo : Int} (h0 : 0 ≤ lo) (h : ascF lo (x :: L)) : ∃ q, numL (x :: L) = 2 ^ x.toNat * (2 * q + 1) ∧ numL L = 2 ^ (x.toNat + 1) * q := by
  obtain ⟨q, hq⟩ := num_dvd (L := L) (lo := x + 1) (by have := h.1; omega) h.2.2
  rw [show (x + 1).toNat = x.toNat + 1 by have := h.1; omega] at hq
  refine ⟨q, ?_, hq⟩
  rw [numL, hq, Nat.pow_succ, Nat.mul_add, Nat.mul_assoc]; omega
theorem num_pos {x : Int} {L : List Int} : 0 < numL (x :: L) := by
  have : 0 < 2 ^ x.toNat := Nat.pow_pos (by decide)
  rw [numL]; omega
theorem num_zero {L : List Int} (h : numL L = 0) : L = [] := by
  cases L with
  | nil => rfl
  | cons x L => have := num_pos (x := x) (L := L); omega
theorem and_low (k q : Nat) : (2 ^ k * (2 * q + 1)) &&& (2 ^ k * (2 * q + 1) - 1) = 2 ^ (k + 1) * q := by
  have hp : 0 < 2 ^ k := Nat.pow_pos (by decide)
  have e1 : 2 ^ k * (2 * q + 1) = 2 ^ (k + 1) * q + 2 ^ k := by rw [Nat.mul_add, Nat.pow_succ, Nat.mul_assoc]; omega
  have e2 : 2 ^ k * (2 * q + 1) - 1 = 2 ^ (k + 1) * q + (2 ^ k - 1) := by omega
  rw [e2, e1]
  have hlt : 2 ^ k < 2 ^ (k + 1) := by rw [Nat.pow_succ]; omega
  apply Nat.eq_of_testBit_eq
  intro i
  rw [Nat.testBit_and, Nat.testBit_two_pow_mul_add _ hlt, Nat.testBit_two_pow_mul_add _ (by omega), Nat.testBit_two_pow_mul, Nat.testBit_two_pow, Nat.testBit_two_pow_sub_one]
  by_cases hi : i < k + 1
  · simp only [hi, if_pos]
    have : ¬ i ≥ k + 1 := by omega
    simp [this]; omega
  · have : i ≥ k + 1 := by omega
    simp only [hi, if_neg, not_false_eq_true, Bool.and_self]
    simp [this]
theorem num_rest {x : Int} {L : List Int} {lo : Int} (h0 : 0 ≤ lo) (h : ascF lo (x :: L)) : numL (x :: L) &&& (numL (x :: L) - 1) = numL L := by
  obtain ⟨q, h1, h2⟩ := num_odd h0 h
  rw [h1, h2]; exact and_low _ _
theorem ctzFrom_pow : ∀ (k f q : Nat), k < f → Go.Lib.ctzFrom f (2 ^ k * (2 * q + 1)) = k
  | 0, f + 1, q, _ => by
    rw [Go.Lib.ctzFrom, if_pos (by omega)]
  | k + 1, f + 1, q, h => by
    have e : 2 ^ (k + 1) * (2 * q + 1) = 2 * (2 ^ k * (2 * q + 1)) := by rw [Nat.pow_succ, Nat.mul_comm (2 ^ k) 2, Nat.mul_assoc]
    rw [Go.Lib.ctzFrom, if_neg (by omega), e, Nat.mul_div_cancel_left _ (by decide), ctzFrom_pow k f q (by omega)]
    omega
theorem num_least {x : Int} {L : List Int} {lo : Int} (h0 : 0 ≤ lo) (h : ascF lo (x :: L)) : ((Go.Lib.ctz 64 (numL (x :: L)) : Nat) : Int) = x := by
  obtain ⟨q, h1, _⟩ := num_odd h0 h
  have hp := num_pos (x := x) (L := L)
  unfold Go.Lib.ctz
  rw [if_neg (by omega), h1, ctzFrom_pow _ _ _ (by have := h.2.1; omega)]
  have := h.1
  omega
theorem num_bit : ∀ {L : List Int} {lo : Int}, 0 ≤ lo → ascF lo L → ∀ i : Nat, (numL L).testBit i = decide ((i : Int) ∈ L)
  | [], _, _, _, i => by simp [numL]
  | x :: L, lo, h0, h, i => by
    have hx0 : 0 ≤ x := Int.le_trans h0 h.1
    have ih := num_bit (L := L) (lo := x + 1) (by omega) h.2.2 i
    obtain ⟨q, h1, h2⟩ := num_odd h0 h
    have e1 : numL (x :: L) = 2 ^ (x.toNat + 1) * q + 2 ^ x.toNat := by rw [numL, h2]; omega
    have hlt : 2 ^ x.toNat < 2 ^ (x.toNat + 1) := by have : 0 < 2 ^ x.toNat := Nat.pow_pos (by decide); rw [Nat.pow_succ]; omega
    rw [h2, Nat.testBit_two_pow_mul] at ih
    rw [e1, Nat.testBit_two_pow_mul_add _ hlt, Nat.testBit_two_pow]
    by_cases hi : i < x.toNat + 1
    · rw [if_pos hi]
      have hn : decide (i ≥ x.toNat + 1) = false := by simp; omega
      rw [hn, Bool.false_and] at ih
      have hl : ¬ (i : Int) ∈ L := by simpa using ih.symm
      by_cases e : x.toNat = i
      · have : (i : Int) = x := by omega
        simp [e, this]
      · have : ¬ (i : Int) = x := by omega
        simp [e, this, hl]
    · rw [if_neg hi]
      have hn : decide (i ≥ x.toNat + 1) = true := by simp; omega
      rw [hn, Bool.true_and] at ih
      have : ¬ (i : Int) = x := by omega
      rw [ih]
      simp [this]
theorem num_eq {L : List Int} {s : Nat} (h : ascF 0 L) (hb : ∀ i : Nat, s.testBit i = decide ((i : Int) ∈ L)) : s = numL L :=
  Nat.eq_of_testBit_eq fun i => by rw [hb i, num_bit (Int.le_refl 0) h]
/- A list that ends in a greater number. -/
theorem ascF_snoc : ∀ {L : List Int} {lo x : Int}, ascF lo L → lo ≤ x → x ≤ 15 → (∀ y, y ∈ L → y < x) → ascF lo (L ++ [x])
  | [], _, _, _, h1, h2, _ => ⟨h1, h2, trivial⟩
  | y :: L, lo, x, h, h1, h2, h3 => ⟨h.1, h.2.1, ascF_snoc h.2.2 (by have := h3 y (List.mem_cons_self ..); omega) h2 fun z hz => h3 z (List.mem_cons_of_mem _ hz)⟩
theorem slJ_in {P : Nat → Bool} : ∀ {m : Nat} {y : Int}, y ∈ slJ P m ↔ ∃ j, j < m ∧ P j = true ∧ y = (j : Int)
  | 0, y => by simp [slJ]
  | m + 1, y => by
    cases h : P m
    · rw [slJ_no h, slJ_in]
      constructor
      · rintro ⟨j, h1, h2, h3⟩; exact ⟨j, by omega, h2, h3⟩
      · rintro ⟨j, h1, h2, h3⟩
        refine ⟨j, ?_, h2, h3⟩
        by_cases e : j = m
        · subst e; rw [h] at h2; exact absurd h2 (by decide)
        · omega
    · rw [slJ_yes h, List.mem_append, slJ_in, List.mem_singleton]
      constructor
      · rintro (⟨j, h1, h2, h3⟩ | h3)
        · exact ⟨j, by omega, h2, h3⟩
        · exact ⟨m, by omega, h, h3⟩
      · rintro ⟨j, h1, h2, h3⟩
        by_cases e : j = m
        · subst e; exact Or.inr h3
        · exact Or.inl ⟨j, by omega, h2, h3⟩
theorem slJ_asc {P : Nat → Bool} : ∀ {m : Nat}, m ≤ 16 → ascF 0 (slJ P m)
  | 0, _ => trivial
  | m + 1, h => by
    cases e : P m
    · rw [slJ_no e]; exact slJ_asc (by omega)
    · rw [slJ_yes e]
      refine ascF_snoc (slJ_asc (by omega)) (by omega) (by omega) fun y hy => ?_
      obtain ⟨j, h1, _, h3⟩ := slJ_in.1 hy
      omega
theorem slJ_num {P : Nat → Bool} {m s : Nat} (hm : m ≤ 16) (h : ∀ i : Nat, s.testBit i = (decide (i < m) && P i)) : s = numL (slJ P m) :=
  num_eq (slJ_asc hm) fun i => by
    rw [h i]
    cases hc : (decide (i < m) && P i)
    · symm
      apply decide_eq_false
      intro hi
      obtain ⟨j, h1, h2, h3⟩ := slJ_in.1 hi
      obtain rfl : i = j := by omega
      rw [h2] at hc
      simp at hc; omega
    · symm
      simp only [Bool.and_eq_true, decide_eq_true_eq] at hc
      exact decide_eq_true (slJ_in.2 ⟨i, hc.1, hc.2, rfl⟩)
theorem fiL_in {P : Nat → Bool} {g : Nat → Int} : ∀ {n : Nat} {y : Int}, y ∈ fiL P g n ↔ ∃ j, j < n ∧ P j = true ∧ y = g j
  | 0, y => by simp [fiL]
  | m + 1, y => by
    cases h : P m
    · rw [fiL_no h, fiL_in]
      constructor
      · rintro ⟨j, h1, h2, h3⟩; exact ⟨j, by omega, h2, h3⟩
      · rintro ⟨j, h1, h2, h3⟩
        refine ⟨j, ?_, h2, h3⟩
        by_cases e : j = m
        · subst e; rw [h] at h2; exact absurd h2 (by decide)
        · omega
    · rw [fiL_yes h, List.mem_append, fiL_in, List.mem_singleton]
      constructor
      · rintro (⟨j, h1, h2, h3⟩ | h3)
        · exact ⟨j, by omega, h2, h3⟩
        · exact ⟨m, by omega, h, h3⟩
      · rintro ⟨j, h1, h2, h3⟩
        by_cases e : j = m
        · subst e; exact Or.inr h3
        · exact Or.inl ⟨j, by omega, h2, h3⟩
theorem fiL_asc {P : Nat → Bool} {M : Nat → VT} {n : Nat} (h : hrA M n = true) : ∀ {k : Nat}, k ≤ n → ascF 0 (fiL P (slS M) k)
  | 0, _ => trivial
  | k + 1, hk => by
    cases e : P k
    · rw [fiL_no e]; exact fiL_asc h (by omega)
    · rw [fiL_yes e]
      have h1 := hrO_t (hrA_at h (show k < n by omega)).1
      refine ascF_snoc (fiL_asc h (by omega)) (show 0 ≤ (M k).1 by omega) (show (M k).1 ≤ 15 by omega) fun y hy => ?_
      obtain ⟨j, h2, _, h4⟩ := fiL_in.1 hy
      rw [h4]
      exact hr_asc h h2 (by omega)
/- A bit more. -/
theorem or_bit {s : Nat} {F : Nat → Bool} {x : Nat} (h : ∀ i : Nat, s.testBit i = F i) (i : Nat) : (s ||| 2 ^ x).testBit i = (F i || decide (x = i)) := by
  rw [Nat.testBit_or, h i, Nat.testBit_two_pow]
theorem or_lt {s x : Nat} (h : s < 65536) (hx : x ≤ 15) : s ||| 2 ^ x < 65536 :=
  Nat.or_lt_two_pow (n := 16) h (Nat.lt_of_le_of_lt (Nat.pow_le_pow_right (by decide) hx) (by decide))
end Go.Proofs.YtdahabbdhjgpdaaDoor
