/- Numbers of texts: the digits of a number. -/
import Derived.Laws.OwnMore
import Derived.Lib.BufferRead
import Derived.Test.YtddjiamollfplaaDoorMS6
namespace Go.Proofs.YtddjiamollfplaaDoor
open Go.RowKit
set_option linter.unusedVariables false
def dL : Nat → Nat → List Int → List Int
 | 0, _, L => L
 | f + 1, K, L => if K = 0 then L else dL f (K / 10) ((48 + (K : Int) % 10) :: L)
theorem str_cons (a : Int) (L : List Int) : strOfNums [a] ++ strOfNums L = strOfNums (a :: L) := by
 apply ByteArray.ext
 rw [ByteArray.data_append, strOfNums, strOfNums, strOfNums]
 simp
theorem tdS_dL : ∀ (f K : Nat) (L : List Int), tdS f K (strOfNums L) = strOfNums (dL f K L)
 | 0, _, _ => rfl
 | f + 1, K, L => by
  rw [tdS, dL]
  by_cases h : K = 0
  ·rw [if_pos h, if_pos h]
  ·rw [if_neg h, if_neg h, str_cons, tdS_dL f]
theorem dgs_eq (K : Nat) : dgs K = strOfNums (dL 20 K []) := tdS_dL 20 K []
def evL (a : Int) (L : List Int) : Int := L.foldl (fun v z => 10 * v + z - 48) a
theorem dL_ev : ∀ {f K : Nat} {L : List Int}, K < 10 ^ f → evL 0 (dL f K L) = evL (K : Int) L
 | 0, K, L, h => by
  have : K = 0 := by simpa using h
  subst this; rfl
 | f + 1, K, L, h => by
  rw [dL]
  by_cases hz : K = 0
  ·rw [if_pos hz, hz]; rfl
  ·rw [if_neg hz, dL_ev (ten_step h)]
   show evL (10 * ((K / 10 : Nat) : Int) + (48 + (K : Int) % 10) - 48) L = _
   congr 1
   omega
theorem dL_dig : ∀ {f K : Nat} {L : List Int}, (∀ z ∈ L, 48 ≤ z ∧ z ≤ 57) → ∀ z ∈ dL f K L, 48 ≤ z ∧ z ≤ 57
 | 0, _, _, h => h
 | f + 1, K, L, h => by
  rw [dL]
  by_cases hz : K = 0
  ·rw [if_pos hz]; exact h
  ·rw [if_neg hz]
   refine dL_dig fun z hm => ?_
   rcases List.mem_cons.1 hm with rfl | hm
   ·omega
   ·exact h z hm
theorem dL_len : ∀ {f K : Nat} {L : List Int}, L.length ≤ (dL f K L).length
 | 0, _, _ => Nat.le_refl _
 | f + 1, K, L => by
  rw [dL]
  by_cases hz : K = 0
  ·rw [if_pos hz]; exact Nat.le_refl _
  ·rw [if_neg hz]
   have := @dL_len f (K / 10) ((48 + (K : Int) % 10) :: L)
   simp at this
   omega
theorem dL_low : ∀ {f K : Nat} {L : List Int}, K ≠ 0 → K < 10 ^ f → L.length < (dL f K L).length ∧ 10 ^ ((dL f K L).length - L.length - 1) ≤ K
 | 0, K, L, hz, h => absurd (by simpa using h) hz
 | f + 1, K, L, hz, h => by
  rw [dL, if_neg hz]
  have hle := @dL_len f (K / 10) ((48 + (K : Int) % 10) :: L)
  have hl1 : ((48 + (K : Int) % 10) :: L).length = L.length + 1 := rfl
  rw [hl1] at hle
  refine ⟨by omega, ?_⟩
  by_cases h0 : K / 10 = 0
  ·rw [h0]
   have e : dL f 0 ((48 + (K : Int) % 10) :: L) = (48 + (K : Int) % 10) :: L := by cases f <;> simp [dL]
   rw [e, hl1]
   simp
   omega
  ·obtain ⟨q1, q2⟩ := dL_low (L := (48 + (K : Int) % 10) :: L) h0 (ten_step h)
   rw [hl1] at q1 q2
   generalize (dL f (K / 10) ((48 + (K : Int) % 10) :: L)).length = n at *
   obtain ⟨m, rfl⟩ : ∃ m, n = L.length + 2 + m := ⟨n - (L.length + 2), by omega⟩
   rw [show L.length + 2 + m - (L.length + 1) - 1 = m by omega] at q2
   rw [show L.length + 2 + m - L.length - 1 = m + 1 by omega, Nat.pow_succ]
   omega
theorem evL_app (a : Int) (L : List Int) (z : Int) : evL a (L ++ [z]) = 10 * evL a L + z - 48 := by simp [evL]
theorem nm_list {s : ByteArray} {a : Nat} {M : List Int} (h : ∀ k, k < M.length → bt s (a + k) = M.getD k 0) (hd : ∀ z ∈ M, 48 ≤ z ∧ z ≤ 57) : ∀ k, k ≤ M.length → nmV s a k = evL 0 (M.take k) ∧ nmD s a k = true
 | 0, _ => ⟨rfl, rfl⟩
 | k + 1, hk => by
  obtain ⟨i1, i2⟩ := nm_list h hd k (by omega)
  have hb := h k (by omega)
  have hg : M.getD k 0 = M[k] := by rw [List.getD_eq_getElem?_getD, List.getElem?_eq_getElem (by omega)]; rfl
  have hz := hd M[k] (List.getElem_mem (by omega))
  rw [hg] at hb
  constructor
  ·rw [nmV, i1, hb, List.take_add_one, List.getElem?_eq_getElem (show k < M.length by omega)]
   exact (evL_app 0 (M.take k) M[k]).symm
  ·rw [nmD, i2, hb, decide_eq_true hz]; rfl
theorem ev_rng {M : List Int} (hd : ∀ z ∈ M, 48 ≤ z ∧ z ≤ 57) : ∀ {a : Int} , 0 ≤ a → evL a M < (a + 1) * 10 ^ M.length := by
 induction M with
 | nil => intro a _; simp [evL]; omega
 | cons z M ih =>
  intro a ha
  have hz := hd z (List.mem_cons_self ..)
  have q := ih (fun y hy => hd y (List.mem_cons_of_mem _ hy)) (a := 10 * a + z - 48) (by omega)
  show evL (10 * a + z - 48) M < _
  refine Int.lt_of_lt_of_le q ?_
  rw [List.length_cons, Int.pow_succ, Int.mul_comm (10 ^ M.length) 10, ← Int.mul_assoc]
  exact Int.mul_le_mul_of_nonneg_right (by omega) (Int.le_of_lt (Int.pow_pos (by decide)))
theorem dig_few {K : Nat} (hz : K ≠ 0) (h : K < 10 ^ 20) : 0 < (dL 20 K []).length ∧ ((dL 20 K []).length ≤ 9 ↔ K ≤ 999999999) := by
 obtain ⟨q1, q2⟩ := dL_low (L := []) hz h
 have hd := @dL_dig 20 K [] (fun z hz => nomatch hz)
 have he := dL_ev (L := []) h
 have hv := ev_rng hd (a := 0) (Int.le_refl _)
 rw [he] at hv
 simp only [List.length_nil, Nat.sub_zero] at q1 q2
 have hv' : (K : Int) < 10 ^ (dL 20 K []).length := by simpa [evL] using hv
 generalize (dL 20 K []).length = n at *
 refine ⟨q1, ⟨fun h9 => ?_, fun hk => ?_⟩⟩
 ·have : (10 : Nat) ^ n ≤ 10 ^ 9 := Nat.pow_le_pow_right (by decide) h9
  have hv2 : K < 10 ^ n := by exact_mod_cast hv'
  omega
 ·by_cases h9 : n ≤ 9
  ·exact h9
  ·have : (10 : Nat) ^ 9 ≤ 10 ^ (n - 1) := Nat.pow_le_pow_right (by decide) (by omega)
   omega
end Go.Proofs.YtddjiamollfplaaDoor
