/- Numbers of the shares, owner for owner. -/
import Derived.Test.YtpjaekofibpgnaaDoorV140
import Derived.Test.YtpjaekofibpgnaaDoorB140
import Derived.WalkKit
import Derived.WalkSpells
import Derived.WalkLawsBesides
import Derived.Deep.RegionHeld
namespace Go.Proofs.YtpjaekofibpgnaaDoor
open Go.RowKit
set_option linter.unusedVariables false
theorem sh_in {s g : Int} {M : Nat → SlT} {n : Nat} (h : plB s g M n = true) (o : Int) : shB s g M n o = true ∧ 1 ≤ shY s g M n o ∧ (upS g M n).tmod (shY s g M n o) = 0 ∧ (0 ≤ shX s g M n o ∧ shX s g M n o ≤ 12000000) ∧ (0 ≤ (upS g M n).tdiv (shY s g M n o) ∧ (upS g M n).tdiv (shY s g M n o) ≤ 13200000) ∧ shX s g M n o * (upS g M n).tdiv (shY s g M n o) = smS M o n ∧ (1 ≤ smS M o n → 1 ≤ shX s g M n o) ∧ (shX s g M n o = 0 ↔ smS M o n = 0) ∧ (0 ≤ smS M o n ∧ smS M o n ≤ 12000000) := by
  obtain ⟨p1, p2, p3, p4⟩ := plB_t h
  have hu := rn_bd h
  have hb := smS_bd (o := o) p4 n (Nat.le_refl _)
  have hm : 0 ≤ smS M o n ∧ smS M o n ≤ 12000000 := ⟨hb.1, by have := hb.2; omega⟩
  obtain ⟨q1, q2, q3, q4, q5, q6, q7, q8, q9⟩ := share_is hu hm
  obtain ⟨e1, e2, e3⟩ := sh_yes (o := o) h
  obtain ⟨f1, f2⟩ := fo_t q1
  rw [e1, e2, e3, f1, f2]
  exact ⟨q1, q2, q4, ⟨q5.1, Int.le_trans q5.2 hm.2⟩, ⟨q6.1, Int.le_trans q6.2 hu.2⟩, q7, q8, q9, hm⟩
theorem pS_bd {s g : Int} {M : Nat → SlT} {n : Nat} (h : plB s g M n = true) (L : List Int) : ∀ i : Nat, 0 ≤ pS M n L i ∧ pS M n L i ≤ (i : Int) * 12000000
  | 0 => by rw [pS]; simp
  | i + 1 => by
    have ih := pS_bd h L i
    have hm := (sh_in h (gI L i)).2.2.2.2.2.2.2.2
    rw [pS]
    omega
theorem owL_len8 (M : Nat → SlT) (n : Nat) : (owL M n 8).length ≤ 8 := owL_len M n 8
/- What is summed up to an owner: the gaps and the owners' longs. -/
def suS (g : Int) (M : Nat → SlT) (n : Nat) (L : List Int) (i : Nat) : Int := g * (n : Int) + pS M n L i
theorem sh_round {s g : Int} {M : Nat → SlT} {n : Nat} (h : plB s g M n = true) {i : Nat} (hi : i < (owL M n 8).length) :
    shB s g M n (gI (owL M n 8) i) = true ∧ ¬ shX s g M n (gI (owL M n 8) i) < 1 ∧ ¬ shY s g M n (gI (owL M n 8) i) < 1 ∧ (upS g M n).tmod (shY s g M n (gI (owL M n 8) i)) = 0 ∧
    IntKind.i64.wrap ((upS g M n).tdiv (shY s g M n (gI (owL M n 8) i))) = (upS g M n).tdiv (shY s g M n (gI (owL M n 8) i)) ∧
    IntKind.i64.wrap (shX s g M n (gI (owL M n 8) i) * (upS g M n).tdiv (shY s g M n (gI (owL M n 8) i))) = smS M (gI (owL M n 8) i) n ∧
    IntKind.i64.wrap (suS g M n (owL M n 8) i + smS M (gI (owL M n 8) i) n) = suS g M n (owL M n 8) (i + 1) := by
  obtain ⟨p1, p2, p3, p4⟩ := plB_t h
  have h8 := owL_len8 M n
  obtain ⟨q1, q2, q3, q4, q5, q6, q7, q8, q9⟩ := sh_in h (gI (owL M n 8) i)
  have ho := smS_some p4 (Nat.le_refl n) (owL_at hi).1
  have hp := pS_bd h (owL M n 8) i
  have hg : 0 ≤ g * (n : Int) ∧ g * (n : Int) ≤ 100000 * 12 := ⟨Int.mul_nonneg p2.1 (by omega), Int.mul_le_mul p2.2 (by omega) (by omega) (by omega)⟩
  refine ⟨q1, by have := q7 ho; omega, by omega, q3, Go.IntWalk.i64_in _ ⟨by omega, by omega⟩, ?_, ?_⟩
  · rw [q6]
    exact Go.IntWalk.i64_in _ ⟨by omega, by omega⟩
  · unfold suS
    rw [pS]
    generalize g * (n : Int) = G at *
    rw [Go.IntWalk.i64_in _ ⟨by omega, by omega⟩]
    omega
theorem su_zero (g : Int) (M : Nat → SlT) (n : Nat) (L : List Int) : suS g M n L 0 = g * (n : Int) := by unfold suS; rw [pS]; omega
theorem su_gap {s g : Int} {M : Nat → SlT} {n : Nat} (h : plB s g M n = true) (L : List Int) : IntKind.i64.wrap (g * (n : Int)) = suS g M n L 0 := by
  obtain ⟨p1, p2, p3, p4⟩ := plB_t h
  have hg : 0 ≤ g * (n : Int) ∧ g * (n : Int) ≤ 100000 * 12 := ⟨Int.mul_nonneg p2.1 (by omega), Int.mul_le_mul p2.2 (by omega) (by omega) (by omega)⟩
  rw [su_zero]
  exact Go.IntWalk.i64_in _ ⟨by omega, by omega⟩
theorem su_all {s g : Int} {M : Nat → SlT} {n : Nat} (h : plB s g M n = true) : suS g M n (owL M n 8) (owL M n 8).length = upS g M n := shares_all h
theorem sh_none {s g : Int} {M : Nat → SlT} {n : Nat} (h : plB s g M n = true) (o : Int) : (shX s g M n o == 0) = !(inL (owL M n 8) o (owL M n 8).length) := by
  obtain ⟨p1, p2, p3, p4⟩ := plB_t h
  have a := (sh_in h o).2.2.2.2.2.2.2.1
  have b := in_owners (o := o) p4
  cases e : inL (owL M n 8) o (owL M n 8).length
  · rw [a.2 (b.2 e)]; rfl
  · have : shX s g M n o ≠ 0 := fun z => by rw [b.1 (a.1 z)] at e; exact Bool.noConfusion e
    rw [beq_eq_false_iff_ne.2 this]; rfl
end Go.Proofs.YtpjaekofibpgnaaDoor
