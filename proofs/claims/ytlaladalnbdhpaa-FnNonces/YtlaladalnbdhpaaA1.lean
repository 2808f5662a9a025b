/- NonceOf and NonceParts: contracts, and the walks of their exact laws. -/
import Derived.Test.YtlaladalnbdhpaaG1
import Derived.Test.YtlaladalnbdhpaaW1
import Derived.WalkKit
import Derived.WalkSpells
import Derived.WalkLawsBesides
import Derived.Deep.RegionHeld
namespace Go.Proofs.Ytlaladalnbdhpaa
open Go.RowKit
set_option linter.unusedVariables false
def epB (e : Int) : Bool := decide (0 ≤ e ∧ e ≤ 100000)
def kB (k : Int) : Bool := decide (0 ≤ k ∧ k ≤ 999)
def nnB (e k : Int) : Bool := epB e && kB k
def nnI (e k : Int) : Int := bif nnB e k then e * 1000 + k else 0
def npB (n : Int) : Bool := decide (0 ≤ n ∧ n ≤ 100000999)
def npE (n : Int) : Int := bif npB n then Int.tdiv n 1000 else 0
def npK (n : Int) : Int := bif npB n then Int.tmod n 1000 else 0
theorem np_nn (n : Int) : nnB (Int.tdiv n 1000) (Int.tmod n 1000) = npB n := by
  rw [Bool.eq_iff_iff]
  simp only [nnB, epB, kB, npB, Bool.and_eq_true, decide_eq_true_eq]
  rcases Int.le_total 0 n with h | h
  · rw [Int.tdiv_eq_ediv_of_nonneg h, Int.tmod_eq_emod_of_nonneg h]; omega
  · obtain ⟨m, rfl⟩ : ∃ m : Int, n = -m := ⟨-n, by omega⟩
    rw [Int.neg_tdiv, Int.neg_tmod, Int.tdiv_eq_ediv_of_nonneg (by omega), Int.tmod_eq_emod_of_nonneg (by omega)]; omega
set_option maxHeartbeats 400000 in
theorem isEpoch_any (n : Int) (w : World) :
    Calls Try.prog 29 #[.int .i64 n] w fun e w' => e = .returned (.bool (epB n)) ∧ w = w' := by
  go_enter Try.func29, Try.ntmps29
  go_wp2
  all_goals go_ret
  all_goals exact ⟨ret_bool (by rw [Bool.eq_iff_iff]; simp [epB]; try omega), rfl⟩
set_option maxHeartbeats 1000000 in
theorem implNonceOf_any (a k : Int) (w : World) :
    Calls Try.prog 14 #[.int .i64 a, .int .i64 k] w fun e w' => e = .returned (.tuple #[.int .i64 (nnI a k), .bool (nnB a k)]) ∧ w = w' := by
  cases h1 : epB a
  · have HB : nnB a k = false := by rw [nnB, h1]; rfl
    have HI : nnI a k = 0 := by rw [nnI, HB]; rfl
    rw [HB, HI]
    go_enter Try.func14, Try.ntmps14
    go_wp2_with fail
    refine (isEpoch_any _ _).mono ?_
    rintro e w' ⟨rfl, rfl⟩
    rw [h1]
    go_wp2_with fail
    go_ret2
    exact ⟨rfl, rfl⟩
  · by_cases h3 : k < 0
    · have h2 : kB k = false := by simp [kB]; omega
      have HB : nnB a k = false := by rw [nnB, h2, Bool.and_false]
      have HI : nnI a k = 0 := by rw [nnI, HB]; rfl
      rw [HB, HI]
      go_enter Try.func14, Try.ntmps14
      go_wp2_with fail
      refine (isEpoch_any _ _).mono ?_
      rintro e w' ⟨rfl, rfl⟩
      rw [h1]
      go_wp2_with fail
      go_ret2
      exact ⟨rfl, rfl⟩
    · by_cases h4 : 1000 ≤ k
      · have h2 : kB k = false := by simp [kB]; omega
        have HB : nnB a k = false := by rw [nnB, h2, Bool.and_false]
        have HI : nnI a k = 0 := by rw [nnI, HB]; rfl
        rw [HB, HI]
        go_enter Try.func14, Try.ntmps14
        go_wp2_with fail
        refine (isEpoch_any _ _).mono ?_
        rintro e w' ⟨rfl, rfl⟩
        rw [h1]
        go_wp2_with fail
        go_ret2
        exact ⟨rfl, rfl⟩
      · have h2 : kB k = true := by simp [kB]; omega
        have HB : nnB a k = true := by rw [nnB, h1, h2]; rfl
        have HI : nnI a k = a * 1000 + k := by rw [nnI, HB]; rfl
        rw [HB, HI]
        have g1 : 0 ≤ a ∧ a ≤ 100000 := of_decide_eq_true h1
        have q1 : IntKind.i64.wrap (a * 1000) = a * 1000 := Go.IntWalk.i64_in _ ⟨by omega, by omega⟩
        have q2 : IntKind.i64.wrap (a * 1000 + k) = a * 1000 + k := Go.IntWalk.i64_in _ ⟨by omega, by omega⟩
        clear g1
        go_enter Try.func14, Try.ntmps14
        go_wp2_with fail
        refine (isEpoch_any _ _).mono ?_
        rintro e w' ⟨rfl, rfl⟩
        rw [h1]
        go_wp2_with fail
        go_ret2
        exact ⟨rfl, rfl⟩
set_option maxHeartbeats 1000000 in
theorem specNonceParts_any (n : Int) (w : World) :
    Calls Try.prog 33 #[.int .i64 n] w fun e w' => e = .returned (.tuple #[.int .i64 (npE n), .int .i64 (npK n), .bool (npB n)]) ∧ w = w' := by
  cases h1 : npB n
  · have HE : npE n = 0 := by rw [npE, h1]; rfl
    have HK : npK n = 0 := by rw [npK, h1]; rfl
    rw [HE, HK]
    unfold npB at h1
    go_enter Try.func33, Try.ntmps33
    go_wp2_with fail
    refine (l1In_any _ _ _ _).mono ?_
    rintro e w' ⟨rfl, rfl⟩
    rw [h1]
    go_wp2_with fail
    go_ret3
    exact ⟨rfl, rfl⟩
  · have HE : npE n = Int.tdiv n 1000 := by rw [npE, h1]; rfl
    have HK : npK n = Int.tmod n 1000 := by rw [npK, h1]; rfl
    rw [HE, HK]
    unfold npB at h1
    have g := of_decide_eq_true h1
    have q1 : IntKind.i64.wrap (Int.tdiv n 1000) = Int.tdiv n 1000 := by rw [Int.tdiv_eq_ediv_of_nonneg g.1]; exact Go.IntWalk.i64_in _ ⟨by omega, by omega⟩
    have q2 : IntKind.i64.wrap (Int.tmod n 1000) = Int.tmod n 1000 := by rw [Int.tmod_eq_emod_of_nonneg g.1]; exact Go.IntWalk.i64_in _ ⟨by omega, by omega⟩
    clear g
    go_enter Try.func33, Try.ntmps33
    go_wp2_with fail
    refine (l1In_any _ _ _ _).mono ?_
    rintro e w' ⟨rfl, rfl⟩
    rw [h1]
    go_wp2_with fail
    go_ret3
    exact ⟨rfl, rfl⟩
set_option maxHeartbeats 1000000 in
theorem implNonceParts_any (n : Int) (w : World) (hw : (Lit.int .i64 n).wf = true) :
    Calls Try.prog 13 #[.int .i64 n] w fun e w' => e = .returned (.tuple #[.int .i64 (npE n), .int .i64 (npK n), .bool (npB n)]) ∧ w = w' := by
  have hr : -9223372036854775808 ≤ n ∧ n ≤ 9223372036854775807 := by simp only [Lit.wf, Bool.and_eq_true, decide_eq_true_eq] at hw; exact hw
  have q1 : IntKind.i64.wrap (Int.tdiv n 1000) = Int.tdiv n 1000 := Go.IntWalk.i64_in _ (by
    rcases Int.le_total 0 n with h | h
    · rw [Int.tdiv_eq_ediv_of_nonneg h]; exact ⟨by omega, by omega⟩
    · obtain ⟨m, rfl⟩ : ∃ m : Int, n = -m := ⟨-n, by omega⟩
      rw [Int.neg_tdiv, Int.tdiv_eq_ediv_of_nonneg (by omega)]; exact ⟨by omega, by omega⟩)
  have q2 : IntKind.i64.wrap (Int.tmod n 1000) = Int.tmod n 1000 := Go.IntWalk.i64_in _ (by
    rcases Int.le_total 0 n with h | h
    · rw [Int.tmod_eq_emod_of_nonneg h]; exact ⟨by omega, by omega⟩
    · obtain ⟨m, rfl⟩ : ∃ m : Int, n = -m := ⟨-n, by omega⟩
      rw [Int.neg_tmod, Int.tmod_eq_emod_of_nonneg (by omega)]; exact ⟨by omega, by omega⟩)
  have hn := np_nn n
  cases h1 : npB n
  · have HE : npE n = 0 := by rw [npE, h1]; rfl
    have HK : npK n = 0 := by rw [npK, h1]; rfl
    rw [HE, HK]
    rw [h1] at hn
    have hi : nnI (Int.tdiv n 1000) (Int.tmod n 1000) = 0 := by rw [nnI, hn]; rfl
    clear hr hw
    go_enter Try.func13, Try.ntmps13
    go_wp2_with fail
    refine (implNonceOf_any _ _ _).mono ?_
    rintro e w' ⟨rfl, rfl⟩
    rw [hn]
    go_wp2_with fail
    go_ret3
    exact ⟨rfl, rfl⟩
  · have HE : npE n = Int.tdiv n 1000 := by rw [npE, h1]; rfl
    have HK : npK n = Int.tmod n 1000 := by rw [npK, h1]; rfl
    rw [HE, HK]
    rw [h1] at hn
    clear hr hw
    go_enter Try.func13, Try.ntmps13
    go_wp2_with fail
    refine (implNonceOf_any _ _ _).mono ?_
    rintro e w' ⟨rfl, rfl⟩
    rw [hn]
    go_wp2_with fail
    go_ret3
    exact ⟨rfl, rfl⟩
end Go.Proofs.Ytlaladalnbdhpaa
