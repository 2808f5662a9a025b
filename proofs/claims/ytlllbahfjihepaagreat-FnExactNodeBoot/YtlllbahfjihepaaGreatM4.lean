/- Contracts of Fold and Unfold, and the walks of their exact laws. Contracts of MsgOk. Flights: contracts of what asks whether one is right; what the laws make of one. NonceOf and NonceParts: contracts, and the walks of their exact laws. -/
import Derived.WalkKit
import Derived.WalkSpells
import Derived.WalkLawsBesides
import Derived.Deep.RegionHeld
import Derived.Test.YtlllbahfjihepaaGreatM1
import Derived.Test.YtlllbahfjihepaaGreatM2
namespace Go.Proofs.YtlllbahfjihepaaGreat
open Go.RowKit
set_option linter.unusedVariables false
set_option maxHeartbeats 400000 in
theorem l1In_any (x l h : Int) (w : World) :
    Calls Tryz.prog 73 #[.int .i64 x, .int .i64 l, .int .i64 h] w fun e w' => e = .returned (.bool (decide (l ≤ x ∧ x ≤ h))) ∧ w = w' := by
  go_enter Tryz.func73, Tryz.ntmps73
  go_wp2
  all_goals go_ret
  all_goals exact ⟨ret_bool (by rw [Bool.eq_iff_iff]; simp; try omega), rfl⟩
end Go.Proofs.YtlllbahfjihepaaGreat
namespace Go.Proofs.YtlllbahfjihepaaGreat
open Go.RowKit
set_option linter.unusedVariables false
def nodB (n : Int) : Bool := decide (0 ≤ n ∧ n ≤ 7)
set_option maxHeartbeats 400000 in
theorem isNode_any (n : Int) (w : World) :
    Calls Tryz.prog 79 #[.int .i64 n] w fun e w' => e = .returned (.bool (nodB n)) ∧ w = w' := by
  go_enter Tryz.func79, Tryz.ntmps79
  go_wp2
  all_goals go_ret
  all_goals exact ⟨ret_bool (by rw [Bool.eq_iff_iff]; simp [nodB]; try omega), rfl⟩
set_option maxHeartbeats 400000 in
theorem l4Node_any (n : Int) (w : World) :
    Calls Tryz.prog 48 #[.int .i64 n] w fun e w' => e = .returned (.bool (nodB n)) ∧ w = w' := by
  go_enter Tryz.func48, Tryz.ntmps48
  go_wp2_with (first | (go_at_call 73; refine (l1In_any _ _ _ _).mono ?_; rintro e w' ⟨rfl, rfl⟩))
  go_ret
  exact ⟨ret_bool (by simp [nodB]), rfl⟩
def Box8 (w : World) (j : Nat) (k fr tuu no lo hi sl : Int) (s : ByteArray) : Prop := j < w.heap.size ∧ w.cell? ⟨j, 0, none⟩ = some (.int .i64 k) ∧ w.cell? ⟨j, 1, none⟩ = some (.int .i64 fr) ∧ w.cell? ⟨j, 2, none⟩ = some (.int .i64 tuu) ∧ w.cell? ⟨j, 3, none⟩ = some (.int .i64 no) ∧ w.cell? ⟨j, 4, none⟩ = some (.int .i64 lo) ∧ w.cell? ⟨j, 5, none⟩ = some (.int .i64 hi) ∧ w.cell? ⟨j, 6, none⟩ = some (.int .i64 sl) ∧ w.cell? ⟨j, 7, none⟩ = some (.string s)
theorem Box8.belowB {j B : Nat} {w w' : World} {k fr tuu no lo hi sl : Int} {s : ByteArray} (h : Box8 w j k fr tuu no lo hi sl s) (hw : Below B w w') (hk : j < B) : Box8 w' j k fr tuu no lo hi sl s := by
  obtain ⟨h0, h1, h2, h3, h4, h5, h6, h7, h8⟩ := h
  exact ⟨Nat.lt_of_lt_of_le h0 hw.size, by rw [hw.cell (p := ⟨j, 0, none⟩) hk]; exact h1, by rw [hw.cell (p := ⟨j, 1, none⟩) hk]; exact h2, by rw [hw.cell (p := ⟨j, 2, none⟩) hk]; exact h3, by rw [hw.cell (p := ⟨j, 3, none⟩) hk]; exact h4, by rw [hw.cell (p := ⟨j, 4, none⟩) hk]; exact h5, by rw [hw.cell (p := ⟨j, 5, none⟩) hk]; exact h6, by rw [hw.cell (p := ⟨j, 6, none⟩) hk]; exact h7, by rw [hw.cell (p := ⟨j, 7, none⟩) hk]; exact h8⟩
theorem Box8.below {j : Nat} {w w' : World} {k fr tuu no lo hi sl : Int} {s : ByteArray} (h : Box8 w j k fr tuu no lo hi sl s) (hw : Below w.heap.size w w') : Box8 w' j k fr tuu no lo hi sl s := h.belowB hw h.1
theorem Box8.new (w : World) (k fr tuu no lo hi sl : Int) (s : ByteArray) (T : TypeId) : Box8 (w.alloc (.cells #[.int .i64 k, .int .i64 fr, .int .i64 tuu, .int .i64 no, .int .i64 lo, .int .i64 hi, .int .i64 sl, .string s] T)) w.heap.size k fr tuu no lo hi sl s := ⟨by simp, by simp, by simp, by simp, by simp, by simp, by simp, by simp, by simp⟩
end Go.Proofs.YtlllbahfjihepaaGreat
namespace Go.Proofs.YtlllbahfjihepaaGreat
open Go.RowKit
set_option linter.unusedVariables false
def tmB (t : Int) : Bool := decide (0 ≤ t ∧ t ≤ 1000000000000)
set_option maxHeartbeats 400000 in
theorem isTime_any5 (n : Int) (w : World) :
    Calls Tryz.prog 84 #[.int .i64 n] w fun e w' => e = .returned (.bool (tmB n)) ∧ w = w' := by
  go_enter Tryz.func84, Tryz.ntmps84
  go_wp2
  all_goals go_ret
  all_goals exact ⟨ret_bool (by rw [Bool.eq_iff_iff]; simp [tmB]; try omega), rfl⟩
set_option maxHeartbeats 400000 in
theorem l2Time_any5 (n : Int) (w : World) :
    Calls Tryz.prog 76 #[.int .i64 n] w fun e w' => e = .returned (.bool (tmB n)) ∧ w = w' := by
  go_enter Tryz.func76, Tryz.ntmps76
  go_wp2_with (first | (go_at_call 73; refine (l1In_any _ _ _ _).mono ?_; rintro e w' ⟨rfl, rfl⟩))
  go_ret
  exact ⟨ret_bool (by simp [tmB]), rfl⟩
def Box5 (w : World) (j : Nat) (x0 x1 x2 : Int) (x3 : ByteArray) (x4 : Int) : Prop := j < w.heap.size ∧ w.cell? ⟨j, 0, none⟩ = some (.int .i64 x0) ∧ w.cell? ⟨j, 1, none⟩ = some (.int .i64 x1) ∧ w.cell? ⟨j, 2, none⟩ = some (.int .i64 x2) ∧ w.cell? ⟨j, 3, none⟩ = some (.string x3) ∧ w.cell? ⟨j, 4, none⟩ = some (.int .i64 x4)
theorem Box5.belowB {j B : Nat} {w w' : World} {x0 x1 x2 : Int} {x3 : ByteArray} {x4 : Int} (h : Box5 w j x0 x1 x2 x3 x4) (hw : Below B w w') (hk : j < B) : Box5 w' j x0 x1 x2 x3 x4 := by
  obtain ⟨h0, h1, h2, h3, h4, h5⟩ := h
  exact ⟨Nat.lt_of_lt_of_le h0 hw.size, by rw [hw.cell (p := ⟨j, 0, none⟩) hk]; exact h1, by rw [hw.cell (p := ⟨j, 1, none⟩) hk]; exact h2, by rw [hw.cell (p := ⟨j, 2, none⟩) hk]; exact h3, by rw [hw.cell (p := ⟨j, 3, none⟩) hk]; exact h4, by rw [hw.cell (p := ⟨j, 4, none⟩) hk]; exact h5⟩
theorem Box5.below {j : Nat} {w w' : World} {x0 x1 x2 : Int} {x3 : ByteArray} {x4 : Int} (h : Box5 w j x0 x1 x2 x3 x4) (hw : Below w.heap.size w w') : Box5 w' j x0 x1 x2 x3 x4 := h.belowB hw h.1
theorem Box5.new (w : World) (x0 x1 x2 : Int) (x3 : ByteArray) (x4 : Int) (T : TypeId) : Box5 (w.alloc (.cells #[.int .i64 x0, .int .i64 x1, .int .i64 x2, .string x3, .int .i64 x4] T)) w.heap.size x0 x1 x2 x3 x4 := ⟨by simp, by simp, by simp, by simp, by simp, by simp⟩
end Go.Proofs.YtlllbahfjihepaaGreat
namespace Go.Proofs.YtlllbahfjihepaaGreat
open Go.RowKit
set_option linter.unusedVariables false
def epB (e : Int) : Bool := decide (0 ≤ e ∧ e ≤ 100000)
def kB (k : Int) : Bool := decide (0 ≤ k ∧ k ≤ 999)
def nnB (e k : Int) : Bool := epB e && kB k
def nnI (e k : Int) : Int := bif nnB e k then e * 1000 + k else 0
def npB (n : Int) : Bool := decide (0 ≤ n ∧ n ≤ 100000999)
def npE (n : Int) : Int := bif npB n then Int.tdiv n 1000 else 0
def npK (n : Int) : Int := bif npB n then Int.tmod n 1000 else 0
theorem np_nn (n : Int) : nnB (Int.tdiv n 1000) (Int.tmod n 1000) = npB n := by
  rw [Bool.eq_iff_iff]
  simp only [nnB, epB, kB, npB, Bool.and_eq_true, decide_eq_true_eq]
  rcases Int.le_total 0 n with h | h
  · rw [Int.tdiv_eq_ediv_of_nonneg h, Int.tmod_eq_emod_of_nonneg h]; omega
  · obtain ⟨m, rfl⟩ : ∃ m : Int, n = -m := ⟨-n, by omega⟩
    rw [Int.neg_tdiv, Int.neg_tmod, Int.tdiv_eq_ediv_of_nonneg (by omega), Int.tmod_eq_emod_of_nonneg (by omega)]; omega
set_option maxHeartbeats 400000 in
theorem isEpoch_any (n : Int) (w : World) :
    Calls Tryz.prog 100 #[.int .i64 n] w fun e w' => e = .returned (.bool (epB n)) ∧ w = w' := by
  go_enter Tryz.func100, Tryz.ntmps100
  go_wp2
  all_goals go_ret
  all_goals exact ⟨ret_bool (by rw [Bool.eq_iff_iff]; simp [epB]; try omega), rfl⟩
set_option maxHeartbeats 1000000 in
theorem implNonceOf_any (a k : Int) (w : World) :
    Calls Tryz.prog 106 #[.int .i64 a, .int .i64 k] w fun e w' => e = .returned (.tuple #[.int .i64 (nnI a k), .bool (nnB a k)]) ∧ w = w' := by
  cases h1 : epB a
  · have HB : nnB a k = false := by rw [nnB, h1]; rfl
    have HI : nnI a k = 0 := by rw [nnI, HB]; rfl
    rw [HB, HI]
    go_enter Tryz.func106, Tryz.ntmps106
    go_wp2_with fail
    refine (isEpoch_any _ _).mono ?_
    rintro e w' ⟨rfl, rfl⟩
    rw [h1]
    go_wp2_with fail
    go_ret2
    exact ⟨rfl, rfl⟩
  · by_cases h3 : k < 0
    · have h2 : kB k = false := by simp [kB]; omega
      have HB : nnB a k = false := by rw [nnB, h2, Bool.and_false]
      have HI : nnI a k = 0 := by rw [nnI, HB]; rfl
      rw [HB, HI]
      go_enter Tryz.func106, Tryz.ntmps106
      go_wp2_with fail
      refine (isEpoch_any _ _).mono ?_
      rintro e w' ⟨rfl, rfl⟩
      rw [h1]
      go_wp2_with fail
      go_ret2
      exact ⟨rfl, rfl⟩
    · by_cases h4 : 1000 ≤ k
      · have h2 : kB k = false := by simp [kB]; omega
        have HB : nnB a k = false := by rw [nnB, h2, Bool.and_false]
        have HI : nnI a k = 0 := by rw [nnI, HB]; rfl
        rw [HB, HI]
        go_enter Tryz.func106, Tryz.ntmps106
        go_wp2_with fail
        refine (isEpoch_any _ _).mono ?_
        rintro e w' ⟨rfl, rfl⟩
        rw [h1]
        go_wp2_with fail
        go_ret2
        exact ⟨rfl, rfl⟩
      · have h2 : kB k = true := by simp [kB]; omega
        have HB : nnB a k = true := by rw [nnB, h1, h2]; rfl
        have HI : nnI a k = a * 1000 + k := by rw [nnI, HB]; rfl
        rw [HB, HI]
        have g1 : 0 ≤ a ∧ a ≤ 100000 := of_decide_eq_true h1
        have q1 : IntKind.i64.wrap (a * 1000) = a * 1000 := Go.IntWalk.i64_in _ ⟨by omega, by omega⟩
        have q2 : IntKind.i64.wrap (a * 1000 + k) = a * 1000 + k := Go.IntWalk.i64_in _ ⟨by omega, by omega⟩
        clear g1
        go_enter Tryz.func106, Tryz.ntmps106
        go_wp2_with fail
        refine (isEpoch_any _ _).mono ?_
        rintro e w' ⟨rfl, rfl⟩
        rw [h1]
        go_wp2_with fail
        go_ret2
        exact ⟨rfl, rfl⟩
set_option maxHeartbeats 1000000 in
theorem specNonceParts_any (n : Int) (w : World) :
    Calls Tryz.prog 93 #[.int .i64 n] w fun e w' => e = .returned (.tuple #[.int .i64 (npE n), .int .i64 (npK n), .bool (npB n)]) ∧ w = w' := by
  cases h1 : npB n
  · have HE : npE n = 0 := by rw [npE, h1]; rfl
    have HK : npK n = 0 := by rw [npK, h1]; rfl
    rw [HE, HK]
    unfold npB at h1
    go_enter Tryz.func93, Tryz.ntmps93
    go_wp2_with fail
    refine (l1In_any _ _ _ _).mono ?_
    rintro e w' ⟨rfl, rfl⟩
    rw [h1]
    go_wp2_with fail
    go_ret3
    exact ⟨rfl, rfl⟩
  · have HE : npE n = Int.tdiv n 1000 := by rw [npE, h1]; rfl
    have HK : npK n = Int.tmod n 1000 := by rw [npK, h1]; rfl
    rw [HE, HK]
    unfold npB at h1
    have g := of_decide_eq_true h1
    have q1 : IntKind.i64.wrap (Int.tdiv n 1000) = Int.tdiv n 1000 := by rw [Int.tdiv_eq_ediv_of_nonneg g.1]; exact Go.IntWalk.i64_in _ ⟨by omega, by omega⟩
    have q2 : IntKind.i64.wrap (Int.tmod n 1000) = Int.tmod n 1000 := by rw [Int.tmod_eq_emod_of_nonneg g.1]; exact Go.IntWalk.i64_in _ ⟨by omega, by omega⟩
    clear g
    go_enter Tryz.func93, Tryz.ntmps93
    go_wp2_with fail
    refine (l1In_any _ _ _ _).mono ?_
    rintro e w' ⟨rfl, rfl⟩
    rw [h1]
    go_wp2_with fail
    go_ret3
    exact ⟨rfl, rfl⟩
set_option maxHeartbeats 1000000 in
theorem implNonceParts_any (n : Int) (w : World) (hw : (Lit.int .i64 n).wf = true) :
    Calls Tryz.prog 103 #[.int .i64 n] w fun e w' => e = .returned (.tuple #[.int .i64 (npE n), .int .i64 (npK n), .bool (npB n)]) ∧ w = w' := by
  have hr : -9223372036854775808 ≤ n ∧ n ≤ 9223372036854775807 := by simp only [Lit.wf, Bool.and_eq_true, decide_eq_true_eq] at hw; exact hw
  have q1 : IntKind.i64.wrap (Int.tdiv n 1000) = Int.tdiv n 1000 := Go.IntWalk.i64_in _ (by
    rcases Int.le_total 0 n with h | h
    · rw [Int.tdiv_eq_ediv_of_nonneg h]; exact ⟨by omega, by omega⟩
    · obtain ⟨m, rfl⟩ : ∃ m : Int, n = -m := ⟨-n, by omega⟩
      rw [Int.neg_tdiv, Int.tdiv_eq_ediv_of_nonneg (by omega)]; exact ⟨by omega, by omega⟩)
  have q2 : IntKind.i64.wrap (Int.tmod n 1000) = Int.tmod n 1000 := Go.IntWalk.i64_in _ (by
    rcases Int.le_total 0 n with h | h
    · rw [Int.tmod_eq_emod_of_nonneg h]; exact ⟨by omega, by omega⟩
    · obtain ⟨m, rfl⟩ : ∃ m : Int, n = -m := ⟨-n, by omega⟩
      rw [Int.neg_tmod, Int.tmod_eq_emod_of_nonneg (by omega)]; exact ⟨by omega, by omega⟩)
  have hn := np_nn n
  cases h1 : npB n
  · have HE : npE n = 0 := by rw [npE, h1]; rfl
    have HK : npK n = 0 := by rw [npK, h1]; rfl
    rw [HE, HK]
    rw [h1] at hn
    have hi : nnI (Int.tdiv n 1000) (Int.tmod n 1000) = 0 := by rw [nnI, hn]; rfl
    clear hr hw
    go_enter Tryz.func103, Tryz.ntmps103
    go_wp2_with fail
    refine (implNonceOf_any _ _ _).mono ?_
    rintro e w' ⟨rfl, rfl⟩
    rw [hn]
    go_wp2_with fail
    go_ret3
    exact ⟨rfl, rfl⟩
  · have HE : npE n = Int.tdiv n 1000 := by rw [npE, h1]; rfl
    have HK : npK n = Int.tmod n 1000 := by rw [npK, h1]; rfl
    rw [HE, HK]
    rw [h1] at hn
    clear hr hw
    go_enter Tryz.func103, Tryz.ntmps103
    go_wp2_with fail
    refine (implNonceOf_any _ _ _).mono ?_
    rintro e w' ⟨rfl, rfl⟩
    rw [hn]
    go_wp2_with fail
    go_ret3
    exact ⟨rfl, rfl⟩
end Go.Proofs.YtlllbahfjihepaaGreat
