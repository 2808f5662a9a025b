/- Contracts of the functions of chapter 1 (intervals) in the specification and in the program, and the walks of its first exact laws. -/
import Derived.Test.YtddjiamollfplaaDoorRows
import Derived.WalkKit
import Derived.WalkSpells
import Derived.WalkLawsBesides
namespace Go.Proofs.YtddjiamollfplaaDoor
open Go.RowKit
set_option linter.unusedVariables false
theorem ret_int {k : IntKind} {a b : Int} (h : a = b) : Ending.returned (.int k a) = .returned (.int k b) := by rw [h]
theorem ret_bool {a b : Bool} (h : a = b) : Ending.returned (.bool a) = .returned (.bool b) := by rw [h]
theorem bcell {W w1 : World} (hb : Below W.heap.size W w1) : (∀ b o, b < W.heap.size → w1.cell? ⟨b, o, none⟩ = W.cell? ⟨b, o, none⟩) ∧ (∀ b o, b < W.heap.size → w1.frozen? ⟨b, o, none⟩ = W.frozen? ⟨b, o, none⟩) :=
  ⟨fun b o h => hb.cell (p := ⟨b, o, none⟩) h, fun b o h => hb.frozen (p := ⟨b, o, none⟩) h⟩
def okI (lo hi : Int) : Bool := decide (lo ≤ hi ∧ -1000000000000 ≤ lo ∧ hi ≤ 1000000000000)
theorem okI_t {lo hi : Int} (h : okI lo hi = true) : lo ≤ hi ∧ -1000000000000 ≤ lo ∧ hi ≤ 1000000000000 := of_decide_eq_true h
theorem okI_f {lo hi : Int} (h : okI lo hi = false) : ¬ (lo ≤ hi ∧ -1000000000000 ≤ lo ∧ hi ≤ 1000000000000) := of_decide_eq_false h
set_option maxHeartbeats 400000 in
theorem toIval_any (lo hi : Int) (w : World) :
    Calls Tryd.prog 40 #[.agg #[.int .i64 lo, .int .i64 hi]] w fun e w' => e = .returned (.agg #[.int .i64 lo, .int .i64 hi]) ∧ Below w.heap.size w w' := by
  go_enter Tryd.func40, Tryd.ntmps40
  go_wp2
  exact bodyPost_ret (v := .agg #[.int .i64 lo, .int .i64 hi]) (by simp [results, Tryd.results40, go_sem]) rfl ⟨rfl, by repeat (first | exact Below.refl _ _ | refine Below.drew ?_ | refine Below.alloc ?_ (by first | (simp; done) | (simp; omega) | omega) _ | refine Below.setCell ?_ (by first | (simp; done) | (simp; omega) | omega) _ | refine Below.trans ?_ (Below.mono (by assumption) (by first | (simp; done) | (simp; omega) | omega)))⟩
def wideI (lo hi : Int) : Int := if okI lo hi then hi - lo else -1
theorem wideI_t {lo hi : Int} (h : okI lo hi = true) : wideI lo hi = hi - lo := by simp [wideI, h]
theorem wideI_f {lo hi : Int} (h : okI lo hi = false) : wideI lo hi = -1 := by simp [wideI, h]
def holdsI (lo hi t : Int) : Bool := okI lo hi && decide (lo ≤ t ∧ t ≤ hi)
theorem holdsI_f {lo hi t : Int} (h : okI lo hi = false) : holdsI lo hi t = false := by simp [holdsI, h]
end Go.Proofs.YtddjiamollfplaaDoor
