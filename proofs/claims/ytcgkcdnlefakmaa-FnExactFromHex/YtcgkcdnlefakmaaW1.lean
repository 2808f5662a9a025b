/- Contracts of the functions of chapter 1 (intervals) in the specification and in the program, and the walks of its first exact laws. -/
import Derived.Test.YtcgkcdnlefakmaaRows
import Derived.WalkKit
import Derived.WalkSpells
import Derived.WalkLawsBesides
namespace Go.Proofs.Ytcgkcdnlefakmaa
open Go.RowKit
set_option linter.unusedVariables false
theorem ret_int {k : IntKind} {a b : Int} (h : a = b) : Ending.returned (.int k a) = .returned (.int k b) := by rw [h]
theorem ret_bool {a b : Bool} (h : a = b) : Ending.returned (.bool a) = .returned (.bool b) := by rw [h]
theorem bcell {W w1 : World} (hb : Below W.heap.size W w1) : (∀ b o, b < W.heap.size → w1.cell? ⟨b, o, none⟩ = W.cell? ⟨b, o, none⟩) ∧ (∀ b o, b < W.heap.size → w1.frozen? ⟨b, o, none⟩ = W.frozen? ⟨b, o, none⟩) :=
  ⟨fun b o h => hb.cell (p := ⟨b, o, none⟩) h, fun b o h => hb.frozen (p := ⟨b, o, none⟩) h⟩
def okI (lo hi : Int) : Bool := decide (lo ≤ hi ∧ -1000000000000 ≤ lo ∧ hi ≤ 1000000000000)
theorem okI_t {lo hi : Int} (h : okI lo hi = true) : lo ≤ hi ∧ -1000000000000 ≤ lo ∧ hi ≤ 1000000000000 := of_decide_eq_true h
theorem okI_f {lo hi : Int} (h : okI lo hi = false) : ¬ (lo ≤ hi ∧ -1000000000000 ≤ lo ∧ hi ≤ 1000000000000) := of_decide_eq_false h
def wideI (lo hi : Int) : Int := if okI lo hi then hi - lo else -1
theorem wideI_t {lo hi : Int} (h : okI lo hi = true) : wideI lo hi = hi - lo := by simp [wideI, h]
theorem wideI_f {lo hi : Int} (h : okI lo hi = false) : wideI lo hi = -1 := by simp [wideI, h]
def holdsI (lo hi t : Int) : Bool := okI lo hi && decide (lo ≤ t ∧ t ≤ hi)
theorem holdsI_f {lo hi t : Int} (h : okI lo hi = false) : holdsI lo hi t = false := by simp [holdsI, h]
end Go.Proofs.Ytcgkcdnlefakmaa
