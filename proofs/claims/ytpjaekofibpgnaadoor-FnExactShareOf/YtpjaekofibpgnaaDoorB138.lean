/- OwnersOf in the specification. -/
import Derived.Test.YtpjaekofibpgnaaDoorB133
import Derived.Test.YtpjaekofibpgnaaDoorI106
import Derived.Deep.RegionHeld3
import Derived.WalkKit
import Derived.WalkSpells
import Derived.WalkLawsBesides
import Derived.Deep.RegionHeld
namespace Go.Proofs.YtpjaekofibpgnaaDoor
open Go.RowKit
set_option linter.unusedVariables false
theorem own_baseI {w : World} {base base' s n : Nat} {T : TypeId} {v : Value} {xs : List Value} (h : w.ownsRow base' T s v n xs) (hb : base ≤ base') : w.ownsRow base T s v n xs := by
  refine ⟨h.1, ?_⟩
  rcases h.2 with q | ⟨g, cap, cur, h1, h2, h3⟩
  · exact .inl q
  · exact .inr ⟨g, cap, cur, h1, Nat.le_trans hb h2, h3⟩
/- The owners of a plan, in the specification. -/
theorem hasO_yes {M : Nat → SlT} {o : Int} {j : Nat} (h : hasO M o j = true) : hasO M o (j + 1) = true := by rw [hasO, h]; rfl
theorem hasO_at {M : Nat → SlT} {o : Int} {j : Nat} (h : hasO M o j = false) : hasO M o (j + 1) = ((M j).1 == o) := by rw [hasO, h]; rfl
theorem owL_yes {M : Nat → SlT} {n q : Nat} (h : hasO M (q : Int) n = true) : owL M n (q + 1) = owL M n q ++ [(q : Int)] := by rw [owL, h]
theorem owL_no {M : Nat → SlT} {n q : Nat} (h : hasO M (q : Int) n = false) : owL M n (q + 1) = owL M n q := by rw [owL, h]
end Go.Proofs.YtpjaekofibpgnaaDoor
