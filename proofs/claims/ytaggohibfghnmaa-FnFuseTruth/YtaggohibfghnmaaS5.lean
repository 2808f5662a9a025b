/- spec.JoinAll. -/
import Derived.Test.YtaggohibfghnmaaS3
import Derived.Deep.DeepCutAuto
import Derived.Deep.OwnRows
import Derived.Test.YtaggohibfghnmaaW4
import Derived.WalkKit
import Derived.WalkSpells
import Derived.WalkLawsBesides
import Derived.Deep.RegionHeld
namespace Go.Proofs.Ytaggohibfghnmaa
open Go.RowKit
set_option linter.unusedVariables false
theorem allOk_get {f : Nat → Int × Int} {n k : Nat} (h : allOk f n = true) (hk : k < n) : okI (f k).1 (f k).2 = true := by
  cases e : okI (f k).1 (f k).2
  · rw [allOk_no e n hk] at h; exact absurd h (by simp)
  · rfl
end Go.Proofs.Ytaggohibfghnmaa
