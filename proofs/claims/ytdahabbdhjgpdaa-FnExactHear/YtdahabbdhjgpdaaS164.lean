/- HeardNow in the specification. -/
import Derived.Test.YtdahabbdhjgpdaaS163
import Derived.Deep.RegionHeld3
import Derived.Deep.DeepCutAuto
import Derived.WalkKit
import Derived.WalkSpells
import Derived.WalkLawsBesides
import Derived.Deep.RegionHeld
namespace Go.Proofs.Ytdahabbdhjgpdaa
open Go.RowKit
set_option linter.unusedVariables false
theorem own_baseI16 {w : World} {base base' s n : Nat} {T : TypeId} {v : Value} {xs : List Value} (h : w.ownsRow base' T s v n xs) (hb : base ≤ base') : w.ownsRow base T s v n xs := by
  refine ⟨h.1, ?_⟩
  rcases h.2 with q | ⟨g, cap, cur, h1, h2, h3⟩
  · exact .inl q
  · exact .inr ⟨g, cap, cur, h1, Nat.le_trans hb h2, h3⟩
theorem sub_w {x y : Int} (h1 : 0 ≤ y) (h2 : y ≤ x) (h3 : x ≤ 1000000000000) : IntKind.i64.wrap (x - y) = x - y ∧ wrap64 (x - y) = x - y := ⟨Go.IntWalk.i64_in _ ⟨by omega, by omega⟩, Go.IntWalk.wrap64_in _ ⟨by omega, by omega⟩⟩
/- Which slots are heard now, in the specification. -/
end Go.Proofs.Ytdahabbdhjgpdaa
