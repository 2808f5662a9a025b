/- The cursor of the draws: what l1Byte, l1Below, l1Once and l1PickInt leave. Contracts of the functions of chapter 1 (intervals) in the specification and in the program, and the walks of its first exact laws. Number forms: what the bytes of a number are; rows of bytes in memory. Rows of structs in memory; the text of a mark. Contracts of the helpers of chapter 1 (told intervals, least and greatest, meet and join). Contracts of the small functions of chapter 2 (drift) in the specification and in the program. -/
import Derived.Test.YtfhappkeipcemaaGreatRows
import Derived.WalkKit
import Derived.WalkSpells
import Derived.WalkLawsBesides
import Derived.Deep.QuietTactic
import Derived.BigQuiet
import Derived.Deep.OwnRows
import Derived.Deep.RegionHeld
import Derived.Laws.BytesArg
import Derived.Test.YtfhappkeipcemaaGreatM12
namespace Go.Proofs.YtfhappkeipcemaaGreat
open Go.RowKit
set_option linter.unusedVariables false
end Go.Proofs.YtfhappkeipcemaaGreat
namespace Go.Proofs.YtfhappkeipcemaaGreat
open Go.RowKit
set_option linter.unusedVariables false
end Go.Proofs.YtfhappkeipcemaaGreat
namespace Go.Proofs.YtfhappkeipcemaaGreat
open Go.RowKit
set_option linter.unusedVariables false
end Go.Proofs.YtfhappkeipcemaaGreat
namespace Go.Proofs.YtfhappkeipcemaaGreat
open Go.RowKit
set_option linter.unusedVariables false
end Go.Proofs.YtfhappkeipcemaaGreat
namespace Go.Proofs.YtfhappkeipcemaaGreat
open Go.RowKit
set_option linter.unusedVariables false
set_option maxHeartbeats 400000 in
theorem eqIval_same (lo hi : Int) (w : World) :
    Calls Tryz.prog 16 #[.agg #[.int .i64 lo, .int .i64 hi], .agg #[.int .i64 lo, .int .i64 hi]] w fun e w' => e = .returned (.bool true) ∧ Below w.heap.size w w' := by
  go_enter Tryz.func16, Tryz.ntmps16
  go_wp2
  go_ret
  exact ⟨rfl, by repeat (first | exact Below.refl _ _ | refine Below.drew ?_ | refine Below.alloc ?_ (by first | (simp; done) | (simp; omega) | omega) _ | refine Below.setCell ?_ (by first | (simp; done) | (simp; omega) | omega) _ | refine Below.trans ?_ (Below.mono (by assumption) (by first | (simp; done) | (simp; omega) | omega)))⟩
end Go.Proofs.YtfhappkeipcemaaGreat
namespace Go.Proofs.YtfhappkeipcemaaGreat
open Go.RowKit
set_option linter.unusedVariables false
end Go.Proofs.YtfhappkeipcemaaGreat
