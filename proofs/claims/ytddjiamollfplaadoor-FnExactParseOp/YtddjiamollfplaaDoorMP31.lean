/- The words of what is told, in parts (the program). -/
import Derived.Test.YtddjiamollfplaaDoorMP18
import Derived.Test.YtddjiamollfplaaDoorMP26
namespace Go.Proofs.YtddjiamollfplaaDoor
open Go.RowKit
set_option linter.unusedVariables false
theorem strs_cell (w : World) (M : List ByteArray) : ∀ j u, (stR M)[j]? = some u → (w.alloc (.cells (stR M).toArray 9)).cell? ((⟨w.heap.size, 0, none⟩ : Addr).add j) = some u := by
 intro j u h
 rw [add_atX, Nat.zero_add]
 simpa using h
theorem srow_app (L M : List ByteArray) : stR (L ++ M) = stR L ++ stR M := by simp [stR]
end Go.Proofs.YtddjiamollfplaaDoor
