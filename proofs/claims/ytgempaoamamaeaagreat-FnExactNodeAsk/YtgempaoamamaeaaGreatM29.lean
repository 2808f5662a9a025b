/- All cells of a new struct written at once. -/
import Derived.Test.YtgempaoamamaeaaGreatM20
namespace Go.Proofs.YtgempaoamamaeaaGreat
open Go.RowKit
set_option linter.unusedVariables false
theorem putA_past (o : Obj) (k : Nat) : ∀ (us : List Value) (w : World) (i : Nat), k < w.heap.size → putA (w.alloc o) k i us = (putA w k i us).alloc o
  | [], _, _, _ => rfl
  | u :: us, w, i, h => by
    rw [putA, World.setCell_alloc_past _ _ _ _ h, putA_past o k us _ (i + 1) (by simpa using h)]
    rfl
theorem storeNew2 {P : Program} (w : World) (Z U : Array Value) (T : TypeId) (o : Obj) (hz : U.size = Z.size) (hu : ∀ u ∈ U.toList, u.oneCell' = true) :
    (storeCells ⟨w.heap.size, 0, none⟩ U.toList).run P ((w.alloc (.cells Z T)).alloc o) = .ok () ((w.alloc (.cells U T)).alloc o) := by
  have hb : Bo ((w.alloc (.cells Z T)).alloc o) w.heap.size Z := (Bo.new w Z T).below (Below.nw _ o)
  rw [Bo.store (P := P) U.toList 0 0 hb rfl (by simp; omega) hu, putA_past _ _ _ _ _ (by simp), putA_new, spl_whole Z U hz]
end Go.Proofs.YtgempaoamamaeaaGreat
