/- The contract of spec.MsgOk. -/
import Derived.Test.YtddjiamollfplaaDoorG8
import Derived.WalkKit
import Derived.WalkSpells
import Derived.WalkLawsBesides
import Derived.Deep.RegionHeld
namespace Go.Proofs.YtddjiamollfplaaDoor
open Go.RowKit
set_option linter.unusedVariables false
theorem emp_size {s : ByteArray} (h : s.toList = []) : s.size = 0 := by
  rw [ByteArray.toList_eq] at h
  cases s with
  | mk d => simp at h; subst h; rfl
theorem msg_long {k fr to no lo hi sl : Int} {s : ByteArray} (h : ¬ s.size ≤ 24) : msgB k fr to no lo hi sl s = false := by
  have h0 : ¬ s.toList = [] := fun e => h (by rw [emp_size e]; omega)
  simp [msgB, emp, h0, h]
theorem msg_from {k fr to no lo hi sl : Int} {s : ByteArray} (h : nodB fr = false) : msgB k fr to no lo hi sl s = false := by
  simp [msgB, adB, h]
end Go.Proofs.YtddjiamollfplaaDoor
