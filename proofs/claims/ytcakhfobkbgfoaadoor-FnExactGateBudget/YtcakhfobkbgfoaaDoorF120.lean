/- Errors of errors.New told apart by errors.Is. -/
import Derived.Test.YtcakhfobkbgfoaaDoorW1
import Derived.LaidEql
import Derived.Stop.Asserts
import Derived.RowKitTokens
import Derived.Handy
import Derived.WalkKit
import Derived.WalkSpells
import Derived.WalkLawsBesides
import Derived.Deep.RegionHeld
namespace Go.Proofs.YtcakhfobkbgfoaaDoor
open Go.RowKit
set_option linter.unusedVariables false
/- An error of errors.New's make in a package-level variable: the variable's cell, and that the error's own row is such as two of them can be told apart. -/
def Er (w : World) (g : Nat) (a : Addr) : Prop := w.cell? ⟨g, 0, none⟩ = some (.iface 169 (.pointer (some a))) ∧ g < w.heap.size ∧ a.block < w.heap.size ∧ ∃ c t, w.heap[a.block]? = some (.cells c t (0, 0))
theorem Er.belowB {w w' : World} {g B : Nat} {a : Addr} (h : Er w g a) (hb : Below B w w') (hB : w.heap.size ≤ B) : Er w' g a := by
  obtain ⟨h1, h2, h3, c, t, h4⟩ := h
  have hs := hb.size
  exact ⟨by rw [hb.cell (p := ⟨g, 0, none⟩) (by simp; omega)]; exact h1, by omega, by omega, c, t, by rw [hb.block _ (by omega)]; exact h4⟩
theorem Er.below {w w' : World} {g : Nat} {a : Addr} (h : Er w g a) (hb : Below w.heap.size w w') : Er w' g a := h.belowB hb (Nat.le_refl _)
theorem Er.alloc {w : World} {g : Nat} {a : Addr} (h : Er w g a) (o : Obj) : Er (w.alloc o) g a := h.below ((Below.refl _ _).alloc (Nat.le_refl _) _)
theorem Er.drew {w : World} {g : Nat} {a : Addr} (h : Er w g a) : Er w.drew g a := h
theorem errComp : (Tryd.prog.info? 169).map (·.comparable) = some true := by kernel_rfl
theorem errSize : (Tryd.prog.info? 190).map (·.size) = some 1 := by kernel_rfl
theorem errType (v : Value) (w : World) : (callFunc 106 #[.iface 169 v]).run Tryd.prog w = .ok (.value (.iface 151 (.agg #[.pointer (some ⟨9, 169, none⟩)]))) w := by kernel_rfl
theorem errCan (w : World) : (callFunc 145 #[.agg #[.pointer (some ⟨9, 169, none⟩)]]).run Tryd.prog w = .ok (.value (.bool true)) w := by kernel_rfl
theorem errMeth (v : Value) (w : World) : (Go.method 203 151 v "Comparable").run Tryd.prog w = .ok (145, v) w := by kernel_rfl
theorem errNoWrap (v : Value) (xT : TypeId) (w : World) : (Instr.typeAssert (.iface 169 v) xT 159 true).run Tryd.prog w = .ok (.tuple #[.nilIface, .bool false]) w := run_typeAssert_lacksB Tryd.underlying159 (by kernel_rfl) (by kernel_rfl) v xT w
theorem errNoWraps (v : Value) (xT : TypeId) (w : World) : (Instr.typeAssert (.iface 169 v) xT 160 true).run Tryd.prog w = .ok (.tuple #[.nilIface, .bool false]) w := run_typeAssert_lacksB Tryd.underlying160 (by kernel_rfl) (by kernel_rfl) v xT w
end Go.Proofs.YtcakhfobkbgfoaaDoor
