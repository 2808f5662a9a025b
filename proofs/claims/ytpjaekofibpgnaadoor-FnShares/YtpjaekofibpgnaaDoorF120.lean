/- Errors of errors.New told apart by errors.Is. -/
import Derived.Test.YtpjaekofibpgnaaDoorW1
import Derived.LaidEql
import Derived.Stop.Asserts
import Derived.RowKitTokens
import Derived.Handy
import Derived.WalkKit
import Derived.WalkSpells
import Derived.WalkLawsBesides
import Derived.Deep.RegionHeld
namespace Go.Proofs.YtpjaekofibpgnaaDoor
open Go.RowKit
set_option linter.unusedVariables false
/- An error of errors.New's make in a package-level variable: the variable's cell, and that the error's own row is such as two of them can be told apart. -/
def Er (w : World) (g : Nat) (a : Addr) : Prop := w.cell? ⟨g, 0, none⟩ = some (.iface 94 (.pointer (some a))) ∧ g < w.heap.size ∧ a.block < w.heap.size ∧ ∃ c t, w.heap[a.block]? = some (.cells c t (0, 0))
theorem Er.belowB {w w' : World} {g B : Nat} {a : Addr} (h : Er w g a) (hb : Below B w w') (hB : w.heap.size ≤ B) : Er w' g a := by
  obtain ⟨h1, h2, h3, c, t, h4⟩ := h
  have hs := hb.size
  exact ⟨by rw [hb.cell (p := ⟨g, 0, none⟩) (by simp; omega)]; exact h1, by omega, by omega, c, t, by rw [hb.block _ (by omega)]; exact h4⟩
theorem Er.below {w w' : World} {g : Nat} {a : Addr} (h : Er w g a) (hb : Below w.heap.size w w') : Er w' g a := h.belowB hb (Nat.le_refl _)
theorem Er.alloc {w : World} {g : Nat} {a : Addr} (h : Er w g a) (o : Obj) : Er (w.alloc o) g a := h.below ((Below.refl _ _).alloc (Nat.le_refl _) _)
theorem Er.drew {w : World} {g : Nat} {a : Addr} (h : Er w g a) : Er w.drew g a := h
theorem errComp : (Tryd.prog.info? 94).map (·.comparable) = some true := by kernel_rfl
theorem errSize : (Tryd.prog.info? 119).map (·.size) = some 1 := by kernel_rfl
theorem errType (v : Value) (w : World) : (callFunc 48 #[.iface 94 v]).run Tryd.prog w = .ok (.value (.iface 84 (.agg #[.pointer (some ⟨1, 94, none⟩)]))) w := by kernel_rfl
theorem errCan (w : World) : (callFunc 70 #[.agg #[.pointer (some ⟨1, 94, none⟩)]]).run Tryd.prog w = .ok (.value (.bool true)) w := by kernel_rfl
theorem errMeth (v : Value) (w : World) : (Go.method 132 84 v "Comparable").run Tryd.prog w = .ok (70, v) w := by kernel_rfl
theorem errNoIs (v : Value) (xT : TypeId) (w : World) : (Instr.typeAssert (.iface 94 v) xT 86 true).run Tryd.prog w = .ok (.tuple #[.nilIface, .bool false]) w := run_typeAssert_lacksB Tryd.underlying86 (by kernel_rfl) (by kernel_rfl) v xT w
theorem errNoWrap (v : Value) (xT : TypeId) (w : World) : (Instr.typeAssert (.iface 94 v) xT 89 true).run Tryd.prog w = .ok (.tuple #[.nilIface, .bool false]) w := run_typeAssert_lacksB Tryd.underlying89 (by kernel_rfl) (by kernel_rfl) v xT w
theorem errNoWraps (v : Value) (xT : TypeId) (w : World) : (Instr.typeAssert (.iface 94 v) xT 91 true).run Tryd.prog w = .ok (.tuple #[.nilIface, .bool false]) w := run_typeAssert_lacksB Tryd.underlying91 (by kernel_rfl) (by kernel_rfl) v xT w
theorem is_same (a : Addr) (w : World) : Calls Tryd.prog 38 #[.iface 94 (.pointer (some a)), .iface 94 (.pointer (some a))] w fun e w' => e = .returned (.bool true) ∧ w' = w := by
  obtain ⟨i, hi, hcmp⟩ := Option.map_eq_some_iff.1 errComp
  obtain ⟨j, hj, hjs⟩ := Option.map_eq_some_iff.1 errSize
  have tT := errType; have cT := errCan; have mR := errMeth
  have heq := run_eql_iface_ptr_same (P := Tryd.prog) w a Tryd.underlying68 Tryd.underlying94 hi hcmp hj
  go_enter Tryd.func38, Tryd.ntmps38
  go_wp2
  refine wp_loop_rounds 1 ?_
  rw [rounds_succ]
  go_wp2
  go_ret
  exact ⟨rfl, rfl⟩
theorem is_nil (b : Addr) (w : World) : Calls Tryd.prog 38 #[.nilIface, .iface 94 (.pointer (some b))] w fun e w' => e = .returned (.bool false) ∧ w' = w := by
  have hn := run_eql_iface_nil_left (P := Tryd.prog) w 94 (.pointer (some b)) Tryd.underlying68
  go_enter Tryd.func38, Tryd.ntmps38
  go_wp2
  go_ret
  exact ⟨rfl, rfl⟩
theorem is_other (a b : Addr) (w : World) (hne : a ≠ b) (ha : ∃ c t, w.heap[a.block]? = some (.cells c t (0, 0))) (hb : ∃ c t, w.heap[b.block]? = some (.cells c t (0, 0))) : Calls Tryd.prog 38 #[.iface 94 (.pointer (some a)), .iface 94 (.pointer (some b))] w fun e w' => e = .returned (.bool false) ∧ w' = w := by
  obtain ⟨ca, ta, ha⟩ := ha
  obtain ⟨cb, tb, hb⟩ := hb
  obtain ⟨i, hi, hcmp⟩ := Option.map_eq_some_iff.1 errComp
  obtain ⟨j, hj, hjs⟩ := Option.map_eq_some_iff.1 errSize
  have tT := errType; have cT := errCan; have mR := errMeth
  have nE := errNoIs
  have uE := errNoWrap
  have vE := errNoWraps
  have heq := run_eql_iface_ptr_other (P := Tryd.prog) w Tryd.underlying68 Tryd.underlying94 hi hcmp hj (by rw [hjs]; decide) hne ha hb
  go_enter Tryd.func38, Tryd.ntmps38
  go_wp2
  refine wp_loop_rounds 1 ?_
  rw [rounds_succ]
  go_wp2
  go_ret
  exact ⟨rfl, rfl⟩
end Go.Proofs.YtpjaekofibpgnaaDoor
