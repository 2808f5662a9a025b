/- errors.As where the error is of the asked type, or none. GateBudget in the specification. The longest slot of an owner, and GateBudget in the program. GateAsk in the program: the refusal is asked for by errors.As. What the draws leave: times, intervals, the new cursor. What the draws leave: times, intervals, the new cursor. A struct of two ints in a block: what keeps it. What the draws of chapter 2 leave: a drift, a count. Numbers of occurrences. Numbers of the gate. An append of one element to a row of ones own. OwnersOf in the specification. PlanMoved in the specification. -/
import Derived.Test.YtcakhfobkbgfoaaGreatDoorMC1
import Derived.Test.YtcakhfobkbgfoaaGreatDoorMC2
import Derived.WalkKit
import Derived.LaidEql
import Derived.Stop.Asserts
import Derived.RowKitTokens
import Derived.Test.YtcakhfobkbgfoaaGreatDoorMC3
import Derived.WalkSpells
import Derived.WalkLawsBesides
import Derived.Deep.RegionHeld
import Derived.Test.YtcakhfobkbgfoaaGreatDoorMC4
import Derived.Deep.RegionHeld3
import Derived.Deep.DeepCutAuto
import Derived.Test.YtcakhfobkbgfoaaGreatDoorMC5
import Derived.Deep.QuietTactic
import Derived.BigQuiet
import Derived.Deep.DeepAppendRoom
namespace Go.Proofs.YtcakhfobkbgfoaaGreatDoor
open Go.RowKit Go.Extern.Stop Go.Stop Go.Extern
set_option linter.unusedVariables false
/- errors.As: of nil; where the error's own type is the target's. -/
theorem as_nil (t : Value) (w : World) : Calls Tryz.prog 36 #[.nilIface, t] w fun e w' => e = .returned (.bool false) ∧ w' = w := by
  go_enter Tryz.func36, Tryz.ntmps36
  go_wp2
  go_ret
  exact ⟨rfl, rfl⟩
/- What the library's look at types tells of these two. -/
theorem asTarget (j : Nat) (w : World) : (ReflectliteValue.unpack (.iface 78 (.pointer (some ⟨j, 0, none⟩)))).run Tryz.prog w = .ok (.agg #[.pointer (some ⟨9, 78, none⟩), .pointer (some ⟨w.heap.size, 0, none⟩), .int .u64 150]) (w.alloc (.cells #[.pointer (some ⟨j, 0, none⟩)] 78)) := by kernel_rfl
theorem asTargetType (a : Addr) (w : World) : (ReflectliteValue.methodAny (ReflectliteValue.valueError "reflectlite.Value.Type" 0) (fun t _ _ _ => ReflectliteType.toType t) #[.agg #[.pointer (some ⟨9, 78, none⟩), .pointer (some a), .int .u64 150]]).run Tryz.prog w = .ok (.iface 121 (.agg #[.pointer (some ⟨9, 78, none⟩)])) w := by kernel_rfl
theorem asMeth1 (h : Value) (w : World) : (Go.method 180 121 (.agg #[h]) "Kind").run Tryz.prog w = .ok (115, h) w := by kernel_rfl
theorem asMeth2 (h : Value) (w : World) : (Go.method 180 121 (.agg #[h]) "Elem").run Tryz.prog w = .ok (126, .agg #[h]) w := by kernel_rfl
theorem asMeth3 (h : Value) (w : World) : (Go.method 180 121 (.agg #[h]) "Implements").run Tryz.prog w = .ok (127, .agg #[h]) w := by kernel_rfl
theorem asMeth4 (h : Value) (w : World) : (Go.method 180 121 (.agg #[h]) "AssignableTo").run Tryz.prog w = .ok (124, .agg #[h]) w := by kernel_rfl
theorem asKindP (w : World) : ((ReflectliteType.abiMethod fun t => (fun a : Nat => Value.int IntKind.u8 (a : Int)) <$> Rtype.kind t) #[.pointer (some ⟨9, 78, none⟩)]).run Tryz.prog w = .ok (.int .u8 22) w := by kernel_rfl
theorem asKindE (w : World) : ((ReflectliteType.abiMethod fun t => (fun a : Nat => Value.int IntKind.u8 (a : Int)) <$> Rtype.kind t) #[.pointer (some ⟨9, 76, none⟩)]).run Tryz.prog w = .ok (.int .u8 25) w := by kernel_rfl
theorem asElemP (w : World) : (ReflectliteType.method ReflectliteType.elem #[.agg #[.pointer (some ⟨9, 78, none⟩)]]).run Tryz.prog w = .ok (.iface 121 (.agg #[.pointer (some ⟨9, 76, none⟩)])) w := by kernel_rfl
theorem asIsError (w : World) : (ReflectliteType.relation "Implements" ReflectliteType.implements_ #[.agg #[.pointer (some ⟨9, 76, none⟩)], .iface 121 (.agg #[.pointer (some ⟨9, 64, none⟩)])]).run Tryz.prog w = .ok (.bool true) w := by kernel_rfl
theorem asType (v : Value) (w : World) : (ReflectliteType.typeOf #[.iface 76 v]).run Tryz.prog w = .ok (.iface 121 (.agg #[.pointer (some ⟨9, 76, none⟩)])) w := by kernel_rfl
theorem asFits (w : World) : (ReflectliteType.relation "AssignableTo" ReflectliteType.assignableTo #[.agg #[.pointer (some ⟨9, 76, none⟩)], .iface 121 (.agg #[.pointer (some ⟨9, 76, none⟩)])]).run Tryz.prog w = .ok (.bool true) w := by kernel_rfl
theorem asValue (k : Int) (e : Addr) (w : World) : (ReflectliteValue.unpack (.iface 76 (.agg #[.int .i64 k, .iface 146 (.pointer (some e))]))).run Tryz.prog w = .ok (.agg #[.pointer (some ⟨9, 76, none⟩), .pointer (some ⟨w.heap.size, 0, none⟩), .int .u64 153]) (w.alloc (.cells #[.int .i64 k, .iface 146 (.pointer (some e))] 76)) := by kernel_rfl
theorem asPartsP (a : Addr) (w : World) : (ReflectliteValue.parts (.agg #[.pointer (some ⟨9, 78, none⟩), .pointer (some a), .int .u64 150])).run Tryz.prog w = .ok (some (78, a, 150)) w := by kernel_rfl
theorem asPartsA (a : Addr) (w : World) : (ReflectliteValue.parts (.agg #[.pointer (some ⟨9, 76, none⟩), .pointer (some a), .int .u64 409])).run Tryz.prog w = .ok (some (76, a, 409)) w := by kernel_rfl
theorem asPartsE (a : Addr) (w : World) : (ReflectliteValue.parts (.agg #[.pointer (some ⟨9, 76, none⟩), .pointer (some a), .int .u64 153])).run Tryz.prog w = .ok (some (76, a, 153)) w := by kernel_rfl
theorem asElemOf (w : World) : (Rtype.elem? 78).run Tryz.prog w = .ok (some 76) w := by kernel_rfl
theorem asMade (p : Addr) (w : World) : (ReflectliteValue.mk 76 p ReflectliteValue.flagAddr).run Tryz.prog w = .ok (.agg #[.pointer (some ⟨9, 76, none⟩), .pointer (some p), .int .u64 409]) w := by kernel_rfl
theorem asSame (w : World) : (Rtype.directlyAssignable 76 76).run Tryz.prog w = .ok true w := by kernel_rfl
theorem asNotNil (a p : Addr) (W : World) (ha : W.cell? a = some (.pointer (some p))) :
    (ReflectliteValue.method (ReflectliteValue.valueError "reflectlite.Value.IsNil" 0) ReflectliteValue.isNil #[.agg #[.pointer (some ⟨9, 78, none⟩), .pointer (some a), .int .u64 150]]).run Tryz.prog W = .ok (.bool false) W := by
  change Sem.run Tryz.prog (ReflectliteValue.parts (.agg #[.pointer (some ⟨9, 78, none⟩), .pointer (some a), .int .u64 150]) >>= _) W = _
  simp only [Sem.run_bind, asPartsP, Result.andThen]
  simp [ReflectliteValue.isNil, loadVar, isAgg, underlying, Tryz.underlying78, ha, Result.andThen]
theorem asInto (a p : Addr) (W : World) (ha : W.cell? a = some (.pointer (some p))) :
    (ReflectliteValue.method (ReflectliteValue.valueError "reflectlite.Value.Elem" 0) ReflectliteValue.elem #[.agg #[.pointer (some ⟨9, 78, none⟩), .pointer (some a), .int .u64 150]]).run Tryz.prog W = .ok (.agg #[.pointer (some ⟨9, 76, none⟩), .pointer (some p), .int .u64 409]) W := by
  change Sem.run Tryz.prog (ReflectliteValue.parts (.agg #[.pointer (some ⟨9, 78, none⟩), .pointer (some a), .int .u64 150]) >>= _) W = _
  simp only [Sem.run_bind, asPartsP, Result.andThen]
  simp [ReflectliteValue.elem, loadVar, isAgg, underlying, Tryz.underlying78, ha, Result.andThen, asElemOf, asMade]
theorem asPut (j jb : Nat) (k : Int) (e : Addr) (o0 o1 : Value) (W : World) (hb0 : W.cell? ⟨jb, 0, none⟩ = some (.int .i64 k)) (hb1 : W.cell? ⟨jb, 1, none⟩ = some (.iface 146 (.pointer (some e)))) (ht0 : W.cell? ⟨j, 0, none⟩ = some o0) (ht1 : W.cell? ⟨j, 1, none⟩ = some o1) (hf0 : W.frozen? ⟨j, 0, none⟩ = false) (hf1 : W.frozen? ⟨j, 1, none⟩ = false) :
    (ReflectliteValue.set #[.agg #[.pointer (some ⟨9, 76, none⟩), .pointer (some ⟨j, 0, none⟩), .int .u64 409], .agg #[.pointer (some ⟨9, 76, none⟩), .pointer (some ⟨jb, 0, none⟩), .int .u64 153]]).run Tryz.prog W = .ok (.tuple #[]) ((W.setCell ⟨j, 0, none⟩ (.int .i64 k)).setCell ⟨j, 1, none⟩ (.iface 146 (.pointer (some e)))) := by
  change Sem.run Tryz.prog (ReflectliteValue.parts (.agg #[.pointer (some ⟨9, 76, none⟩), .pointer (some ⟨j, 0, none⟩), .int .u64 409]) >>= fun x => ReflectliteValue.parts (.agg #[.pointer (some ⟨9, 76, none⟩), .pointer (some ⟨jb, 0, none⟩), .int .u64 153]) >>= _) W = _
  have hz : (sizeOf 76).run Tryz.prog W = .ok 2 W := by kernel_rfl
  have hz' : ∀ W' : World, (sizeOf 76).run Tryz.prog W' = .ok 2 W' := fun W' => by kernel_rfl
  have hl0 : (load ⟨jb, 0, none⟩).run Tryz.prog W = .ok (.int .i64 k) W := by simp [hb0]
  have hl1 : (load ⟨jb, 1, none⟩).run Tryz.prog W = .ok (.iface 146 (.pointer (some e))) W := by simp [hb1]
  simp only [Sem.run_bind, asPartsA, asPartsE, Result.andThen]
  simp [ReflectliteValue.flagAddr, loadVar, isAgg, underlying, Tryz.underlying76, hz', loadCells, loadCellsFrom, hl0, hl1, Result.andThen, asSame, storeVar, Value.cells, storeCells, Addr.add]
  have s0 : (store ⟨j, 0, none⟩ (.int .i64 k)).run Tryz.prog W = .ok () (W.setCell ⟨j, 0, none⟩ (.int .i64 k)) := by
    rw [run_store Tryz.prog W _ _ _ (by rfl)]
    simp [ht0, hf0]
  have g1 : (W.setCell ⟨j, 0, none⟩ (.int .i64 k)).cell? ⟨j, 1, none⟩ = some o1 := (World.cell?_setCell_other _ _ _ _ (by simp)).trans ht1
  have g2 : (W.setCell ⟨j, 0, none⟩ (.int .i64 k)).frozen? ⟨j, 1, none⟩ = false := by simpa using hf1
  have s1 : (store ⟨j, 1, none⟩ (.iface 146 (.pointer (some e)))).run Tryz.prog (W.setCell ⟨j, 0, none⟩ (.int .i64 k)) = .ok () ((W.setCell ⟨j, 0, none⟩ (.int .i64 k)).setCell ⟨j, 1, none⟩ (.iface 146 (.pointer (some e)))) := by
    rw [run_store Tryz.prog _ _ _ _ (by rfl)]
    simp [g1, g2]
  rw [s0]
  dsimp only
  rw [s1]
set_option maxHeartbeats 4000000 in
theorem as_hit (k : Int) (e : Addr) (j : Nat) (o0 o1 : Value) (w : World) (hE : EtH w) (ht0 : w.cell? ⟨j, 0, none⟩ = some o0) (ht1 : w.cell? ⟨j, 1, none⟩ = some o1) (hf0 : w.frozen? ⟨j, 0, none⟩ = false) (hf1 : w.frozen? ⟨j, 1, none⟩ = false) :
    Calls Tryz.prog 36 #[.iface 76 (.agg #[.int .i64 k, .iface 146 (.pointer (some e))]), .iface 78 (.pointer (some ⟨j, 0, none⟩))] w fun ev w' => ev = .returned (.bool true) ∧ w' = (((((w.alloc (.cells #[.pointer (some ⟨j, 0, none⟩)] 78)).alloc (.cells #[.pointer (some ⟨9, 78, none⟩), .pointer (some ⟨w.heap.size, 0, none⟩), .int .u64 150] 100)).alloc (.cells #[.pointer (some ⟨9, 78, none⟩), .pointer (some ⟨w.heap.size, 0, none⟩), .int .u64 150] 100)).alloc (.cells #[.int .i64 k, .iface 146 (.pointer (some e))] 76)).setCell ⟨j, 0, none⟩ (.int .i64 k)).setCell ⟨j, 1, none⟩ (.iface 146 (.pointer (some e))) := by
  have x1 := @run_callFunc_extern Tryz.prog 59 _ (fun args => ReflectliteValue.unpack (args.getD 0 (.tuple #[]))) Tryz.func59 (by kernel_rfl) (by kernel_rfl) (by kernel_rfl) (by kernel_rfl)
  have x2 := @run_callFunc_extern Tryz.prog 60 _ (ReflectliteValue.methodAny (ReflectliteValue.valueError "reflectlite.Value.Type" 0) (fun t _ _ _ => ReflectliteType.toType t)) Tryz.func60 (by kernel_rfl) (by kernel_rfl) (by kernel_rfl) (by kernel_rfl)
  have x3 := @run_callFunc_extern Tryz.prog 61 _ (ReflectliteValue.method (ReflectliteValue.valueError "reflectlite.Value.IsNil" 0) ReflectliteValue.isNil) Tryz.func61 (by kernel_rfl) (by kernel_rfl) (by kernel_rfl) (by kernel_rfl)
  have x4 := @run_callFunc_extern Tryz.prog 115 _ (ReflectliteType.abiMethod fun t => do pure (.int .u8 (← Rtype.kind t))) Tryz.func115 (by kernel_rfl) (by kernel_rfl) (by kernel_rfl) (by kernel_rfl)
  have x5 := @run_callFunc_extern Tryz.prog 126 _ (ReflectliteType.method ReflectliteType.elem) Tryz.func126 (by kernel_rfl) (by kernel_rfl) (by kernel_rfl) (by kernel_rfl)
  have x6 := @run_callFunc_extern Tryz.prog 127 _ (ReflectliteType.relation "Implements" ReflectliteType.implements_) Tryz.func127 (by kernel_rfl) (by kernel_rfl) (by kernel_rfl) (by kernel_rfl)
  have x7 := @run_callFunc_extern Tryz.prog 80 _ (ReflectliteType.typeOf) Tryz.func80 (by kernel_rfl) (by kernel_rfl) (by kernel_rfl) (by kernel_rfl)
  have x8 := @run_callFunc_extern Tryz.prog 124 _ (ReflectliteType.relation "AssignableTo" ReflectliteType.assignableTo) Tryz.func124 (by kernel_rfl) (by kernel_rfl) (by kernel_rfl) (by kernel_rfl)
  have x9 := @run_callFunc_extern Tryz.prog 81 _ (ReflectliteValue.method (ReflectliteValue.valueError "reflectlite.Value.Elem" 0) ReflectliteValue.elem) Tryz.func81 (by kernel_rfl) (by kernel_rfl) (by kernel_rfl) (by kernel_rfl)
  have x10 := @run_callFunc_extern Tryz.prog 82 _ (ReflectliteValue.set) Tryz.func82 (by kernel_rfl) (by kernel_rfl) (by kernel_rfl) (by kernel_rfl)
  have y1 := asType
  have y2 := asMeth4
  have y3 := asFits
  have y4 := asValue
  have y5 := asTarget
  have y6 := asTargetType
  have y7 := asMeth1
  have y8 := asMeth2
  have y9 := asMeth3
  have y10 := asKindP
  have y11 := asKindE
  have y12 := asElemP
  have y13 := asIsError
  have y14 := asNotNil ⟨w.heap.size, 0, none⟩ ⟨j, 0, none⟩ ((w.alloc (.cells #[.pointer (some ⟨j, 0, none⟩)] 78)).alloc (.cells #[.pointer (some ⟨9, 78, none⟩), .pointer (some ⟨w.heap.size, 0, none⟩), .int .u64 150] 100)) (by simp)
  have hlt := hE.2
  have hg2 : ((w.alloc (.cells #[.pointer (some ⟨j, 0, none⟩)] 78)).alloc (.cells #[.pointer (some ⟨9, 78, none⟩), .pointer (some ⟨w.heap.size, 0, none⟩), .int .u64 150] 100)).cell? ⟨1, 0, none⟩ = some (.iface 121 (.agg #[.pointer (some ⟨9, 64, none⟩)])) := by
    rw [World.cell?_alloc_lt _ _ ⟨1, 0, none⟩ (by first | (simp; done) | (simp; omega) | omega), World.cell?_alloc_lt _ _ ⟨1, 0, none⟩ hlt]; exact hE.1
  have htl : j < w.heap.size := World.block_lt_of_cell? w _ ht0
  have y15 := asInto ⟨w.heap.size, 0, none⟩ ⟨j, 0, none⟩ (((w.alloc (.cells #[.pointer (some ⟨j, 0, none⟩)] 78)).alloc (.cells #[.pointer (some ⟨9, 78, none⟩), .pointer (some ⟨w.heap.size, 0, none⟩), .int .u64 150] 100)).alloc (.cells #[.pointer (some ⟨9, 78, none⟩), .pointer (some ⟨w.heap.size, 0, none⟩), .int .u64 150] 100)) (by rw [World.cell?_alloc_lt _ _ ⟨w.heap.size, 0, none⟩ (by simp; omega)]; simp)
  have hB := ((((Below.nw w (.cells #[.pointer (some ⟨j, 0, none⟩)] 78)).alloc (by simp) (.cells #[.pointer (some ⟨9, 78, none⟩), .pointer (some ⟨w.heap.size, 0, none⟩), .int .u64 150] 100)).alloc (by simp; omega) (.cells #[.pointer (some ⟨9, 78, none⟩), .pointer (some ⟨w.heap.size, 0, none⟩), .int .u64 150] 100)).alloc (by simp; omega) (.cells #[.int .i64 k, .iface 146 (.pointer (some e))] 76))
  have y16 := asPut j (w.heap.size + 1 + 1 + 1) k e o0 o1 ((((w.alloc (.cells #[.pointer (some ⟨j, 0, none⟩)] 78)).alloc (.cells #[.pointer (some ⟨9, 78, none⟩), .pointer (some ⟨w.heap.size, 0, none⟩), .int .u64 150] 100)).alloc (.cells #[.pointer (some ⟨9, 78, none⟩), .pointer (some ⟨w.heap.size, 0, none⟩), .int .u64 150] 100)).alloc (.cells #[.int .i64 k, .iface 146 (.pointer (some e))] 76))
    (by rw [World.cell?_alloc_at _ _ _ _ (by simp)]; rfl)
    (by rw [World.cell?_alloc_at _ _ _ _ (by simp)]; rfl)
    ((hB.cell (p := ⟨j, 0, none⟩) htl).trans ht0) ((hB.cell (p := ⟨j, 1, none⟩) htl).trans ht1)
    ((hB.frozen (p := ⟨j, 0, none⟩) htl).trans hf0) ((hB.frozen (p := ⟨j, 1, none⟩) htl).trans hf1)
  clear hB
  go_enter Tryz.func36, Tryz.ntmps36
  go_wp2
  refine wp_loop_rounds 1 ?_
  rw [rounds_succ]
  go_wp2
  go_ret
  exact ⟨rfl, rfl⟩
theorem as_at (k : Int) (e : Addr) (j : Nat) (o0 o1 : Value) (w : World) (hE : EtH w) (ht0 : w.cell? ⟨j, 0, none⟩ = some o0) (ht1 : w.cell? ⟨j, 1, none⟩ = some o1) (hf0 : w.frozen? ⟨j, 0, none⟩ = false) (hf1 : w.frozen? ⟨j, 1, none⟩ = false) :
    Calls Tryz.prog 36 #[.iface 76 (.agg #[.int .i64 k, .iface 146 (.pointer (some e))]), .iface 78 (.pointer (some ⟨j, 0, none⟩))] w fun ev w' => ev = .returned (.bool true) ∧ w'.cell? ⟨j, 0, none⟩ = some (.int .i64 k) ∧ But j w w' := by
  have htl : j < w.heap.size := World.block_lt_of_cell? w _ ht0
  refine (as_hit k e j o0 o1 w hE ht0 ht1 hf0 hf1).mono ?_
  rintro ev w' ⟨rfl, rfl⟩
  have hB := ((((Below.nw w (.cells #[.pointer (some ⟨j, 0, none⟩)] 78)).alloc (by simp) (.cells #[.pointer (some ⟨9, 78, none⟩), .pointer (some ⟨w.heap.size, 0, none⟩), .int .u64 150] 100)).alloc (by simp; omega) (.cells #[.pointer (some ⟨9, 78, none⟩), .pointer (some ⟨w.heap.size, 0, none⟩), .int .u64 150] 100)).alloc (by simp; omega) (.cells #[.int .i64 k, .iface 146 (.pointer (some e))] 76))
  refine ⟨rfl, ?_, ?_⟩
  · have h1 := World.cell?_setCell_same _ _ (.int .i64 k) ((hB.cell (p := ⟨j, 0, none⟩) htl).trans ht0)
    exact (World.cell?_setCell_other _ _ _ _ (by simp)).trans h1
  · exact But.setCell (But.setCell (But.of_below hB) 0 _) 1 _

end Go.Proofs.YtcakhfobkbgfoaaGreatDoor
namespace Go.Proofs.YtcakhfobkbgfoaaGreatDoor
open Go.RowKit
set_option linter.unusedVariables false
theorem bst_yes {M : Nat → SlT} {o : Int} {j : Nat} {x l : Int} (hM : M j = (x, l)) (h : (x == o) = true) : bst M o (j + 1) = imx (bst M o j) l := by rw [bst, hM]; show (match (x == o) with | true => _ | false => _) = _; rw [h]
theorem bst_no {M : Nat → SlT} {o : Int} {j : Nat} {x l : Int} (hM : M j = (x, l)) (h : (x == o) = false) : bst M o (j + 1) = bst M o j := by rw [bst, hM]; show (match (x == o) with | true => _ | false => _) = _; rw [h]
theorem bst_bd {M : Nat → SlT} {n : Nat} {o : Int} (hA : slA M n = true) : ∀ k, k ≤ n → 0 ≤ bst M o k ∧ bst M o k ≤ 1000000
  | 0, _ => by rw [bst]; decide
  | k + 1, hk => by
    have ih := bst_bd (o := o) hA k (by omega)
    have hl := (slB_t (slA_at hA (show k < n by omega))).2
    rw [bst]
    cases e : ((M k).1 == o)
    · exact ih
    · show 0 ≤ imx (bst M o k) (M k).2 ∧ imx (bst M o k) (M k).2 ≤ 1000000
      unfold imx
      split <;> omega
theorem gb_no {s g : Int} {M : Nat → SlT} {m : Nat} {o n d x : Int} (h : gbB s g M m o n d x = false) : gbI s g M m o n d x = 0 := sel_f h _
theorem gb_pl {s g : Int} {M : Nat → SlT} {m : Nat} {o n d x : Int} (h : plB s g M m = false) : gbB s g M m o n d x = false := by unfold gbB; rw [h]; rfl
theorem mo_bd {n d x : Int} (h : moB n d x = true) : 0 ≤ moT n d x ∧ moT n d x ≤ 1000000000000 := by
  unfold moT
  rw [sel_t h]
  unfold moB rB at h
  simp only [Bool.and_eq_true] at h
  exact okT_t h.2
end Go.Proofs.YtcakhfobkbgfoaaGreatDoor
namespace Go.Proofs.YtcakhfobkbgfoaaGreatDoor
open Go.RowKit
set_option linter.unusedVariables false
set_option maxRecDepth 100000 in
set_option maxHeartbeats 8000000 in
theorem longest_any (s g : Int) (a : Option Addr) (m c : Nat) (M : Nat → SlT) (o : Int) (w : World) (hm : m ≤ maxLen) (hs : SrcC w a (m * 2) (MFSlot M)) :
    Calls Tryz.prog 37 #[.agg #[.int .i64 s, .int .i64 g, .slice a m c], .int .i64 o] w fun e w' => e = .returned (.int .i64 (loI s g M m o)) ∧ Below w.heap.size w w' := by
  have B := Below.nw w (.cells #[.int .i64 s, .int .i64 g, .slice a m c] 32)
  have N := Tx3.new w (.int .i64 s) (.int .i64 g) (.slice a m c) 32
  have HS : Hid (SrcC w a (m * 2) (MFSlot M)) := hs
  clear hs
  have CP := fun w' h => planOk_any s g a m c M w' hm h
  cases h1 : plB s g M m
  · have e1 : loI s g M m o = 0 := sel_f h1 _
    rw [e1]
    rw [h1] at CP
    clear e1 h1
    go_enter Tryz.func37, Tryz.ntmps37
    go_upto_region 1 with fail
    generalize w.alloc (.cells #[.int .i64 s, .int .i64 g, .slice a m c] 32) = v at *
    obtain ⟨n0, n1, n2, n3, n4, n5, n6⟩ := id N
    go_wp2_with fail
    refine (CP _ (HS.out.below B)).mono ?_
    rintro e v1 ⟨rfl, hb⟩
    clear n0 n1 n2 n3 n4 n5 n6
    replace B := B.trans (hb.mono B.size)
    go_wp2_with fail
    go_ret
    exact ⟨rfl, B⟩
  have e1 : loI s g M m o = bst M o m := sel_t h1 _
  rw [e1]
  obtain ⟨p1, p2, p3, p4⟩ := plB_t h1
  obtain ⟨b, off, rfl, hf⟩ : ∃ b off, a = some ⟨b, off, none⟩ ∧ Cs w b off (m * 2) (MFSlot M) := by
    rcases HS.out with q | q
    · exact absurd q (by omega)
    · exact q
  have HF : Hid (Cs w b off (m * 2) (MFSlot M)) := hf
  rw [h1] at CP
  clear hf p1 p2 p4 h1 e1
  go_enter Tryz.func37, Tryz.ntmps37
  go_upto_region 1 with fail
  generalize w.alloc (.cells #[.int .i64 s, .int .i64 g, .slice (some ⟨b, off, none⟩) m c] 32) = v at *
  obtain ⟨n0, n1, n2, n3, n4, n5, n6⟩ := id N
  go_wp2_with fail
  refine (CP _ (HS.out.below B)).mono ?_
  rintro e v1 ⟨rfl, hb⟩
  clear n0 n1 n2 n3 n4 n5 n6
  replace B := B.trans (hb.mono B.size)
  replace N := N.below hb
  clear hb CP
  obtain ⟨n0, n1, n2, n3, n4, n5, n6⟩ := id N
  go_wp2_with fail
  clear n0 n1 n2 n3 n4 n5 n6
  clear N
  go_loopw [5, 15] (fun s5 i wr => ∃ (j : Nat), j ≤ m ∧ i = .int .i64 j ∧ s5 = .int .i64 (bst M o j) ∧ Below w.heap.size w wr) (fun _ i _ => m - (intOf i).toNat)
  case atStart => exact ⟨0, Nat.zero_le _, rfl, rfl, B⟩
  case round =>
    clear B
    obtain ⟨j, hj2, rfl, rfl, B⟩ := hrel
    by_cases hlt : j < m
    · obtain ⟨y, l, hM⟩ := tupSlot M j
      obtain ⟨c1, c2⟩ := (HF.out.below B HF.out.1).elSlot hlt hM
      have HLT : Hid (j < m) := hlt
      have hli : (j : Int) < (m : Int) := by omega
      clear hlt hj2
      have A1 := Below.nw wr (.cells #[.int .i64 y, .int .i64 l] 85)
      have D := Bx2.new wr (.int .i64 y) (.int .i64 l) 85
      replace B := B.trans (A1.mono B.size)
      clear A1
      obtain ⟨d0, d1, d2, d3, d4⟩ := id D
      cases ho : (y == o)
      · have HE : Hid (bst M o (j + 1) = bst M o j) := bst_no hM ho
        clear hM
        generalize bst M o j = bj at *
        go_wp2_with fail
        go_roundw
        case rel => exact ⟨j + 1, HLT.out, by go_num, by rw [HE.out], B⟩
        case measure => have hlt' := HLT.out; simp [intOf]; omega
      · have HE : Hid (bst M o (j + 1) = imx (bst M o j) l) := bst_yes hM ho
        clear hM
        generalize bst M o j = bj at *
        go_wp2_with fail
        refine (ranked_any bj l _).mono ?_
        rintro e w' ⟨rfl, rfl⟩
        go_wp2_with fail
        go_roundw
        case rel => exact ⟨j + 1, HLT.out, by go_num, by rw [HE.out], B⟩
        case measure => have hlt' := HLT.out; simp [intOf]; omega
    · have hkn : j = m := by omega
      subst hkn
      have hli : ¬ (j : Int) < (j : Int) := by omega
      clear hlt hj2
      go_wp2_with fail
      go_ret
      exact ⟨rfl, B⟩
theorem lo_bd (s g : Int) (M : Nat → SlT) (m : Nat) (o : Int) : 0 ≤ loI s g M m o ∧ loI s g M m o ≤ 1000000 := by
  unfold loI
  cases h : plB s g M m
  · rw [sel_f rfl]; exact ⟨by decide, by decide⟩
  · rw [sel_t rfl]; exact bst_bd (plB_t h).2.2.2 m (Nat.le_refl _)
set_option maxRecDepth 100000 in
set_option maxHeartbeats 8000000 in
theorem implGateBudget_any (s g : Int) (a : Option Addr) (m c : Nat) (M : Nat → SlT) (o n d x : Int) (w : World) (E : EM w) (hm : m ≤ maxLen) (hs : SrcC w a (m * 2) (MFSlot M)) :
    Calls Tryz.prog 11 #[.agg #[.int .i64 s, .int .i64 g, .slice a m c], .int .i64 o, .agg #[.int .i64 n, .int .i64 d], .int .i64 x] w fun e w' => e = .returned (.tuple #[.int .i64 (gbI s g M m o n d x), .bool (gbB s g M m o n d x)]) ∧ Below w.heap.size w w' := by
  have A0 := Below.nw w (.cells #[.int .i64 s, .int .i64 g, .slice a m c] 32)
  have A1 := Below.nw (w.alloc (.cells #[.int .i64 s, .int .i64 g, .slice a m c] 32)) (.cells #[.int .i64 n, .int .i64 d] 29)
  have N := (Tx3.new w (.int .i64 s) (.int .i64 g) (.slice a m c) 32).below A1
  have D := Bx2.new (w.alloc (.cells #[.int .i64 s, .int .i64 g, .slice a m c] 32)) (.int .i64 n) (.int .i64 d) 29
  have B := A0.trans (A1.mono A0.size)
  simp only [World.size_alloc] at D
  clear A0 A1
  have HS : Hid (SrcC w a (m * 2) (MFSlot M)) := hs
  clear hs
  have CG := fun w' h => longest_any s g a m c M o w' hm h
  have CM := fun w' E => outMost_any n d x w' E
  have hb1 := lo_bd s g M m o
  have nN := neNo
  have nY := neYes
  go_enter Tryz.func11, Tryz.ntmps11
  go_upto_region 1 with fail
  generalize (w.alloc (.cells #[.int .i64 s, .int .i64 g, .slice a m c] 32)).alloc (.cells #[.int .i64 n, .int .i64 d] 29) = v at *
  generalize w.heap.size + 1 = jd at *
  obtain ⟨n0, n1, n2, n3, n4, n5, n6⟩ := id N
  go_wp2_with fail
  refine (CG _ (HS.out.below B)).mono ?_
  rintro e v1 ⟨rfl, hb⟩
  clear n0 n1 n2 n3 n4 n5 n6
  replace B := B.trans (hb.mono B.size)
  replace D := D.below hb
  clear hb CG N HS
  obtain ⟨d0, d1, d2, d3, d4⟩ := id D
  go_wp2_with fail
  refine (CM _ (E.below B)).mono ?_
  rintro e v2 ⟨⟨u, rfl, hv⟩, hb⟩
  clear d0 d1 d2 d3 d4
  replace B := B.trans (hb.mono B.size)
  clear hb CM D
  cases h1 : mzB n d x
  · obtain ⟨k, rfl⟩ := hv.no h1
    have HR : Hid (gbB s g M m o n d x = false ∧ gbI s g M m o n d x = 0) := gb_mz h1
    clear hv h1
    generalize mzT n d x = T at *
    generalize loI s g M m o = L at *
    go_wp2_with fail
    go_ret2
    exact ⟨by rw [HR.out.1, HR.out.2]; rfl, B⟩
  obtain rfl := hv.yes h1
  by_cases h2 : loI s g M m o < mzT n d x
  · have HR : Hid (gbB s g M m o n d x = false ∧ gbI s g M m o n d x = 0) := gb_lt h1 h2
    clear hv h1
    generalize mzT n d x = T at *
    generalize loI s g M m o = L at *
    go_wp2_with fail
    go_ret2
    exact ⟨by rw [HR.out.1, HR.out.2]; rfl, B⟩
  have HR : Hid (gbB s g M m o n d x = true ∧ gbI s g M m o n d x = loI s g M m o - mzT n d x) := gb_in h1 h2
  have hp := mz_pos h1
  clear hv h1
  generalize mzT n d x = T at *
  generalize loI s g M m o = L at *
  have hw : IntKind.i64.wrap (L - T) = L - T := Go.IntWalk.i64_in _ ⟨by omega, by omega⟩
  go_wp2_with fail
  go_ret2
  exact ⟨by rw [HR.out.1, HR.out.2]; rfl, B⟩
end Go.Proofs.YtcakhfobkbgfoaaGreatDoor
namespace Go.Proofs.YtcakhfobkbgfoaaGreatDoor
open Go.RowKit
set_option linter.unusedVariables false
def EA (w : World) : Prop := EtH w ∧ EW w
theorem EA.below {w w' : World} (h : EA w) (hb : Below w.heap.size w w') : EA w' := ⟨h.1.below hb, h.2.below hb⟩
theorem EA.ew {w : World} (h : EA w) : EW w := h.2
theorem EA.em {w : World} (h : EA w) : EM w := h.2.em
theorem ga_zero {kn : Bool} {lo hi n d x s g : Int} {M : Nat → SlT} {m : Nat} {o : Int} (h : ¬ gaC kn lo hi n d x s g M m o = 0) : gaI kn lo hi n d x s g M m o = 0 ∧ gaK kn lo hi n d x s g M m o = 0 := by
  cases h1 : gaP kn lo hi n d x (plB s g M m) o
  · exact (ga_bad h1).2
  cases h2 : gaG kn lo hi n d x s g M m o
  · exact (ga_un h1 h2).2
  · exact absurd (ga_go h2).1 h
set_option maxRecDepth 100000 in
set_option maxHeartbeats 16000000 in
theorem implGateAsk_any (kn : Bool) (lo hi n d x s g : Int) (a : Option Addr) (m c : Nat) (M : Nat → SlT) (o : Int) (w : World) (E : EA w) (hm : m ≤ maxLen) (hs : SrcC w a (m * 2) (MFSlot M)) :
    Calls Tryz.prog 10 #[.agg #[.int .i64 lo, .int .i64 hi], .bool kn, .agg #[.int .i64 n, .int .i64 d], .int .i64 x, .agg #[.int .i64 s, .int .i64 g, .slice a m c], .int .i64 o] w fun e w' => e = .returned (.tuple #[.int .i64 (gaI kn lo hi n d x s g M m o), .int .i64 (gaK kn lo hi n d x s g M m o), .int .i64 (gaC kn lo hi n d x s g M m o)]) ∧ Below w.heap.size w w' := by
  have A0 := Below.nw w (.cells #[.int .i64 lo, .int .i64 hi] 25)
  have A1 := Below.nw (w.alloc (.cells #[.int .i64 lo, .int .i64 hi] 25)) (.cells #[.int .i64 n, .int .i64 d] 29)
  have A2 := Below.nw ((w.alloc (.cells #[.int .i64 lo, .int .i64 hi] 25)).alloc (.cells #[.int .i64 n, .int .i64 d] 29)) (.cells #[.int .i64 s, .int .i64 g, .slice a m c] 32)
  have P := ((Bx2.new w (.int .i64 lo) (.int .i64 hi) 25).below A1).below A2
  have D := (Bx2.new (w.alloc (.cells #[.int .i64 lo, .int .i64 hi] 25)) (.int .i64 n) (.int .i64 d) 29).below A2
  have N := Tx3.new ((w.alloc (.cells #[.int .i64 lo, .int .i64 hi] 25)).alloc (.cells #[.int .i64 n, .int .i64 d] 29)) (.int .i64 s) (.int .i64 g) (.slice a m c) 32
  have B := (A0.trans (A1.mono A0.size)).trans (A2.mono (A0.trans (A1.mono A0.size)).size)
  simp only [World.size_alloc] at D N
  clear A0 A1 A2
  have HS : Hid (SrcC w a (m * 2) (MFSlot M)) := hs
  clear hs
  have CF := fun w' => gateFor_any n d x s g a m c o w'
  have CK := fun w' E hh => gateAsk_any kn lo hi n d x s g a m c M o w' E hm hh
  have HZ : Hid (¬ gaC kn lo hi n d x s g M m o = 0 → gaI kn lo hi n d x s g M m o = 0 ∧ gaK kn lo hi n d x s g M m o = 0) := ga_zero
  generalize gaI kn lo hi n d x s g M m o = GI at *
  generalize gaK kn lo hi n d x s g M m o = GK at *
  generalize gaC kn lo hi n d x s g M m o = GC at *
  go_enter Tryz.func10, Tryz.ntmps10
  go_upto_region 1 with fail
  generalize ((w.alloc (.cells #[.int .i64 lo, .int .i64 hi] 25)).alloc (.cells #[.int .i64 n, .int .i64 d] 29)).alloc (.cells #[.int .i64 s, .int .i64 g, .slice a m c] 32) = v at *
  generalize w.heap.size + 1 + 1 = jn at *
  generalize w.heap.size + 1 = jd at *
  have SK : Hid (∀ w', Below v.heap.size v w' → (fun w' => w'.cell? ⟨w.heap.size, 0, none⟩ = some (.int .i64 lo) ∧ w'.cell? ⟨w.heap.size, 1, none⟩ = some (.int .i64 hi) ∧ w'.cell? ⟨jd, 0, none⟩ = some (.int .i64 n) ∧ w'.cell? ⟨jd, 1, none⟩ = some (.int .i64 d) ∧ w'.cell? ⟨jn, 0, none⟩ = some (.int .i64 s) ∧ w'.cell? ⟨jn, 1, none⟩ = some (.int .i64 g) ∧ w'.cell? ⟨jn, 2, none⟩ = some (.slice a m c)) w') := fun w' hw => ⟨(P.below hw).2.1, (P.below hw).2.2.1, (D.below hw).2.1, (D.below hw).2.2.1, (N.below hw).2.1, (N.below hw).2.2.1, (N.below hw).2.2.2.1⟩
  go_cut [15, 16, 17] (fun s15 s16 s17 wx => ∃ u : Value, s15 = .int .i64 GI ∧ s16 = .int .i64 GK ∧ s17 = u ∧ Av GC u ∧ Below v.heap.size v wx)
  case first => as_aux_lemma =>
    have XB : Below v.heap.size v v.drew := Below.drew (Below.refl _ _)
    obtain ⟨p0, p1, p2, p3, p4⟩ := id P
    obtain ⟨d0, d1, d2, d3, d4⟩ := id D
    obtain ⟨n0, n1, n2, n3, n4, n5, n6⟩ := id N
    generalize hvd : v.drew = vx at *
    refine wp_region_held_drew (S := (fun w' => w'.cell? ⟨w.heap.size, 0, none⟩ = some (.int .i64 lo) ∧ w'.cell? ⟨w.heap.size, 1, none⟩ = some (.int .i64 hi) ∧ w'.cell? ⟨jd, 0, none⟩ = some (.int .i64 n) ∧ w'.cell? ⟨jd, 1, none⟩ = some (.int .i64 d) ∧ w'.cell? ⟨jn, 0, none⟩ = some (.int .i64 s) ∧ w'.cell? ⟨jn, 1, none⟩ = some (.int .i64 g) ∧ w'.cell? ⟨jn, 2, none⟩ = some (.slice a m c))) (by kernel_rfl) ?_ (fun hHeld => ?_)
    · first | exact SK.out _ XB | exact SK.out _ (Below.drew (Below.refl _ _))
    refine wpAnyH_take (i := 0) (v := ?_) (by rw [List.getElem?_toArray]; rfl) (by kernel_rfl) (by kernel_rfl) (by kernel_rfl) (by intro _ _ _ h; exact h) (Or.inl ⟨by rfl, ?_⟩) (by assumption) ?_
    rotate_left
    · (intro w hSw; (try dsimp only at hSw); go_simp; all_goals with_reducible rfl)
    (try simp only [Act.put, List.setIfInBounds_toArray, List.set_cons_zero, List.set_cons_succ])
    refine wpAnyH_take (i := 1) (v := ?_) (by rw [List.getElem?_toArray]; rfl) (by kernel_rfl) (by kernel_rfl) (by kernel_rfl) (by intro _ _ _ h; exact h) (Or.inl ⟨by rfl, ?_⟩) (by assumption) ?_
    rotate_left
    · (intro w hSw; (try dsimp only at hSw); go_simp; all_goals with_reducible rfl)
    (try simp only [Act.put, List.setIfInBounds_toArray, List.set_cons_zero, List.set_cons_succ])
    refine wpAnyH_take (i := 2) (v := ?_) (by rw [List.getElem?_toArray]; rfl) (by kernel_rfl) (by kernel_rfl) (by kernel_rfl) (by intro _ _ _ h; exact h) (Or.inl ⟨by rfl, ?_⟩) (by assumption) ?_
    rotate_left
    · (intro w hSw; (try dsimp only at hSw); go_simp; all_goals with_reducible rfl)
    (try simp only [Act.put, List.setIfInBounds_toArray, List.set_cons_zero, List.set_cons_succ])
    refine wpAnyH_take (i := 3) (v := ?_) (by rw [List.getElem?_toArray]; rfl) (by kernel_rfl) (by kernel_rfl) (by kernel_rfl) (by intro _ _ _ h; exact h) (Or.inl ⟨by rfl, ?_⟩) (by assumption) ?_
    rotate_left
    · (intro w hSw; (try dsimp only at hSw); go_simp; all_goals with_reducible rfl)
    (try simp only [Act.put, List.setIfInBounds_toArray, List.set_cons_zero, List.set_cons_succ])
    refine wpAnyH_take (i := 5) (v := ?_) (by rw [List.getElem?_toArray]; rfl) (by kernel_rfl) (by kernel_rfl) (by kernel_rfl) (by intro _ _ _ h; exact h) (Or.inl ⟨by rfl, ?_⟩) (by assumption) ?_
    rotate_left
    · (intro w hSw; (try dsimp only at hSw); go_simp; all_goals with_reducible rfl)
    (try simp only [Act.put, List.setIfInBounds_toArray, List.set_cons_zero, List.set_cons_succ])
    refine wpAnyH_take (i := 6) (v := ?_) (by rw [List.getElem?_toArray]; rfl) (by kernel_rfl) (by kernel_rfl) (by kernel_rfl) (by intro _ _ _ h; exact h) (Or.inl ⟨by rfl, ?_⟩) (by assumption) ?_
    rotate_left
    · (intro w hSw; (try dsimp only at hSw); go_simp; all_goals with_reducible rfl)
    (try simp only [Act.put, List.setIfInBounds_toArray, List.set_cons_zero, List.set_cons_succ])
    refine wpAnyH_ready (rs := [4]) (by kernel_rfl) (by simp) ?_
    refine AllReadyH.cons (by rw [List.getElem?_toArray]; rfl) (fun K hK => ?_) AllReadyH.nil
    go_simp
    refine (CF vx).mono ?_; rintro ee vx2 ⟨rfl, hbl⟩; (replace XB := XB.trans (hbl.mono XB.size)); (clear hbl); (generalize hvv : vx2 = vx at *); (clear hvv)
    (try go_wp2_with fail)
    refine hK.out _ _ ?_ (fun hHeld => ?_)
    · first | exact SK.out _ XB | exact SK.out _ (Below.drew (Below.refl _ _))
    clear hK K
    (try simp only [Act.put, List.setIfInBounds_toArray, List.set_cons_zero, List.set_cons_succ])
    refine wpAnyH_ready (rs := [7]) (by kernel_rfl) (by simp) ?_
    refine AllReadyH.cons (by rw [List.getElem?_toArray]; rfl) (fun K hK => ?_) AllReadyH.nil
    go_simp
    refine (CK vx (E.ew.below (B.trans (XB.mono B.size))) (HS.out.below (B.trans (XB.mono B.size)))).mono ?_; rintro ee vx3 ⟨⟨uu, rfl, hv⟩, hbl⟩; (replace XB := XB.trans (hbl.mono XB.size)); (clear hbl)
    (try go_wp2_with fail)
    refine hK.out _ _ ?_ (fun hHeld => ?_)
    · first | exact SK.out _ XB | exact SK.out _ (Below.drew (Below.refl _ _))
    clear hK K
    (try simp only [Act.put, List.setIfInBounds_toArray, List.set_cons_zero, List.set_cons_succ])
    refine wpAnyH_take (i := 8) (v := ?_) (by rw [List.getElem?_toArray]; rfl) (by kernel_rfl) (by kernel_rfl) (by kernel_rfl) (by intro _ _ _ h; exact h) (Or.inl ⟨by rfl, ?_⟩) (by assumption) ?_
    rotate_left
    · (intro w hSw; (try dsimp only at hSw); go_simp; all_goals with_reducible rfl)
    (try simp only [Act.put, List.setIfInBounds_toArray, List.set_cons_zero, List.set_cons_succ])
    refine wpAnyH_take (i := 9) (v := ?_) (by rw [List.getElem?_toArray]; rfl) (by kernel_rfl) (by kernel_rfl) (by kernel_rfl) (by intro _ _ _ h; exact h) (Or.inl ⟨by rfl, ?_⟩) (by assumption) ?_
    rotate_left
    · (intro w hSw; (try dsimp only at hSw); go_simp; all_goals with_reducible rfl)
    (try simp only [Act.put, List.setIfInBounds_toArray, List.set_cons_zero, List.set_cons_succ])
    refine wpAnyH_take (i := 10) (v := ?_) (by rw [List.getElem?_toArray]; rfl) (by kernel_rfl) (by kernel_rfl) (by kernel_rfl) (by intro _ _ _ h; exact h) (Or.inl ⟨by rfl, ?_⟩) (by assumption) ?_
    rotate_left
    · (intro w hSw; (try dsimp only at hSw); go_simp; all_goals with_reducible rfl)
    (try simp only [Act.put, List.setIfInBounds_toArray, List.set_cons_zero, List.set_cons_succ])
    refine wpAnyH_take (i := 11) (v := ?_) (by rw [List.getElem?_toArray]; rfl) (by kernel_rfl) (by kernel_rfl) (by kernel_rfl) (by intro _ _ _ h; exact h) (Or.inl ⟨by rfl, ?_⟩) (by assumption) ?_
    rotate_left
    · (intro w hSw; (try dsimp only at hSw); go_simp; all_goals with_reducible rfl)
    (try simp only [Act.put, List.setIfInBounds_toArray, List.set_cons_zero, List.set_cons_succ])
    refine wpAnyH_take (i := 12) (v := ?_) (by rw [List.getElem?_toArray]; rfl) (by kernel_rfl) (by kernel_rfl) (by kernel_rfl) (by intro _ _ _ h; exact h) (Or.inl ⟨by rfl, ?_⟩) (by assumption) ?_
    rotate_left
    · (intro w hSw; (try dsimp only at hSw); go_simp; all_goals with_reducible rfl)
    (try simp only [Act.put, List.setIfInBounds_toArray, List.set_cons_zero, List.set_cons_succ])
    refine wpAnyH_take (i := 13) (v := ?_) (by rw [List.getElem?_toArray]; rfl) (by kernel_rfl) (by kernel_rfl) (by kernel_rfl) (by intro _ _ _ h; exact h) (Or.inl ⟨by rfl, ?_⟩) (by assumption) ?_
    rotate_left
    · (intro w hSw; (try dsimp only at hSw); go_simp; all_goals with_reducible rfl)
    (try simp only [Act.put, List.setIfInBounds_toArray, List.set_cons_zero, List.set_cons_succ])
    refine wpAnyH_take (i := 14) (v := ?_) (by rw [List.getElem?_toArray]; rfl) (by kernel_rfl) (by kernel_rfl) (by kernel_rfl) (by intro _ _ _ h; exact h) (Or.inl ⟨by rfl, ?_⟩) (by assumption) ?_
    rotate_left
    · (intro w hSw; (try dsimp only at hSw); go_simp; all_goals with_reducible rfl)
    (try simp only [Act.put, List.setIfInBounds_toArray, List.set_cons_zero, List.set_cons_succ])
    refine wpAnyH_done (by kernel_rfl) ?_ _
    go_wp2_with fail
    go_meet
    case rel => exact ⟨uu, rfl, rfl, rfl, hv, XB⟩
  case rest =>
    obtain ⟨u, rfl, rfl, rfl, hv, XB⟩ := hcut
    replace B := B.trans (XB.mono B.size)
    clear SK XB CF CK P D N
    generalize wc = v1 at *
    have NL := Below.nw v1 (.cells #[.int .i64 0, .nilIface] 76)
    have R := Bx2.new v1 (.int .i64 0) .nilIface 76
    have HJ : w.heap.size ≤ v1.heap.size := B.size
    go_upto_region 3 with fail
    replace B := B.trans (NL.mono B.size)
    clear NL
    generalize v1.alloc (.cells #[.int .i64 0, .nilIface] 76) = v2 at *
    generalize v1.heap.size = jr at *
    rcases hv with ⟨rfl, rfl⟩ | ⟨q2, a1, rfl⟩
    · go_wp2_with fail
      refine (as_nil _ _).mono ?_
      rintro e w' ⟨rfl, rfl⟩
      go_wp2_with fail
      exact bodyPost_ret (v := (.tuple #[.int .i64 GI, .int .i64 GK, .int .i64 0])) (by simp (maxDischargeDepth := 6) [results, Tryz.results10, go_sem, *]) rfl ⟨rfl, B⟩
    · obtain ⟨z1, z2⟩ := HZ.out q2
      subst z1 z2
      clear HZ
      go_wp2_with fail
      refine (as_at GC a1 jr _ _ _ (E.1.below B) R.2.1 R.2.2.1 R.2.2.2.1 R.2.2.2.2).mono ?_
      rintro e v3 ⟨rfl, c0, hb⟩
      replace B := B.trans (hb.below HJ B.size)
      clear hb
      go_wp2_with fail
      go_quiet (fail)
      go_wp2_with fail
      exact bodyPost_ret (v := (.tuple #[.int .i64 0, .int .i64 0, .int .i64 GC])) (by simp (maxDischargeDepth := 6) [results, Tryz.results10, go_sem, *]) rfl ⟨rfl, below_dq B nq⟩
end Go.Proofs.YtcakhfobkbgfoaaGreatDoor
namespace Go.Proofs.YtcakhfobkbgfoaaGreatDoor
open Go.RowKit
set_option linter.unusedVariables false
theorem pickLit (B p : Nat) (w : World) (L : List Int) (hcur : CurOk w B p) (h0 : 0 < L.length) (h1 : L.length ≤ 100) :
    Calls Tryz.prog 20 #[.pointer (some ⟨p, 0, none⟩), .slice (some ⟨w.heap.size, 0, none⟩) L.length L.length] (w.alloc (.cells (L.map (Value.int .i64)).toArray 3)) fun e w' => ∃ v : Int, e = .returned (.int .i64 v) ∧ CurOk w' B p ∧ But p w w' := by
  have hb : Below w.heap.size w (w.alloc (.cells (L.map (Value.int .i64)).toArray 3)) := (Below.refl _ _).alloc (Nat.le_refl _) _
  have hl := hcur.lt
  refine (l1PickInt_any B p w.heap.size 0 L.length L.length _ (hcur.below hb) h0 h1 (by simp) (by omega) (fun j hj => ⟨L[j], by simp [hj]⟩)).mono ?_
  rintro e w' ⟨j, v, hj, _, rfl, hc, hw⟩
  exact ⟨v, rfl, hc, (But.of_below hb).trans hw⟩
set_option maxHeartbeats 1000000 in
theorem l1DrawTime_any (B p : Nat) (w : World) (hcur : CurOk w B p) :
    Calls Tryz.prog 65 #[.pointer (some ⟨p, 0, none⟩)] w fun e w' => ∃ v : Int, e = .returned (.int .i64 v) ∧ CurOk w' B p ∧ But p w w' := by
  go_enter Tryz.func65, Tryz.ntmps65
  go_wp2_with fail
  refine (l1Below_any B p 12 _ hcur).mono ?_; rintro e w1 ⟨x, rfl, xl, xh, xp, xz, w1c, w1b⟩
  clear xp xz
  cases hx0 : (x == 0)
  · cases hx1 : (x == 1)
    · go_wp2_with fail
      refine (l1Below_any B p 120 _ w1c).mono ?_; rintro e w2 ⟨y, rfl, yl, yh, yp, yz, w2c, w2b⟩
      clear yp yz
      go_wp2_with fail
      go_ret
      exact ⟨_, rfl, w2c, w1b.trans w2b⟩
    · go_wp2_with fail
      refine (l1Below_any B p 1000000000 _ w1c).mono ?_; rintro e w2 ⟨y, rfl, yl, yh, yp, yz, w2c, w2b⟩
      clear yp yz
      go_wp2_with fail
      have hp := pickLit B p w2 [1, -1, 900] w2c (by decide) (by decide); simp only [List.map_cons, List.map_nil, List.length_cons, List.length_nil, Nat.zero_add, Nat.reduceAdd] at hp; refine hp.mono ?_; clear hp; rintro e w3 ⟨v, rfl, w3c, w3b⟩
      go_wp2_with fail
      go_ret
      exact ⟨_, rfl, w3c, (w1b.trans w2b).trans w3b⟩
  · go_wp2_with fail
    have hp := pickLit B p w1 [-1000000000000, 1000000000000, 999999999999, -999999999999, 0] w1c (by decide) (by decide); simp only [List.map_cons, List.map_nil, List.length_cons, List.length_nil, Nat.zero_add, Nat.reduceAdd] at hp; refine hp.mono ?_; clear hp; rintro e w3 ⟨v, rfl, w3c, w3b⟩
    go_wp2_with fail
    go_ret
    exact ⟨_, rfl, w3c, w1b.trans w3b⟩
def imnD (x y : Int) : Int := if x < y then x else y
set_option maxHeartbeats 400000 in
theorem l1MinD (x y : Int) (w : World) :
    Calls Tryz.prog 66 #[.int .i64 x, .int .i64 y] w fun e w' => ∃ v : Int, e = .returned (.int .i64 v) ∧ w = w' := by
  go_enter Tryz.func66, Tryz.ntmps66
  go_wp2
  all_goals go_ret
  all_goals exact ⟨_, rfl, rfl⟩
theorem CurOk.setOther {w : World} {B p : Nat} (h : CurOk w B p) {k : Nat} (hk : k ≠ p) (hB : B ≤ k) (o : Nat) (u : Value) : CurOk (w.setCell ⟨k, o, none⟩ u) B p := by
  obtain ⟨a, n, c, i, hh, h0, h1, h2, f0, f1, f2, hi, hn, hc, hBp, hp⟩ := h
  have hne : ∀ q, (⟨k, o, none⟩ : Addr) ≠ ⟨p, q, none⟩ := fun q e => hk (congrArg Addr.block e)
  refine ⟨a, n, c, i, hh, ?_, ?_, ?_, by simpa using f0, by simpa using f1, by simpa using f2, hi, hn, hc.below ((Below.refl _ _).setCell hB _), hBp, by simpa using hp⟩
  · rw [World.cell?_setCell_other _ _ _ _ (hne _)]; exact h0
  · rw [World.cell?_setCell_other _ _ _ _ (hne _)]; exact h1
  · rw [World.cell?_setCell_other _ _ _ _ (hne _)]; exact h2
theorem But.setNew {p : Nat} {a w : World} (h : But p a w) {k : Nat} (hk : a.heap.size ≤ k) (o : Nat) (u : Value) : But p a (w.setCell ⟨k, o, none⟩ u) :=
  ⟨h.1, h.2.1, h.2.2.1, by rw [World.size_setCell]; exact h.2.2.2.1, fun j hj hp => (Below.heap_setCell w ⟨k, o, none⟩ u j (by simp; omega)).trans (h.2.2.2.2 j hj hp)⟩
theorem But.alloc {p : Nat} {a w : World} (h : But p a w) (o : Obj) : But p a (w.alloc o) :=
  h.trans (But.of_below ((Below.refl _ _).alloc (Nat.le_refl _) _))
set_option maxHeartbeats 3200000 in
theorem l1DrawIval_any (B p : Nat) (w : World) (hcur : CurOk w B p) :
    Calls Tryz.prog 39 #[.pointer (some ⟨p, 0, none⟩)] w fun e w' => ∃ x y : Int, e = .returned (.agg #[.int .i64 x, .int .i64 y]) ∧ CurOk w' B p ∧ But p w w' := by
  have hpl := hcur.lt
  have hpw : w.heap.size ≠ p := by omega
  have A1 : Below w.heap.size w (w.alloc (.cells #[.int .i64 0, .int .i64 0] 25)) := (Below.refl _ _).alloc (Nat.le_refl _) _
  go_enter Tryz.func39, Tryz.ntmps39
  go_wp2_with fail
  refine (l1DrawTime_any B p _ (by exact hcur.below A1)).mono ?_
  rintro e w1 ⟨lo, rfl, w1c, w1b⟩
  have s1 : w.heap.size + 1 ≤ w1.heap.size := by have := w1b.2.2.2.1; simpa using this
  have r10 : w1.cell? ⟨w.heap.size, 0, none⟩ = some (.int .i64 0) := by rw [w1b.cell (by simp) hpw]; simp [go_sem]
  have r11 : w1.cell? ⟨w.heap.size, 1, none⟩ = some (.int .i64 0) := by rw [w1b.cell (by simp) hpw]; simp [go_sem]
  have q10 : w1.frozen? ⟨w.heap.size, 0, none⟩ = false := by rw [w1b.frozen (by simp) hpw]; simp [go_sem]
  have q11 : w1.frozen? ⟨w.heap.size, 1, none⟩ = false := by rw [w1b.frozen (by simp) hpw]; simp [go_sem]
  have b1 : But p w w1 := (But.of_below A1).trans w1b
  go_wp2_with fail
  refine (l1Below_any B p 60 _ w1c).mono ?_; rintro e w2 ⟨x, rfl, xl, xh, xp, xz, w2c, w2b⟩
  clear xp xz
  have s2 : w1.heap.size ≤ w2.heap.size := w2b.2.2.2.1
  have l2 : w.heap.size < w2.heap.size := by omega
  have r20 : w2.cell? ⟨w.heap.size, 0, none⟩ = some (.int .i64 0) := by rw [w2b.cell (by omega) hpw]; exact r10
  have r21 : w2.cell? ⟨w.heap.size, 1, none⟩ = some (.int .i64 0) := by rw [w2b.cell (by omega) hpw]; exact r11
  have q20 : w2.frozen? ⟨w.heap.size, 0, none⟩ = false := by rw [w2b.frozen (by omega) hpw]; exact q10
  have q21 : w2.frozen? ⟨w.heap.size, 1, none⟩ = false := by rw [w2b.frozen (by omega) hpw]; exact q11
  have b2 : But p w w2 := b1.trans w2b
  clear r10 r11 q10 q11
  go_wp2_with fail
  refine (l1MinD _ _ _).mono ?_
  rintro e w' ⟨hi, rfl, rfl⟩
  go_wp2_with fail
  have hpl2 := w2c.lt
  have A2 : Below w2.heap.size w2 (w2.alloc (.cells #[.int .i64 lo, .int .i64 hi] 25)) := (Below.refl _ _).alloc (Nat.le_refl _) _
  have hkp : w2.heap.size ≠ p := by omega
  refine (l1Below_any B p 30 _ (by exact w2c.below A2)).mono ?_
  rintro e w3 ⟨y, rfl, yl, yh, yp, yz, w3c, w3b⟩
  clear yp yz
  have s3 : w2.heap.size + 1 ≤ w3.heap.size := by have := w3b.2.2.2.1; simpa using this
  have l3 : w.heap.size < w3.heap.size := by omega
  have k3 : w2.heap.size < w3.heap.size := by omega
  have r30 : w3.cell? ⟨w.heap.size, 0, none⟩ = some (.int .i64 0) := by rw [w3b.cell (by simp; omega) hpw, World.cell?_alloc_lt _ _ _ (by simp; omega)]; exact r20
  have r31 : w3.cell? ⟨w.heap.size, 1, none⟩ = some (.int .i64 0) := by rw [w3b.cell (by simp; omega) hpw, World.cell?_alloc_lt _ _ _ (by simp; omega)]; exact r21
  have q30 : w3.frozen? ⟨w.heap.size, 0, none⟩ = false := by rw [w3b.frozen (by simp; omega) hpw, World.frozen?_alloc_old _ _ _ (by simp; omega)]; exact q20
  have q31 : w3.frozen? ⟨w.heap.size, 1, none⟩ = false := by rw [w3b.frozen (by simp; omega) hpw, World.frozen?_alloc_old _ _ _ (by simp; omega)]; exact q21
  have a30 : w3.cell? ⟨w2.heap.size, 0, none⟩ = some (.int .i64 lo) := by rw [w3b.cell (by simp) hkp]; simp [go_sem]
  have a31 : w3.cell? ⟨w2.heap.size, 1, none⟩ = some (.int .i64 hi) := by rw [w3b.cell (by simp) hkp]; simp [go_sem]
  have z30 : w3.frozen? ⟨w2.heap.size, 0, none⟩ = false := by rw [w3b.frozen (by simp) hkp]; simp [go_sem]
  have z31 : w3.frozen? ⟨w2.heap.size, 1, none⟩ = false := by rw [w3b.frozen (by simp) hkp]; simp [go_sem]
  have b3 : But p w w3 := (b2.alloc _).trans w3b
  have hwk : w.heap.size ≠ w2.heap.size := by omega
  have hBw : B ≤ w.heap.size := by omega
  have hBk : B ≤ w2.heap.size := by omega
  have hwk' : w.heap.size ≤ w2.heap.size := by omega
  clear r20 r21 q20 q21 w1b w2b w3b A1 A2 b1 b2 hcur w1c w2c
  cases hy0 : (y == 0)
  · cases hy1 : (y == 1)
    · cases hy2 : (y == 2)
      · go_wp2_with fail
        exact bodyPost_ret (v := .agg #[.int .i64 lo, .int .i64 hi]) (by simp (maxDischargeDepth := 6) [results, Tryz.results39, go_sem, *]) rfl ⟨_, _, rfl, ((w3c.setOther hpw hBw _ _).setOther hpw hBw _ _), ((b3.setNew (Nat.le_refl _) _ _).setNew (Nat.le_refl _) _ _)⟩
      · go_wp2_with fail
        have hp := pickLit B p w3 [-1000000000000, -1000000000001, -9223372036854775807] w3c (by decide) (by decide); simp only [List.map_cons, List.map_nil, List.length_cons, List.length_nil, Nat.zero_add, Nat.reduceAdd] at hp; refine hp.mono ?_; clear hp; rintro e w4 ⟨v, rfl, w4c, w4b⟩
        have s4 : w3.heap.size ≤ w4.heap.size := w4b.2.2.2.1; (have l4 : w.heap.size < w4.heap.size := by omega); (have k4 : w2.heap.size < w4.heap.size := by omega); (have r40 : w4.cell? ⟨w.heap.size, 0, none⟩ = some (.int .i64 0) := by rw [w4b.cell l3 hpw]; exact r30); (have r41 : w4.cell? ⟨w.heap.size, 1, none⟩ = some (.int .i64 0) := by rw [w4b.cell l3 hpw]; exact r31); (have q40 : w4.frozen? ⟨w.heap.size, 0, none⟩ = false := by rw [w4b.frozen l3 hpw]; exact q30); (have q41 : w4.frozen? ⟨w.heap.size, 1, none⟩ = false := by rw [w4b.frozen l3 hpw]; exact q31); (have a40 : w4.cell? ⟨w2.heap.size, 0, none⟩ = some (.int .i64 lo) := by rw [w4b.cell k3 hkp]; exact a30); (have a41 : w4.cell? ⟨w2.heap.size, 1, none⟩ = some (.int .i64 hi) := by rw [w4b.cell k3 hkp]; exact a31); (have z40 : w4.frozen? ⟨w2.heap.size, 0, none⟩ = false := by rw [w4b.frozen k3 hkp]; exact z30); (have z41 : w4.frozen? ⟨w2.heap.size, 1, none⟩ = false := by rw [w4b.frozen k3 hkp]; exact z31); (have b4 : But p w w4 := b3.trans w4b); clear r30 r31 q30 q31 a30 a31 z30 z31 w4b w3c b3
        go_wp2_with fail
        exact bodyPost_ret (v := .agg #[.int .i64 v, .int .i64 hi]) (by simp (maxDischargeDepth := 6) [results, Tryz.results39, go_sem, *]) rfl ⟨_, _, rfl, (((w4c.setOther hkp hBk _ _).setOther hpw hBw _ _).setOther hpw hBw _ _), (((b4.setNew hwk' _ _).setNew (Nat.le_refl _) _ _).setNew (Nat.le_refl _) _ _)⟩
    · go_wp2_with fail
      have hp := pickLit B p w3 [1000000000000, 1000000000001, 9223372036854775807] w3c (by decide) (by decide); simp only [List.map_cons, List.map_nil, List.length_cons, List.length_nil, Nat.zero_add, Nat.reduceAdd] at hp; refine hp.mono ?_; clear hp; rintro e w4 ⟨v, rfl, w4c, w4b⟩
      have s4 : w3.heap.size ≤ w4.heap.size := w4b.2.2.2.1; (have l4 : w.heap.size < w4.heap.size := by omega); (have k4 : w2.heap.size < w4.heap.size := by omega); (have r40 : w4.cell? ⟨w.heap.size, 0, none⟩ = some (.int .i64 0) := by rw [w4b.cell l3 hpw]; exact r30); (have r41 : w4.cell? ⟨w.heap.size, 1, none⟩ = some (.int .i64 0) := by rw [w4b.cell l3 hpw]; exact r31); (have q40 : w4.frozen? ⟨w.heap.size, 0, none⟩ = false := by rw [w4b.frozen l3 hpw]; exact q30); (have q41 : w4.frozen? ⟨w.heap.size, 1, none⟩ = false := by rw [w4b.frozen l3 hpw]; exact q31); (have a40 : w4.cell? ⟨w2.heap.size, 0, none⟩ = some (.int .i64 lo) := by rw [w4b.cell k3 hkp]; exact a30); (have a41 : w4.cell? ⟨w2.heap.size, 1, none⟩ = some (.int .i64 hi) := by rw [w4b.cell k3 hkp]; exact a31); (have z40 : w4.frozen? ⟨w2.heap.size, 0, none⟩ = false := by rw [w4b.frozen k3 hkp]; exact z30); (have z41 : w4.frozen? ⟨w2.heap.size, 1, none⟩ = false := by rw [w4b.frozen k3 hkp]; exact z31); (have b4 : But p w w4 := b3.trans w4b); clear r30 r31 q30 q31 a30 a31 z30 z31 w4b w3c b3
      go_wp2_with fail
      exact bodyPost_ret (v := .agg #[.int .i64 lo, .int .i64 v]) (by simp (maxDischargeDepth := 6) [results, Tryz.results39, go_sem, *]) rfl ⟨_, _, rfl, (((w4c.setOther hkp hBk _ _).setOther hpw hBw _ _).setOther hpw hBw _ _), (((b4.setNew hwk' _ _).setNew (Nat.le_refl _) _ _).setNew (Nat.le_refl _) _ _)⟩
  · go_wp2_with fail
    exact bodyPost_ret (v := .agg #[.int .i64 lo, .int .i64 (wrap64 (lo - 1))]) (by simp (maxDischargeDepth := 6) [results, Tryz.results39, go_sem, *]) rfl ⟨_, _, rfl, (((w3c.setOther hkp hBk _ _).setOther hpw hBw _ _).setOther hpw hBw _ _), (((b3.setNew hwk' _ _).setNew (Nat.le_refl _) _ _).setNew (Nat.le_refl _) _ _)⟩
end Go.Proofs.YtcakhfobkbgfoaaGreatDoor
namespace Go.Proofs.YtcakhfobkbgfoaaGreatDoor
open Go.RowKit
set_option linter.unusedVariables false
theorem curNew (w : World) (a : Option Addr) (n c : Nat) (h : Int) (T : TypeId) (hn : n ≤ 1048576) (hcode : CodeB w w.heap.size a n) : CurOk (w.alloc (.cells #[.slice a n c, .int .i64 0, .int .i64 h] T)) w.heap.size w.heap.size :=
  ⟨a, n, c, 0, h, by simp, by simp, by simp, by simp, by simp, by simp, Nat.zero_le _, hn, hcode.below ((Below.refl _ _).alloc (Nat.le_refl _) _), Nat.le_refl _, by simp⟩
set_option maxHeartbeats 1000000 in
theorem l1New_any (a : Option Addr) (n c : Nat) (w : World) (hn : n ≤ 1048576) (hcode : CodeB w w.heap.size a n) :
    Calls Tryz.prog 14 #[.slice a n c] w fun e w' => ∃ p, e = .returned (.pointer (some ⟨p, 0, none⟩)) ∧ CurOk w' w.heap.size p ∧ Below w.heap.size w w' := by
  have HC : Hid (CodeB w w.heap.size a n) := hcode
  clear hcode
  go_enter Tryz.func14, Tryz.ntmps14
  go_wp2_with fail
  go_loop [3, 4] (fun hv i => ∃ k : Nat, ∃ h : Int, k ≤ n ∧ i = .int .i64 k ∧ hv = .int .i64 h) (fun _ i => n - (intOf i).toNat)
  case atStart => exact ⟨0, _, Nat.zero_le _, rfl, rfl⟩
  case round =>
    obtain ⟨k, h, hk, rfl, rfl⟩ := hrel
    by_cases hlt : k < n
    · have hli : (k : Int) < (n : Int) := by omega
      by_cases h4 : (k : Int) < 4000
      · rcases HC.out with h0 | ⟨b, off, rfl, hb, hz⟩
        · omega
        · obtain ⟨z, hz, z0, z1⟩ := hz k hlt
          go_wp2_with fail
          go_round
          case rel => exact ⟨k + 1, _, by omega, by go_num, rfl⟩
          case measure => simp [intOf]; omega
      · have hd : decide ((k : Int) < 4000) = false := by simp; omega
        go_wp2_with fail
        go_ret
        exact ⟨_, rfl, curNew _ _ _ _ _ _ hn HC.out, (Below.refl _ _).alloc (Nat.le_refl _) _⟩
    · have hd : decide ((k : Int) < (n : Int)) = false := by simp; omega
      go_wp2_with fail
      go_ret
      exact ⟨_, rfl, curNew _ _ _ _ _ _ hn HC.out, (Below.refl _ _).alloc (Nat.le_refl _) _⟩
end Go.Proofs.YtcakhfobkbgfoaaGreatDoor
namespace Go.Proofs.YtcakhfobkbgfoaaGreatDoor
open Go.RowKit
set_option linter.unusedVariables false
theorem CurOk.drew {w : World} {B p : Nat} (h : CurOk w B p) : CurOk w.drew B p := h
theorem But.drew {p : Nat} {a w : World} (h : But p a w) : But p a w.drew := h
def Box (w : World) (k : Nat) (x y : Int) : Prop := k < w.heap.size ∧ w.cell? ⟨k, 0, none⟩ = some (.int .i64 x) ∧ w.cell? ⟨k, 1, none⟩ = some (.int .i64 y) ∧ w.frozen? ⟨k, 0, none⟩ = false ∧ w.frozen? ⟨k, 1, none⟩ = false
theorem Box.but {p k : Nat} {w w' : World} {x y : Int} (h : Box w k x y) (hw : But p w w') (hk : k ≠ p) : Box w' k x y :=
  ⟨Nat.lt_of_lt_of_le h.1 hw.2.2.2.1, by rw [hw.cell h.1 hk]; exact h.2.1, by rw [hw.cell h.1 hk]; exact h.2.2.1, by rw [hw.frozen h.1 hk]; exact h.2.2.2.1, by rw [hw.frozen h.1 hk]; exact h.2.2.2.2⟩
theorem Box.below {k : Nat} {w w' : World} {x y : Int} (h : Box w k x y) (hw : Below w.heap.size w w') : Box w' k x y :=
  ⟨Nat.lt_of_lt_of_le h.1 hw.size, by rw [hw.cell (p := ⟨k, 0, none⟩) h.1]; exact h.2.1, by rw [hw.cell (p := ⟨k, 1, none⟩) h.1]; exact h.2.2.1, by rw [hw.frozen (p := ⟨k, 0, none⟩) h.1]; exact h.2.2.2.1, by rw [hw.frozen (p := ⟨k, 1, none⟩) h.1]; exact h.2.2.2.2⟩
theorem Box.alloc {k : Nat} {w : World} {x y : Int} (h : Box w k x y) (o : Obj) : Box (w.alloc o) k x y := h.below ((Below.refl _ _).alloc (Nat.le_refl _) _)
theorem Box.setOther {k j : Nat} {w : World} {x y : Int} (h : Box w k x y) (hk : j ≠ k) (o : Nat) (u : Value) : Box (w.setCell ⟨j, o, none⟩ u) k x y := by
  have hne : ∀ q, (⟨j, o, none⟩ : Addr) ≠ ⟨k, q, none⟩ := fun q e => hk (congrArg Addr.block e)
  exact ⟨by simpa using h.1, by rw [World.cell?_setCell_other _ _ _ _ (hne _)]; exact h.2.1, by rw [World.cell?_setCell_other _ _ _ _ (hne _)]; exact h.2.2.1, by simpa using h.2.2.2.1, by simpa using h.2.2.2.2⟩
theorem Box.set {k : Nat} {w : World} {x y : Int} (h : Box w k x y) (x' y' : Int) : Box ((w.setCell ⟨k, 0, none⟩ (.int .i64 x')).setCell ⟨k, 1, none⟩ (.int .i64 y')) k x' y' := by
  refine ⟨by simpa using h.1, ?_, ?_, by simpa using h.2.2.2.1, by simpa using h.2.2.2.2⟩
  · rw [World.cell?_setCell_other _ _ _ _ (by simp), World.cell?_setCell_same _ _ _ h.2.1]
  · exact World.cell?_setCell_same _ _ _ (by rw [World.cell?_setCell_other _ _ _ _ (by simp)]; exact h.2.2.1)
theorem Box.new (w : World) (x y : Int) (T : TypeId) : Box (w.alloc (.cells #[.int .i64 x, .int .i64 y] T)) w.heap.size x y := ⟨by simp, by simp, by simp, by simp, by simp⟩
theorem CodeB.more {w : World} {B B' : Nat} {a : Option Addr} {n : Nat} (h : CodeB w B a n) (hB : B ≤ B') : CodeB w B' a n := by
  rcases h with h | ⟨b, off, h1, h2, h3⟩
  · exact .inl h
  · exact .inr ⟨b, off, h1, by omega, h3⟩
/- What a new world holds after an alloc or a store, for go_wp2's simp. -/
theorem Below.al (w : World) (o : Obj) : Below w.heap.size w (w.alloc o) := (Below.refl _ _).alloc (Nat.le_refl _) _
end Go.Proofs.YtcakhfobkbgfoaaGreatDoor
namespace Go.Proofs.YtcakhfobkbgfoaaGreatDoor
open Go.RowKit
set_option linter.unusedVariables false
set_option maxHeartbeats 1000000 in
theorem l2DrawCount_any (B p : Nat) (w : World) (hcur : CurOk w B p) :
    Calls Tryz.prog 40 #[.pointer (some ⟨p, 0, none⟩)] w fun e w' => ∃ v : Int, e = .returned (.int .i64 v) ∧ CurOk w' B p ∧ But p w w' := by
  go_enter Tryz.func40, Tryz.ntmps40
  go_wp2_with fail
  refine (l1Below_any B p 14 _ hcur).mono ?_; rintro e w1 ⟨x, rfl, xl, xh, xp, xz, w1c, w1b⟩
  clear xp xz
  cases hx0 : (x == 0)
  · cases hx1 : (x == 1)
    · cases hx2 : (x == 2)
      · go_wp2_with fail
        refine (l1Below_any B p 5000 _ w1c).mono ?_; rintro e w2 ⟨y, rfl, yl, yh, yp, yz, w2c, w2b⟩
        clear yp yz
        go_wp2_with fail
        go_ret
        exact ⟨_, rfl, w2c, w1b.trans w2b⟩
      · go_wp2_with fail
        refine (l1Below_any B p 6 _ w1c).mono ?_; rintro e w2 ⟨y, rfl, yl, yh, yp, yz, w2c, w2b⟩
        clear yp yz
        go_wp2_with fail
        go_ret
        exact ⟨_, rfl, w2c, w1b.trans w2b⟩
    · go_wp2_with fail
      refine (l1Below_any B p 1000000000 _ w1c).mono ?_; rintro e w2 ⟨y, rfl, yl, yh, yp, yz, w2c, w2b⟩
      clear yp yz
      go_wp2_with fail
      go_ret
      exact ⟨_, rfl, w2c, w1b.trans w2b⟩
  · go_wp2_with fail
    have hp := pickLit B p w1 [-1, 0, 1000000000000, 1000000000001, 500000000000, 666666666666, 9223372036854775807] w1c (by decide) (by decide); simp only [List.map_cons, List.map_nil, List.length_cons, List.length_nil, Nat.zero_add, Nat.reduceAdd] at hp; refine hp.mono ?_; clear hp; rintro e w3 ⟨v, rfl, w3c, w3b⟩
    go_wp2_with fail
    go_ret
    exact ⟨_, rfl, w3c, w1b.trans w3b⟩
set_option maxHeartbeats 3200000 in
theorem l2DrawDrift_any (B p : Nat) (w : World) (hcur : CurOk w B p) :
    Calls Tryz.prog 18 #[.pointer (some ⟨p, 0, none⟩)] w fun e w' => ∃ x y : Int, e = .returned (.agg #[.int .i64 x, .int .i64 y]) ∧ CurOk w' B p ∧ But p w w' := by
  have hpl := hcur.lt
  have hpw : w.heap.size ≠ p := by omega
  have hBw : B ≤ w.heap.size := by omega
  have A1 : Below w.heap.size w (w.alloc (.cells #[.int .i64 0, .int .i64 0] 29)) := Below.al _ _
  have R0 : Box (w.alloc (.cells #[.int .i64 0, .int .i64 0] 29)) w.heap.size 0 0 := Box.new w 0 0 29
  go_enter Tryz.func18, Tryz.ntmps18
  go_wp2_with fail
  refine (l1Below_any B p 6 _ (by exact hcur.below A1)).mono ?_
  rintro e w1 ⟨x, rfl, xl, xh, xp, xz, w1c, w1b⟩
  have R1 := R0.but w1b hpw
  have b1 : But p w w1 := (But.of_below A1).trans w1b
  clear xp xz R0 A1 w1b
  go_wp2_with fail
  refine (l1Below_any B p 90 _ w1c).mono ?_
  rintro e w2 ⟨y, rfl, yl, yh, yp, yz, w2c, w2b⟩
  have R2 := R1.but w2b hpw
  have b2 : But p w w2 := b1.trans w2b
  have q2 := w2c.lt
  have hk : w2.heap.size ≠ p := by omega
  have A2 : Below w2.heap.size w2 (w2.alloc (.cells #[.int .i64 x, .int .i64 (12 + y)] 29)) := Below.al _ _
  have N2 := Box.new w2 x (12 + y) 29
  clear yp yz R1 b1 w2b w1c
  go_wp2_with fail
  refine (l1Below_any B p 16 _ (by exact w2c.below A2)).mono ?_
  rintro e w3 ⟨z, rfl, zl, zh, zp, zz, w3c, w3b⟩
  have R3 := (R2.below A2).but w3b hpw
  have N3 := N2.but w3b hk
  have b3 : But p w w3 := (b2.alloc _).trans w3b
  have hwk : w.heap.size < w2.heap.size := R2.1
  have hwk' : w.heap.size ≤ w2.heap.size := by omega
  have hBk : B ≤ w2.heap.size := by omega
  have n1 : w.heap.size ≠ w2.heap.size := by omega
  have n2 : w2.heap.size ≠ w.heap.size := by omega
  clear zp zz R2 N2 b2 w3b A2 w2c hcur
  cases hz0 : (z == 0)
  · cases hz1 : (z == 1)
    · cases hz2 : (z == 2)
      · obtain ⟨g1, g2, g3, g4, g5⟩ := R3; obtain ⟨m1, m2, m3, m4, m5⟩ := N3
        go_wp2_with fail
        exact bodyPost_ret (v := .agg #[.int .i64 x, .int .i64 (12 + y)]) (by simp (maxDischargeDepth := 6) [results, Tryz.results18, go_sem, *]) rfl ⟨_, _, rfl, ((w3c.setOther hpw hBw _ _).setOther hpw hBw _ _), ((b3.setNew (Nat.le_refl _) _ _).setNew (Nat.le_refl _) _ _)⟩
      · obtain ⟨g1, g2, g3, g4, g5⟩ := R3; obtain ⟨m1, m2, m3, m4, m5⟩ := N3
        go_wp2_with fail
        exact bodyPost_ret (v := .agg #[.int .i64 0, .int .i64 1]) (by simp (maxDischargeDepth := 6) [results, Tryz.results18, go_sem, *]) rfl ⟨_, _, rfl, ((((w3c.setOther hk hBk _ _).setOther hk hBk _ _).setOther hpw hBw _ _).setOther hpw hBw _ _), ((((b3.setNew hwk' _ _).setNew hwk' _ _).setNew (Nat.le_refl _) _ _).setNew (Nat.le_refl _) _ _)⟩
    · go_wp2_with fail
      have hp := pickLit B p w3 [0, 1, -1, 3] w3c (by decide) (by decide); simp only [List.map_cons, List.map_nil, List.length_cons, List.length_nil, Nat.zero_add, Nat.reduceAdd] at hp; refine hp.mono ?_; clear hp; rintro e w4 ⟨v, rfl, w4c, w4b⟩
      have R4 := R3.but w4b hpw
      have N4 := N3.but w4b hk
      have b4 : But p w w4 := b3.trans w4b
      clear R3 N3 b3 w4b w3c
      go_wp2_with fail
      have hp := pickLit B p w4 [0, 1, 2, 3, 6, -1] w4c (by decide) (by decide); simp only [List.map_cons, List.map_nil, List.length_cons, List.length_nil, Nat.zero_add, Nat.reduceAdd] at hp; refine hp.mono ?_; clear hp; rintro e w5 ⟨u, rfl, w5c, w5b⟩
      have R5 := R4.but w5b hpw
      have N5 := N4.but w5b hk
      have b5 : But p w w5 := b4.trans w5b
      clear R4 N4 b4 w5b w4c
      obtain ⟨g1, g2, g3, g4, g5⟩ := R5; obtain ⟨m1, m2, m3, m4, m5⟩ := N5
      go_wp2_with fail
      exact bodyPost_ret (v := .agg #[.int .i64 v, .int .i64 u]) (by simp (maxDischargeDepth := 6) [results, Tryz.results18, go_sem, *]) rfl ⟨_, _, rfl, ((((w5c.setOther hk hBk _ _).setOther hk hBk _ _).setOther hpw hBw _ _).setOther hpw hBw _ _), ((((b5.setNew hwk' _ _).setNew hwk' _ _).setNew (Nat.le_refl _) _ _).setNew (Nat.le_refl _) _ _)⟩
  · go_wp2_with fail
    have hp := pickLit B p w3 [0, 1, 500000, 500001, 100] w3c (by decide) (by decide); simp only [List.map_cons, List.map_nil, List.length_cons, List.length_nil, Nat.zero_add, Nat.reduceAdd] at hp; refine hp.mono ?_; clear hp; rintro e w4 ⟨v, rfl, w4c, w4b⟩
    have R4 := R3.but w4b hpw
    have N4 := N3.but w4b hk
    have b4 : But p w w4 := b3.trans w4b
    clear R3 N3 b3 w4b w3c
    go_wp2_with fail
    have hp := pickLit B p w4 [1000000, 1000001, 999999] w4c (by decide) (by decide); simp only [List.map_cons, List.map_nil, List.length_cons, List.length_nil, Nat.zero_add, Nat.reduceAdd] at hp; refine hp.mono ?_; clear hp; rintro e w5 ⟨u, rfl, w5c, w5b⟩
    have R5 := R4.but w5b hpw
    have N5 := N4.but w5b hk
    have b5 : But p w w5 := b4.trans w5b
    clear R4 N4 b4 w5b w4c
    obtain ⟨g1, g2, g3, g4, g5⟩ := R5; obtain ⟨m1, m2, m3, m4, m5⟩ := N5
    go_wp2_with fail
    exact bodyPost_ret (v := .agg #[.int .i64 v, .int .i64 u]) (by simp (maxDischargeDepth := 6) [results, Tryz.results18, go_sem, *]) rfl ⟨_, _, rfl, ((((w5c.setOther hk hBk _ _).setOther hk hBk _ _).setOther hpw hBw _ _).setOther hpw hBw _ _), ((((b5.setNew hwk' _ _).setNew hwk' _ _).setNew (Nat.le_refl _) _ _).setNew (Nat.le_refl _) _ _)⟩
set_option maxHeartbeats 400000 in
theorem big_any (a : Option Addr) (n c : Nat) (w : World) :
    Calls Tryz.prog 4 #[.slice a n c] w fun e w' => e = .returned (.bool (decide (1048576 < (n : Int)))) ∧ w = w' := by
  go_enter Tryz.func4, Tryz.ntmps4
  go_wp2
  go_ret
  exact ⟨rfl, rfl⟩
set_option maxHeartbeats 400000 in
theorem at_any (a : Option Addr) (n c i B : Nat) (w : World) (hn : n ≤ 1048576) (hi : i ≤ 1000) (hcode : CodeB w B a n) :
    Calls Tryz.prog 13 #[.slice a n c, .int .i64 i] w fun e w' => ∃ x : Int, e = .returned (.int .i64 x) ∧ 0 ≤ x ∧ x ≤ 255 ∧ w = w' := by
  by_cases h : i < n
  · have hd : (i : Int) < (n : Int) := by omega
    rcases hcode with h0 | ⟨b, off, rfl, hb, hz⟩
    · omega
    · obtain ⟨z, hz, z0, z1⟩ := hz i h
      go_enter Tryz.func13, Tryz.ntmps13
      go_wp2_with fail
      go_ret
      exact ⟨z, rfl, z0, z1, rfl⟩
  · have hd : decide ((i : Int) < (n : Int)) = false := by simp; omega
    have hm := Int.emod_lt_of_pos ((i : Int) * 7 + n) (b := 256) (by omega)
    have hm0 := Int.emod_nonneg ((i : Int) * 7 + n) (b := 256) (by omega)
    clear hcode
    go_enter Tryz.func13, Tryz.ntmps13
    go_wp2_with fail
    go_ret
    exact ⟨_, rfl, by omega, by omega, rfl⟩
end Go.Proofs.YtcakhfobkbgfoaaGreatDoor
namespace Go.Proofs.YtcakhfobkbgfoaaGreatDoor
open Go.RowKit
set_option linter.unusedVariables false
/- Numbers of occurrences: two of them lie apart; each time of one is found in it. -/
theorem ocB_t {s g : Int} {M : Nat → SlT} {n : Nat} {i k : Int} (h : ocB s g M n i k = true) : ocG s g M n i k = true ∧ okI (ocF s g M n i k) (ocF s g M n i k + (M i.toNat).2) = true := by
  unfold ocB at h
  rw [Bool.and_eq_true] at h
  exact h
theorem ocG_k {s g : Int} {M : Nat → SlT} {n : Nat} {i k : Int} (h : ocG s g M n i k = true) : sfB s g M n i = true ∧ okK (upS g M n) k = true := by
  unfold ocG at h
  rw [Bool.and_eq_true] at h
  exact h
/- What an occurrence that is told is made of. -/
theorem oc_parts {s g : Int} {M : Nat → SlT} {n : Nat} {i k : Int} (h : ocB s g M n i k = true) :
    plB s g M n = true ∧ i.toNat < n ∧ (i.toNat : Int) = i ∧ 0 ≤ k ∧ ocL s g M n i k = s + k * upS g M n + upS g M i.toNat ∧ ocH s g M n i k = s + k * upS g M n + upS g M i.toNat + (M i.toNat).2 ∧ 1 ≤ (M i.toNat).2 ∧ 0 ≤ upS g M i.toNat ∧ upS g M i.toNat + (M i.toNat).2 ≤ upS g M n ∧ 0 ≤ s ∧ ocH s g M n i k ≤ 1000000000000 ∧ okK (upS g M n) k = true ∧ 1 ≤ upS g M n ∧ 0 ≤ k * upS g M n := by
  obtain ⟨hG, hI⟩ := ocB_t h
  obtain ⟨b1, b2, b3, b4, b5, b6, b7⟩ := ocG_bd hG
  obtain ⟨g1, g2⟩ := ocG_k hG
  obtain ⟨p1, p2, p3, p4⟩ := plB_t b7
  obtain ⟨y1, y2⟩ := oc_yes h
  have hr := rn_bd b7
  have hk := okK_t hr.1 g2
  have hu := upS_bd p2 p4 i.toNat (by omega)
  have ha := upS_add p2 p4 b5 (Nat.le_refl n)
  have i1 := okI_t hI
  refine ⟨b7, b5, b6, hk.1, y1, y2, b4.1, by omega, by omega, p1.1, by rw [y2]; exact i1.2.2, g2, hr.1, b1.1⟩
theorem mul_step {k m r : Int} (h : k < m) (hr : 0 ≤ r) : k * r + r ≤ m * r := by
  have := Int.mul_le_mul_of_nonneg_right (show k + 1 ≤ m by omega) hr
  rw [Int.add_mul, Int.one_mul] at this
  exact this
theorem oc_apart {s g : Int} {M : Nat → SlT} {n : Nat} {i k j m : Int} (ha : ocB s g M n i k = true) (hb : ocB s g M n j m = true) (hne : i ≠ j ∨ k ≠ m) :
    ¬ (ocL s g M n i k < ocH s g M n j m ∧ ocL s g M n j m < ocH s g M n i k) := by
  obtain ⟨a1, a2, a3, a4, a5, a6, a7, a8, a9, a10, a11, a12, a13, a14⟩ := oc_parts ha
  obtain ⟨b1, b2, b3, b4, b5, b6, b7, b8, b9, b10, b11, b12, b13, b14⟩ := oc_parts hb
  obtain ⟨p1, p2, p3, p4⟩ := plB_t a1
  rw [a5, a6, b5, b6]
  by_cases hk : k < m
  · have := mul_step hk (show 0 ≤ upS g M n by omega)
    omega
  · by_cases hm : m < k
    · have := mul_step hm (show 0 ≤ upS g M n by omega)
      omega
    · have e : k = m := by omega
      subst e
      by_cases hij : i.toNat < j.toNat
      · have := upS_add p2 p4 hij (by omega)
        omega
      · by_cases hji : j.toNat < i.toNat
        · have := upS_add p2 p4 hji (by omega)
          omega
        · omega
theorem div_is {x k r : Int} (hr : 1 ≤ r) (h1 : k * r ≤ x) (h2 : x < k * r + r) : x / r = k := by
  have e : x = (x - k * r) + k * r := by omega
  rw [e, Int.add_mul_ediv_right _ _ (by omega), Int.ediv_eq_zero_of_lt (by omega) (by omega), Int.zero_add]
/- A time of an occurrence is found in it. -/
theorem oc_found {s g : Int} {M : Nat → SlT} {n : Nat} {i k t : Int} (h : ocB s g M n i k = true) (h1 : ocL s g M n i k ≤ t) (h2 : t < ocH s g M n i k) :
    saB s g M n t = true ∧ saI s g M n t = i ∧ saK s g M n t = k := by
  obtain ⟨a1, a2, a3, a4, a5, a6, a7, a8, a9, a10, a11, a12, a13, a14⟩ := oc_parts h
  obtain ⟨p1, p2, p3, p4⟩ := plB_t a1
  have hR : saR s g M n t = k := by
    unfold saR
    exact div_is a13 (by omega) (by omega)
  have hG : saG s g M n t = true := by
    unfold saG okT
    rw [a1, decide_eq_true (⟨by omega, by omega⟩ : 0 ≤ t ∧ t ≤ 1000000000000), decide_eq_false (by omega : ¬ t < s)]
    rfl
  have hP : saP s g M n t i.toNat = true := by
    unfold saP
    rw [hR, a3, h, decide_eq_true h1, decide_eq_true h2]
    rfl
  have hN : ∀ j, j < i.toNat → saP s g M n t j = false := by
    intro j hj
    unfold saP
    rw [hR]
    cases hb : ocB s g M n (j : Int) k
    · rfl
    · obtain ⟨b1, b2, b3, b4, b5, b6, b7, b8, b9, b10, b11, b12, b13, b14⟩ := oc_parts hb
      have hjj : (j : Int).toNat = j := by omega
      have := upS_add p2 p4 hj (by omega)
      rw [hjj] at b6
      rw [decide_eq_false (by omega : ¬ t < ocH s g M n (j : Int) k)]
      simp
  have hF : fnd (saP s g M n t) n = i.toNat := by
    have e : ∀ j, j ≤ i.toNat → fnd (saP s g M n t) j = j := by
      intro j
      induction j with
      | zero => intro _; rfl
      | succ j ih => intro hj; exact fnd_miss (ih (by omega)) (hN j (by omega))
    exact fnd_is (e _ (Nat.le_refl _)) hP a2
  have hB : saB s g M n t = true := by
    unfold saB
    rw [hG, hF, decide_eq_true a2]
    rfl
  obtain ⟨y1, y2, y3, y4⟩ := sa_yes hB
  exact ⟨hB, by rw [y1, hF, a3], by rw [y2, hR]⟩
/- What SlotAt tells holds the time. -/
theorem sa_holds {s g : Int} {M : Nat → SlT} {n : Nat} {t : Int} (h : saB s g M n t = true) : ocB s g M n (saI s g M n t) (saK s g M n t) = true ∧ ocL s g M n (saI s g M n t) (saK s g M n t) ≤ t ∧ t < ocH s g M n (saI s g M n t) (saK s g M n t) := by
  obtain ⟨y1, y2, y3, y4⟩ := sa_yes h
  have := fnd_so y3
  unfold saP at this
  simp only [Bool.and_eq_true, decide_eq_true_eq] at this
  rw [y1, y2]
  exact this
theorem oc_behind {s g : Int} {M : Nat → SlT} {n : Nat} {i k : Int} : ¬ (saB s g M n (ocH s g M n i k) = true ∧ saI s g M n (ocH s g M n i k) = i ∧ saK s g M n (ocH s g M n i k) = k) := by
  rintro ⟨h1, h2, h3⟩
  have := (sa_holds h1).2.2
  rw [h2, h3] at this
  omega
theorem oc_from {s g : Int} {M : Nat → SlT} {n : Nat} {i k : Int} (h : ocB s g M n i k = true) : sfB s g M n i = true ∧ sfI s g M n i = ocL s g M n i k - s - k * rnI s g M n := by
  obtain ⟨a1, a2, a3, a4, a5, a6, a7, a8, a9, a10, a11, a12, a13, a14⟩ := oc_parts h
  have hs := (ocG_k (ocB_t h).1).1
  refine ⟨hs, ?_⟩
  unfold sfI
  rw [hs, a5, rnI_t a1]
  show upS g M i.toNat = _
  omega
end Go.Proofs.YtcakhfobkbgfoaaGreatDoor
namespace Go.Proofs.YtcakhfobkbgfoaaGreatDoor
open Go.RowKit
set_option linter.unusedVariables false
theorem mo_parts5 {n d x : Int} (h : moB n d x = true) : okD n d = true ∧ okT x = true ∧ okT (dnI (x * d) (d - n)) = true ∧ moT n d x = dnI (x * d) (d - n) := by
  have e : moT n d x = dnI (x * d) (d - n) := sel_t h _
  unfold moB rB at h
  simp only [Bool.and_eq_true] at h
  exact ⟨h.1.1, h.1.2, h.2, e⟩
/- What may take most takes no less than its counts; what takes least no more. -/
theorem le_mo {n d x : Int} (h : moB n d x = true) : leB n d x = true ∧ 0 ≤ leT n d x ∧ leT n d x ≤ x ∧ x ≤ moT n d x ∧ moT n d x ≤ 1000000000000 := by
  obtain ⟨h1, h2, h3, h4⟩ := mo_parts5 h
  obtain ⟨d1, d2, d3, d4⟩ := okD_t h1
  have t := okT_t h2
  have hb := okT_t h3
  have k1 : upI (x * d) (d + n) ≤ x := by
    have hx : x * d ≤ x * (d + n) := Int.mul_le_mul_of_nonneg_left (by omega) t.1
    have : (x * d + (d + n) - 1) / (d + n) < x + 1 := by
      refine Int.ediv_lt_of_lt_mul (by omega) ?_
      rw [Int.add_mul, Int.one_mul]
      omega
    unfold upI
    omega
  have k2 : x ≤ dnI (x * d) (d - n) := by
    refine (Int.le_ediv_iff_mul_le (by omega)).2 ?_
    exact Int.mul_le_mul_of_nonneg_left (by omega) t.1
  have k3 : 0 ≤ upI (x * d) (d + n) := (upI_bd (Int.mul_nonneg t.1 (by omega)) (by omega)).1
  have hl : leB n d x = true := by
    unfold leB rB
    rw [h1, h2, show okT (upI (x * d) (d + n)) = true from decide_eq_true ⟨k3, by omega⟩]
    rfl
  have e : leT n d x = upI (x * d) (d + n) := sel_t hl _
  rw [e, h4]
  exact ⟨hl, k3, k1, k2, hb.2⟩
theorem gs_parts {lo hi n d x : Int} (h : gsB lo hi n d x = true) : moB n d x = true ∧ 1 ≤ x ∧ gsL lo hi n d x = lo ∧ gsH lo hi n d x = hi + moT n d x ∧ okI lo hi = true ∧ okI lo (hi + moT n d x) = true := by
  have e1 : gsL lo hi n d x = lo := by unfold gsL; rw [sel_t h]; omega
  have e2 : gsH lo hi n d x = hi + moT n d x := by unfold gsH; rw [sel_t h]
  unfold gsB spreadB at h
  simp only [Bool.and_eq_true, Bool.not_eq_true', decide_eq_false_iff_not] at h
  obtain ⟨⟨h1, h2⟩, ⟨h3, _⟩, h5⟩ := h
  rw [Int.sub_zero] at h5
  exact ⟨h1, by omega, e1, e2, h3, h5⟩
theorem is_parts {s g : Int} {M : Nat → SlT} {n : Nat} {o f t : Int} (h : isB s g M n o f t = true) :
    isI s g M n o f t = saI s g M n f ∧ isK s g M n o f t = saK s g M n f ∧ saB s g M n f = true ∧ (M (saI s g M n f).toNat).1 = o ∧ f ≤ t ∧ t ≤ ocH s g M n (saI s g M n f) (saK s g M n f) := by
  have e1 : isI s g M n o f t = saI s g M n f := by unfold isI; rw [h]
  have e2 : isK s g M n o f t = saK s g M n f := by unfold isK; rw [h]
  unfold isB at h
  simp only [Bool.and_eq_true, Bool.not_eq_true', decide_eq_false_iff_not, beq_iff_eq] at h
  exact ⟨e1, e2, h.1, h.2.1, by omega, by omega⟩
theorem is_of {s g : Int} {M : Nat → SlT} {n : Nat} {o f t : Int} (h1 : saB s g M n f = true) (h2 : (M (saI s g M n f).toNat).1 = o) (h3 : f ≤ t) (h4 : t ≤ ocH s g M n (saI s g M n f) (saK s g M n f)) : isB s g M n o f t = true := by
  unfold isB
  rw [h1, beq_iff_eq.2 h2, decide_eq_false (by omega), decide_eq_false (by omega)]
  rfl
theorem ga_parts {kn : Bool} {lo hi n d x s g : Int} {M : Nat → SlT} {m : Nat} {o : Int} (e : gaG kn lo hi n d x s g M m o = true) : kn = true ∧ gaP kn lo hi n d x (plB s g M m) o = true ∧ gsB lo hi n d x = true ∧ isB s g M m o (gsL lo hi n d x) (gsH lo hi n d x) = true := by
  unfold gaG at e
  simp only [Bool.and_eq_true] at e
  exact ⟨e.2.1, e.1, e.2.2.1, e.2.2.2⟩
/- What the gate lets go lies in the occurrence that is told, whatever time of the interval it is, however long it takes. -/
theorem gate_truth {kn : Bool} {lo hi n d x s g : Int} {M : Nat → SlT} {m : Nat} {o : Int} (e : gaG kn lo hi n d x s g M m o = true) :
    ∃ i : Nat, gaI kn lo hi n d x s g M m o = (i : Int) ∧ i < m ∧ ocB s g M m i (gaK kn lo hi n d x s g M m o) = true ∧ (M i).1 = o ∧ ocL s g M m i (gaK kn lo hi n d x s g M m o) ≤ lo ∧ hi + moT n d x ≤ ocH s g M m i (gaK kn lo hi n d x s g M m o) ∧ ocH s g M m i (gaK kn lo hi n d x s g M m o) = ocL s g M m i (gaK kn lo hi n d x s g M m o) + (M i).2 ∧ okI lo hi = true ∧ moB n d x = true ∧ 1 ≤ x := by
  obtain ⟨_, e1, e2⟩ := ga_go e
  obtain ⟨_, _, hs, hi'⟩ := ga_parts e
  obtain ⟨s1, s2, s3, s4, s5, s6⟩ := gs_parts hs
  rw [s3, s4] at e1 e2 hi'
  obtain ⟨i1, i2, i3, i4, i5, i6⟩ := is_parts hi'
  obtain ⟨a1, a2, a3⟩ := sa_holds i3
  obtain ⟨b1, b2, b3, b4, b5, b6, b7⟩ := oc_parts a1
  refine ⟨(saI s g M m lo).toNat, by rw [e1, i1, b3], b2, ?_⟩
  rw [e2, i2, b3]
  refine ⟨a1, i4, a2, i6, by omega, s5, s1, s2⟩
/- No wider than its budget. -/
theorem bst_ge {M : Nat → SlT} {o : Int} {i : Nat} (ho : (M i).1 = o) : ∀ {k : Nat}, i < k → (M i).2 ≤ bst M o k
  | 0, h => absurd h (Nat.not_lt_zero _)
  | k + 1, h => by
    rw [bst]
    by_cases c : i < k
    · have ih := bst_ge ho c
      cases e : ((M k).1 == o)
      · exact ih
      · show _ ≤ imx (bst M o k) (M k).2
        unfold imx
        split <;> omega
    · obtain rfl : i = k := by omega
      rw [beq_iff_eq.2 ho]
      show _ ≤ imx (bst M o i) (M i).2
      unfold imx
      split <;> omega
theorem gate_budget {kn : Bool} {lo hi n d x s g : Int} {M : Nat → SlT} {m : Nat} {o : Int} (e : gaG kn lo hi n d x s g M m o = true) : gbB s g M m o n d x = true ∧ hi - lo ≤ gbI s g M m o n d x := by
  obtain ⟨i, h1, h2, h3, h4, h5, h6, h7, h8, h9, h10⟩ := gate_truth e
  have hb := bst_ge h4 h2
  have hl := le_mo h9
  have hI := okI_t h8
  have hp : plB s g M m = true := (oc_parts h3).1
  have hB : gbB s g M m o n d x = true := by
    unfold gbB
    rw [hp, h9, decide_eq_false (show ¬ x < 1 by omega), decide_eq_false (show ¬ bst M o m < moT n d x by omega), beq_eq_false_iff_ne.2 (show bst M o m ≠ 0 by omega)]
    rfl
  refine ⟨hB, ?_⟩
  unfold gbI
  rw [sel_t hB]
  omega
/- The gate goes just where an occurrence of a slot of that owner, of the round that the beginning lies in, has the whole. -/
def fdP (s g : Int) (M : Nat → SlT) (m : Nat) (o f t : Int) (i : Nat) : Bool := ocB s g M m i (saR s g M m f) && ((M i).1 == o && (decide (ocL s g M m i (saR s g M m f) ≤ f) && decide (t ≤ ocH s g M m i (saR s g M m f))))
def fdA (s g : Int) (M : Nat → SlT) (m : Nat) (o f t : Int) : Nat → Bool
  | 0 => false
  | i + 1 => fdA s g M m o f t i || fdP s g M m o f t i
theorem fdA_t {s g : Int} {M : Nat → SlT} {m : Nat} {o f t : Int} : ∀ {k : Nat}, fdA s g M m o f t k = true → ∃ i, i < k ∧ fdP s g M m o f t i = true
  | 0, h => by rw [fdA] at h; exact Bool.noConfusion h
  | k + 1, h => by
    rw [fdA, Bool.or_eq_true] at h
    rcases h with h | h
    · obtain ⟨i, h1, h2⟩ := fdA_t h
      exact ⟨i, by omega, h2⟩
    · exact ⟨k, by omega, h⟩
theorem fdA_of {s g : Int} {M : Nat → SlT} {m : Nat} {o f t : Int} {i : Nat} (h : fdP s g M m o f t i = true) : ∀ {k : Nat}, i < k → fdA s g M m o f t k = true
  | 0, hk => absurd hk (Nat.not_lt_zero _)
  | k + 1, hk => by
    rw [fdA]
    by_cases c : i < k
    · rw [fdA_of h c]; rfl
    · obtain rfl : i = k := by omega
      rw [h, Bool.or_true]
theorem gate_exact {s g : Int} {M : Nat → SlT} {m : Nat} {o f t : Int} (hft : f < t) : isB s g M m o f t = (decide (s ≤ f) && fdA s g M m o f t m) := by
  cases e : isB s g M m o f t
  · cases q : (decide (s ≤ f) && fdA s g M m o f t m)
    · rfl
    · simp only [Bool.and_eq_true, decide_eq_true_eq] at q
      obtain ⟨i, hi, hp⟩ := fdA_t q.2
      unfold fdP at hp
      simp only [Bool.and_eq_true, decide_eq_true_eq, beq_iff_eq] at hp
      obtain ⟨p1, p2, p3, p4⟩ := hp
      obtain ⟨a1, a2, a3⟩ := oc_found p1 p3 (by omega)
      have := is_of (o := o) (t := t) a1 (by rw [a2]; exact p2) (by omega) (by rw [a2, a3]; exact p4)
      rw [this] at e
      exact Bool.noConfusion e
  · obtain ⟨i1, i2, i3, i4, i5, i6⟩ := is_parts e
    obtain ⟨a1, a2, a3⟩ := sa_holds i3
    obtain ⟨b1, b2, b3, _⟩ := oc_parts a1
    obtain ⟨c1, c2, c3, c4⟩ := sa_yes i3
    have hs := (saG_t c4).2.2.1
    have hp : fdP s g M m o f t (saI s g M m f).toNat = true := by
      unfold fdP
      rw [b3, ← c2, a1, beq_iff_eq.2 i4, decide_eq_true a2, decide_eq_true i6]
      rfl
    rw [decide_eq_true hs, fdA_of hp b2]
    rfl
end Go.Proofs.YtcakhfobkbgfoaaGreatDoor
namespace Go.Proofs.YtcakhfobkbgfoaaGreatDoor
open Go.RowKit
set_option linter.unusedVariables false
theorem run_append_new {P : Program} (w : World) (base : Nat) (t ty e : TypeId) (i : TypeInfo) (z : Value) (size bytes : Nat) (ht : P.underlying t = some (.slice e)) (hi : P.info? e = some i) (hz : i.zero = some z)
    (hsize : i.size = size) (hby : i.bytes = bytes) (hzs : z.cells.size = size) (hsz : 0 < size)
    (v : Value) (n : Nat) (xs : List Value) (hown : w.ownsRow base e size v n xs)
    (a : Addr) (m c : Nat) (news : List Value) (hl : news.length = m * size) (hnews : ∀ j u, news[j]? = some u → w.cell? (a.add j) = some u) (h1 : ∀ u ∈ news, u.oneCell' = true)
    (h63 : n + m ≤ maxLen) (hbytes : (n + m) * bytes ≤ 140737488355328) (hbase : base ≤ w.heap.size) :
    ∃ v' w', (Builtin.append_ #[t, t] ty #[v, .slice (some a) m c]).run P w = .ok v' w' ∧ w'.ownsRow base e size v' (n + m) (xs ++ news) ∧ w.grownBy w' v.ownBlock ∧ (∀ g, v'.ownBlock = some g → v.ownBlock = some g ∨ w.heap.size ≤ g) := by
  obtain ⟨v', w', hr, h2, h3, _⟩ := run_append_own (P := P) w base t ty e i z size bytes ht hi hz hsize hby hzs hsz v n xs hown a m c news hl hnews h1 h63 hbytes hbase
  refine ⟨v', w', hr, h2, h3, ?_⟩
  subst hsize
  subst hby
  intro g0 hg0
  have hsmall : n + m ≤ 9223372036854775807 := by simp only [maxLen] at h63; omega
  rcases hown.2 with ⟨rfl, rfl⟩ | ⟨g, cap, cur, rfl, hbg, hg, hnc, hcm, hcs, htake⟩
  · by_cases hm : m = 0
    · subst hm
      obtain ⟨v2, w2, hr2, _, _, h4⟩ := run_append_own (P := P) w base t ty e i z i.size i.bytes ht hi hz rfl rfl hzs hsz _ 0 xs hown a 0 c news hl hnews h1 h63 hbytes hbase
      rw [hr] at hr2
      injection hr2 with e1 _
      rw [e1, h4.2 ⟨rfl, rfl⟩] at hg0
      simp [Value.ownBlock] at hg0
    · have hr2 := run_append_nil (P := P) w t ty e i z ht hi hz a m c news hl hnews (by omega) (by omega) (by have hb := hbytes; simp only [Nat.zero_add] at hb; omega)
      rw [hr] at hr2
      injection hr2 with e1 _
      rw [e1] at hg0
      simp [Value.ownBlock] at hg0
      exact .inr (by omega)
  · by_cases hroom : n + m ≤ cap
    · have hfit : n * i.size + news.length ≤ cur.size := by rw [hl, hcs, ← Nat.add_mul]; exact Nat.mul_le_mul_right _ hroom
      have hr2 := run_append_room (P := P) w t ty e i ht hi g n cap cur hg a m c news hl hnews h1 hroom hfit
      rw [hr] at hr2
      injection hr2 with e1 _
      rw [e1] at hg0
      exact .inl hg0
    · have holds : ∀ j u, xs[j]? = some u → w.cell? ((⟨g, 0, none⟩ : Addr).add j) = some u := hown.cells (g := g) rfl
      have hr2 := run_append_grow (P := P) w t ty e i z ht hi hz ⟨g, 0, none⟩ n cap xs hown.1 holds a m c news hl hnews (by omega) (by omega) (growslice_fits (by omega) hbytes)
      rw [hr] at hr2
      injection hr2 with e1 _
      rw [e1] at hg0
      simp [Value.ownBlock] at hg0
      exact .inr (by omega)
theorem wpList_append_new {P : Program} {w : World} {ops : Array Oper} {rest : List Oper} {o : Oper} {a : Act} {Q : Exit → Act → World → Prop} (hgd : o.guard = none) (s x : Operand) (t : TypeId)
    (ho : o.op = .call { callee := .builtin .append, args := #[s, x], argTypes := #[t, t] })
    (base : Nat) (e : TypeId) (i : TypeInfo) (z : Value) (size bytes : Nat) (ht : P.underlying t = some (.slice e)) (hi : P.info? e = some i) (hz : i.zero = some z)
    (hsize : i.size = size) (hby : i.bytes = bytes) (hzs : z.cells.size = size) (hsz : 0 < size)
    (v : Value) (n : Nat) (xs : List Value) (hs : a.eval s = v) (hown : w.ownsRow base e size v n xs)
    (ad : Addr) (m c : Nat) (news : List Value) (hx : a.eval x = .slice (some ad) m c) (hl : news.length = m * size) (hnews : ∀ j u, news[j]? = some u → w.cell? (ad.add j) = some u) (h1 : ∀ u ∈ news, u.oneCell' = true)
    (h63 : n + m ≤ maxLen) (hbytes : (n + m) * bytes ≤ 140737488355328) (hbase : base ≤ w.heap.size)
    (h : ∀ v' w', w'.ownsRow base e size v' (n + m) (xs ++ news) → w.grownBy w' v.ownBlock → (∀ g, v'.ownBlock = some g → v.ownBlock = some g ∨ w.heap.size ≤ g) → wpList P ops Q rest (a.put o.dst v') w') : wpList P ops Q (o :: rest) a w := by
  refine wpList_plain hgd fun _ hK => ?_
  obtain ⟨v', w', hr, h2, h3, h4⟩ := run_append_new (P := P) w base t o.type e i z size bytes ht hi hz hsize hby hzs hsz v n xs hown ad m c news hl hnews h1 h63 hbytes hbase
  unfold Oper.wp execOp
  simp only [ho, resolve, invoke, builtin, Sem.run_bind, Sem.run_pure, Result.andThen_ok, List.map_toArray, List.map_cons, List.map_nil, hs, hx, hr]
  exact hK _ _ (h v' w' h2 h3 h4)
theorem info_int : (Tryz.prog.info? 3).map (fun i => (i.zero, i.size, i.bytes)) = some (some (.int .i64 0), 1, 8) := by kernel_rfl
theorem int_at (w : World) (p : Int) (T : TypeId) : ∀ j u, [.int .i64 p][j]? = some u → (w.alloc (.cells #[.int .i64 p] T)).cell? ((⟨w.heap.size, 0, none⟩ : Addr).add j) = some u := by
  intro j u h
  match j, h with
  | 0, h => simp at h; subst h; simp [Addr.add]
theorem add_int {w : World} {ops : Array Oper} {rest : List Oper} {o : Oper} {a : Act} {Q : Exit → Act → World → Prop} {p : Int} (hgd : o.guard = none) (s x : Operand)
    (ho : o.op = .call { callee := .builtin .append, args := #[s, x], argTypes := #[53, 53] }) (base : Nat) (L : List Int) (v : Value) (hs : a.eval s = v) (hown : w.ownsRow base 3 1 v L.length (irow L))
    (hx : a.eval x = .slice (some ⟨w.heap.size, 0, none⟩) 1 1) (hL : L.length ≤ 64) (hbase : base ≤ w.heap.size)
    (h : ∀ v' w', w'.ownsRow base 3 1 v' (L ++ [p]).length (irow (L ++ [p])) → w.grownBy w' v.ownBlock → (∀ g, v'.ownBlock = some g → v.ownBlock = some g ∨ w.heap.size ≤ g) → wpList Tryz.prog ops Q rest (a.put o.dst v') w') :
    wpList Tryz.prog ops Q (o :: rest) a (w.alloc (.cells #[.int .i64 p] 3)) := by
  obtain ⟨i0, hi, hz0, hz1, hz2⟩ := info_parts info_int
  refine wpList_append_new hgd s x 53 ho base 3 i0 (.int .i64 0) 1 8 Tryz.underlying53 hi hz0 hz1 hz2 rfl (by decide) v L.length (irow L) hs (World.ownsRow.alloc hown _) ⟨w.heap.size, 0, none⟩ 1 1 [.int .i64 p] hx rfl (int_at w p 3) (by intro u hu; simp at hu; subst hu; rfl) (by unfold maxLen; omega) (by omega) (by simp; omega) ?_
  intro v' w' h1 h2 h3
  refine h v' w' (by rw [irow_snoc, List.length_append]; exact h1) ?_ (fun g hg => ?_)
  · exact ⟨h2.os, h2.tape, h2.output, Nat.le_trans (by simp) h2.size, fun k hk hne => (h2.block k (by simp; omega) hne).trans ((World.grownBy_alloc w _ none).block k hk (by simp))⟩
  · rcases h3 g hg with q | q
    · exact .inl q
    · exact .inr (by simp at q; omega)
theorem made_int (w : World) : (w.alloc (.cells #[] 3)).ownsRow w.heap.size 3 1 (.slice (some ⟨w.heap.size, 0, none⟩) 0 0) ([] : List Int).length (irow []) := World.ownsRow_made w #[] 0 (Nat.le_refl _) (by simp [maxLen]) (by simp)
theorem nil_int (w : World) (B : Nat) : w.ownsRow B 3 1 (.slice none 0 0) ([] : List Int).length (irow []) := World.ownsRow_nil w B 3 1
theorem info_ival : (Tryz.prog.info? 25).map (fun i => (i.zero, i.size, i.bytes)) = some (some (.agg #[.int .i64 0, .int .i64 0]), 2, 16) := by kernel_rfl
theorem ival_at (w : World) (p : VT) (T : TypeId) : ∀ j u, [.int .i64 p.1, .int .i64 p.2][j]? = some u → (w.alloc (.cells #[.int .i64 p.1, .int .i64 p.2] T)).cell? ((⟨w.heap.size, 0, none⟩ : Addr).add j) = some u := by
  intro j u h
  match j, h with
  | 0, h => simp at h; subst h; simp [Addr.add]
  | 1, h => simp at h; subst h; simp [Addr.add]
theorem add_ival {w : World} {ops : Array Oper} {rest : List Oper} {o : Oper} {a : Act} {Q : Exit → Act → World → Prop} {p0 : Int} {p1 : Int} (hgd : o.guard = none) (s x : Operand)
    (ho : o.op = .call { callee := .builtin .append, args := #[s, x], argTypes := #[142, 142] }) (base : Nat) (L : List VT) (v : Value) (hs : a.eval s = v) (hown : w.ownsRow base 25 2 v L.length (vrow L))
    (hx : a.eval x = .slice (some ⟨w.heap.size, 0, none⟩) 1 1) (hL : L.length ≤ 64) (hbase : base ≤ w.heap.size)
    (h : ∀ v' w', w'.ownsRow base 25 2 v' (L ++ [(p0, p1)]).length (vrow (L ++ [(p0, p1)])) → w.grownBy w' v.ownBlock → (∀ g, v'.ownBlock = some g → v.ownBlock = some g ∨ w.heap.size ≤ g) → wpList Tryz.prog ops Q rest (a.put o.dst v') w') :
    wpList Tryz.prog ops Q (o :: rest) a (w.alloc (.cells #[.int .i64 p0, .int .i64 p1] 25)) := by
  obtain ⟨i0, hi, hz0, hz1, hz2⟩ := info_parts info_ival
  refine wpList_append_new hgd s x 142 ho base 25 i0 (.agg #[.int .i64 0, .int .i64 0]) 2 16 Tryz.underlying142 hi hz0 hz1 hz2 rfl (by decide) v L.length (vrow L) hs (World.ownsRow.alloc hown _) ⟨w.heap.size, 0, none⟩ 1 1 [.int .i64 p0, .int .i64 p1] hx rfl (ival_at w (p0, p1) 25) (by intro u hu; simp at hu; rcases hu with rfl | rfl <;> rfl) (by unfold maxLen; omega) (by omega) (by simp; omega) ?_
  intro v' w' h1 h2 h3
  refine h v' w' (by rw [vrow_snoc, List.length_append]; exact h1) ?_ (fun g hg => ?_)
  · exact ⟨h2.os, h2.tape, h2.output, Nat.le_trans (by simp) h2.size, fun k hk hne => (h2.block k (by simp; omega) hne).trans ((World.grownBy_alloc w _ none).block k hk (by simp))⟩
  · rcases h3 g hg with q | q
    · exact .inl q
    · exact .inr (by simp at q; omega)
theorem made_ival (w : World) : (w.alloc (.cells #[] 25)).ownsRow w.heap.size 25 2 (.slice (some ⟨w.heap.size, 0, none⟩) 0 0) ([] : List VT).length (vrow []) := World.ownsRow_made w #[] 0 (Nat.le_refl _) (by simp [maxLen]) (by simp)
theorem nil_ival (w : World) (B : Nat) : w.ownsRow B 25 2 (.slice none 0 0) ([] : List VT).length (vrow []) := World.ownsRow_nil w B 25 2
theorem peer_at (w : World) (p : PT) (T : TypeId) : ∀ j u, [.int .i64 p.1, .int .i64 p.2.1, .int .i64 p.2.2.1, .int .i64 p.2.2.2.1, .bool p.2.2.2.2][j]? = some u → (w.alloc (.cells #[.int .i64 p.1, .int .i64 p.2.1, .int .i64 p.2.2.1, .int .i64 p.2.2.2.1, .bool p.2.2.2.2] T)).cell? ((⟨w.heap.size, 0, none⟩ : Addr).add j) = some u := by
  intro j u h
  match j, h with
  | 0, h => simp at h; subst h; simp [Addr.add]
  | 1, h => simp at h; subst h; simp [Addr.add]
  | 2, h => simp at h; subst h; simp [Addr.add]
  | 3, h => simp at h; subst h; simp [Addr.add]
  | 4, h => simp at h; subst h; simp [Addr.add]
end Go.Proofs.YtcakhfobkbgfoaaGreatDoor
namespace Go.Proofs.YtcakhfobkbgfoaaGreatDoor
open Go.RowKit
set_option linter.unusedVariables false
theorem own_baseI {w : World} {base base' s n : Nat} {T : TypeId} {v : Value} {xs : List Value} (h : w.ownsRow base' T s v n xs) (hb : base ≤ base') : w.ownsRow base T s v n xs := by
  refine ⟨h.1, ?_⟩
  rcases h.2 with q | ⟨g, cap, cur, h1, h2, h3⟩
  · exact .inl q
  · exact .inr ⟨g, cap, cur, h1, Nat.le_trans hb h2, h3⟩
/- The owners of a plan, in the specification. -/
theorem hasO_yes {M : Nat → SlT} {o : Int} {j : Nat} (h : hasO M o j = true) : hasO M o (j + 1) = true := by rw [hasO, h]; rfl
theorem hasO_at {M : Nat → SlT} {o : Int} {j : Nat} (h : hasO M o j = false) : hasO M o (j + 1) = ((M j).1 == o) := by rw [hasO, h]; rfl
theorem owL_yes {M : Nat → SlT} {n q : Nat} (h : hasO M (q : Int) n = true) : owL M n (q + 1) = owL M n q ++ [(q : Int)] := by rw [owL, h]
theorem owL_no {M : Nat → SlT} {n q : Nat} (h : hasO M (q : Int) n = false) : owL M n (q + 1) = owL M n q := by rw [owL, h]
end Go.Proofs.YtcakhfobkbgfoaaGreatDoor
namespace Go.Proofs.YtcakhfobkbgfoaaGreatDoor
open Go.RowKit
set_option linter.unusedVariables false
/- Rows of slots as lists of cells; a copy of a plan; a plan that is moved, in the specification. -/
def srow (M : Nat → SlT) (n : Nat) : List Value := (List.range (n * 2)).map (MFSlot M)
theorem srow_len (M : Nat → SlT) (n : Nat) : (srow M n).length = n * 2 := by rw [srow, List.length_map, List.length_range]
theorem srow_get {M : Nat → SlT} {n j : Nat} {u : Value} (h : (srow M n)[j]? = some u) : j < n * 2 ∧ MFSlot M j = u := by
  rw [srow, List.getElem?_map] at h
  by_cases hj : j < n * 2
  · rw [List.getElem?_range hj] at h
    exact ⟨hj, by simpa using h⟩
  · rw [List.getElem?_eq_none (by rw [List.length_range]; omega)] at h
    simp at h
theorem MFSlot_one (M : Nat → SlT) (j : Nat) : (MFSlot M j).oneCell' = true := by
  have h : j % 2 = 0 ∨ j % 2 = 1 := by omega
  unfold MFSlot
  rcases h with h | h <;> rw [h] <;> rfl
theorem srow_one (M : Nat → SlT) (n : Nat) : ∀ u ∈ srow M n, u.oneCell' = true := by
  intro u hu
  rw [srow, List.mem_map] at hu
  obtain ⟨j, _, rfl⟩ := hu
  exact MFSlot_one M j
theorem addr_add (b off j : Nat) : (⟨b, off, none⟩ : Addr).add j = ⟨b, off + j, none⟩ := by
  unfold Addr.add
  split
  · next h => subst h; rfl
  · rfl
theorem Cs.srow {w : World} {b off n : Nat} {M : Nat → SlT} (h : Cs w b off (n * 2) (MFSlot M)) : ∀ j u, (Go.Proofs.YtcakhfobkbgfoaaGreatDoor.srow M n)[j]? = some u → w.cell? ((⟨b, off, none⟩ : Addr).add j) = some u := by
  intro j u hu
  obtain ⟨hj, rfl⟩ := srow_get hu
  rw [addr_add]
  exact h.2 j hj
theorem info13_parts : ∃ i, Tryz.prog.info? 85 = some i ∧ i.zero = some (.agg #[.int .i64 0, .int .i64 0]) ∧ i.size = 2 ∧ i.bytes = 16 := by
  obtain ⟨i, hi, hz⟩ := Option.map_eq_some_iff.1 infoSlot
  simp only [Prod.mk.injEq] at hz
  exact ⟨i, hi, hz.1, hz.2.1, hz.2.2⟩
def pmS (s g : Int) (M : Nat → SlT) (n : Nat) (b : Int) : Int := match pmB s g M n b with | true => s + b | false => 0
def pmG (s g : Int) (M : Nat → SlT) (n : Nat) (b : Int) : Int := match pmB s g M n b with | true => g | false => 0
def pmN (s g : Int) (M : Nat → SlT) (n : Nat) (b : Int) : Nat := match pmB s g M n b with | true => n | false => 0
theorem pm_no {s g : Int} {M : Nat → SlT} {n : Nat} {b : Int} (h : pmB s g M n b = false) : pmS s g M n b = 0 ∧ pmG s g M n b = 0 ∧ pmN s g M n b = 0 := by
  unfold pmS pmG pmN
  rw [h]
  exact ⟨rfl, rfl, rfl⟩
theorem pm_yes {s g : Int} {M : Nat → SlT} {n : Nat} {b : Int} (h : pmB s g M n b = true) : pmS s g M n b = s + b ∧ pmG s g M n b = g ∧ pmN s g M n b = n := by
  unfold pmS pmG pmN
  rw [h]
  exact ⟨rfl, rfl, rfl⟩
end Go.Proofs.YtcakhfobkbgfoaaGreatDoor
