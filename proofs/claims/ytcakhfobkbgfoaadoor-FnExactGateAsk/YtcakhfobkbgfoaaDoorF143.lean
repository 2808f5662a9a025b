/- errors.As where the error is of the asked type, or none. -/
import Derived.Test.YtcakhfobkbgfoaaDoorF142
import Derived.Test.YtcakhfobkbgfoaaDoorJ1
import Derived.Test.YtcakhfobkbgfoaaDoorD1
import Derived.WalkKit
import Derived.LaidEql
import Derived.Stop.Asserts
import Derived.RowKitTokens
namespace Go.Proofs.YtcakhfobkbgfoaaDoor
open Go.RowKit Go.Extern.Stop Go.Stop Go.Extern
set_option linter.unusedVariables false
/- errors.As: of nil; where the error's own type is the target's. -/
theorem as_nil (t : Value) (w : World) : Calls Tryd.prog 48 #[.nilIface, t] w fun e w' => e = .returned (.bool false) ∧ w' = w := by
  go_enter Tryd.func48, Tryd.ntmps48
  go_wp2
  go_ret
  exact ⟨rfl, rfl⟩
/- What the library's look at types tells of these two. -/
theorem asTarget (j : Nat) (w : World) : (ReflectliteValue.unpack (.iface 94 (.pointer (some ⟨j, 0, none⟩)))).run Tryd.prog w = .ok (.agg #[.pointer (some ⟨9, 94, none⟩), .pointer (some ⟨w.heap.size, 0, none⟩), .int .u64 150]) (w.alloc (.cells #[.pointer (some ⟨j, 0, none⟩)] 94)) := by kernel_rfl
theorem asTargetType (a : Addr) (w : World) : (ReflectliteValue.methodAny (ReflectliteValue.valueError "reflectlite.Value.Type" 0) (fun t _ _ _ => ReflectliteType.toType t) #[.agg #[.pointer (some ⟨9, 94, none⟩), .pointer (some a), .int .u64 150]]).run Tryd.prog w = .ok (.iface 151 (.agg #[.pointer (some ⟨9, 94, none⟩)])) w := by kernel_rfl
theorem asMeth1 (h : Value) (w : World) : (Go.method 203 151 (.agg #[h]) "Kind").run Tryd.prog w = .ok (135, h) w := by kernel_rfl
theorem asMeth2 (h : Value) (w : World) : (Go.method 203 151 (.agg #[h]) "Elem").run Tryd.prog w = .ok (146, .agg #[h]) w := by kernel_rfl
theorem asMeth3 (h : Value) (w : World) : (Go.method 203 151 (.agg #[h]) "Implements").run Tryd.prog w = .ok (147, .agg #[h]) w := by kernel_rfl
theorem asMeth4 (h : Value) (w : World) : (Go.method 203 151 (.agg #[h]) "AssignableTo").run Tryd.prog w = .ok (144, .agg #[h]) w := by kernel_rfl
theorem asKindP (w : World) : ((ReflectliteType.abiMethod fun t => (fun a : Nat => Value.int IntKind.u8 (a : Int)) <$> Rtype.kind t) #[.pointer (some ⟨9, 94, none⟩)]).run Tryd.prog w = .ok (.int .u8 22) w := by kernel_rfl
theorem asKindE (w : World) : ((ReflectliteType.abiMethod fun t => (fun a : Nat => Value.int IntKind.u8 (a : Int)) <$> Rtype.kind t) #[.pointer (some ⟨9, 92, none⟩)]).run Tryd.prog w = .ok (.int .u8 25) w := by kernel_rfl
theorem asElemP (w : World) : (ReflectliteType.method ReflectliteType.elem #[.agg #[.pointer (some ⟨9, 94, none⟩)]]).run Tryd.prog w = .ok (.iface 151 (.agg #[.pointer (some ⟨9, 92, none⟩)])) w := by kernel_rfl
theorem asIsError (w : World) : (ReflectliteType.relation "Implements" ReflectliteType.implements_ #[.agg #[.pointer (some ⟨9, 92, none⟩)], .iface 151 (.agg #[.pointer (some ⟨9, 83, none⟩)])]).run Tryd.prog w = .ok (.bool true) w := by kernel_rfl
theorem asType (v : Value) (w : World) : (ReflectliteType.typeOf #[.iface 92 v]).run Tryd.prog w = .ok (.iface 151 (.agg #[.pointer (some ⟨9, 92, none⟩)])) w := by kernel_rfl
theorem asFits (w : World) : (ReflectliteType.relation "AssignableTo" ReflectliteType.assignableTo #[.agg #[.pointer (some ⟨9, 92, none⟩)], .iface 151 (.agg #[.pointer (some ⟨9, 92, none⟩)])]).run Tryd.prog w = .ok (.bool true) w := by kernel_rfl
theorem asValue (k : Int) (e : Addr) (w : World) : (ReflectliteValue.unpack (.iface 92 (.agg #[.int .i64 k, .iface 169 (.pointer (some e))]))).run Tryd.prog w = .ok (.agg #[.pointer (some ⟨9, 92, none⟩), .pointer (some ⟨w.heap.size, 0, none⟩), .int .u64 153]) (w.alloc (.cells #[.int .i64 k, .iface 169 (.pointer (some e))] 92)) := by kernel_rfl
theorem asPartsP (a : Addr) (w : World) : (ReflectliteValue.parts (.agg #[.pointer (some ⟨9, 94, none⟩), .pointer (some a), .int .u64 150])).run Tryd.prog w = .ok (some (94, a, 150)) w := by kernel_rfl
theorem asPartsA (a : Addr) (w : World) : (ReflectliteValue.parts (.agg #[.pointer (some ⟨9, 92, none⟩), .pointer (some a), .int .u64 409])).run Tryd.prog w = .ok (some (92, a, 409)) w := by kernel_rfl
theorem asPartsE (a : Addr) (w : World) : (ReflectliteValue.parts (.agg #[.pointer (some ⟨9, 92, none⟩), .pointer (some a), .int .u64 153])).run Tryd.prog w = .ok (some (92, a, 153)) w := by kernel_rfl
theorem asElemOf (w : World) : (Rtype.elem? 94).run Tryd.prog w = .ok (some 92) w := by kernel_rfl
theorem asMade (p : Addr) (w : World) : (ReflectliteValue.mk 92 p ReflectliteValue.flagAddr).run Tryd.prog w = .ok (.agg #[.pointer (some ⟨9, 92, none⟩), .pointer (some p), .int .u64 409]) w := by kernel_rfl
theorem asSame (w : World) : (Rtype.directlyAssignable 92 92).run Tryd.prog w = .ok true w := by kernel_rfl
theorem asNotNil (a p : Addr) (W : World) (ha : W.cell? a = some (.pointer (some p))) :
    (ReflectliteValue.method (ReflectliteValue.valueError "reflectlite.Value.IsNil" 0) ReflectliteValue.isNil #[.agg #[.pointer (some ⟨9, 94, none⟩), .pointer (some a), .int .u64 150]]).run Tryd.prog W = .ok (.bool false) W := by
  change Sem.run Tryd.prog (ReflectliteValue.parts (.agg #[.pointer (some ⟨9, 94, none⟩), .pointer (some a), .int .u64 150]) >>= _) W = _
  simp only [Sem.run_bind, asPartsP, Result.andThen]
  simp [ReflectliteValue.isNil, loadVar, isAgg, underlying, Tryd.underlying94, ha, Result.andThen]
theorem asInto (a p : Addr) (W : World) (ha : W.cell? a = some (.pointer (some p))) :
    (ReflectliteValue.method (ReflectliteValue.valueError "reflectlite.Value.Elem" 0) ReflectliteValue.elem #[.agg #[.pointer (some ⟨9, 94, none⟩), .pointer (some a), .int .u64 150]]).run Tryd.prog W = .ok (.agg #[.pointer (some ⟨9, 92, none⟩), .pointer (some p), .int .u64 409]) W := by
  change Sem.run Tryd.prog (ReflectliteValue.parts (.agg #[.pointer (some ⟨9, 94, none⟩), .pointer (some a), .int .u64 150]) >>= _) W = _
  simp only [Sem.run_bind, asPartsP, Result.andThen]
  simp [ReflectliteValue.elem, loadVar, isAgg, underlying, Tryd.underlying94, ha, Result.andThen, asElemOf, asMade]
theorem asPut (j jb : Nat) (k : Int) (e : Addr) (o0 o1 : Value) (W : World) (hb0 : W.cell? ⟨jb, 0, none⟩ = some (.int .i64 k)) (hb1 : W.cell? ⟨jb, 1, none⟩ = some (.iface 169 (.pointer (some e)))) (ht0 : W.cell? ⟨j, 0, none⟩ = some o0) (ht1 : W.cell? ⟨j, 1, none⟩ = some o1) (hf0 : W.frozen? ⟨j, 0, none⟩ = false) (hf1 : W.frozen? ⟨j, 1, none⟩ = false) :
    (ReflectliteValue.set #[.agg #[.pointer (some ⟨9, 92, none⟩), .pointer (some ⟨j, 0, none⟩), .int .u64 409], .agg #[.pointer (some ⟨9, 92, none⟩), .pointer (some ⟨jb, 0, none⟩), .int .u64 153]]).run Tryd.prog W = .ok (.tuple #[]) ((W.setCell ⟨j, 0, none⟩ (.int .i64 k)).setCell ⟨j, 1, none⟩ (.iface 169 (.pointer (some e)))) := by
  change Sem.run Tryd.prog (ReflectliteValue.parts (.agg #[.pointer (some ⟨9, 92, none⟩), .pointer (some ⟨j, 0, none⟩), .int .u64 409]) >>= fun x => ReflectliteValue.parts (.agg #[.pointer (some ⟨9, 92, none⟩), .pointer (some ⟨jb, 0, none⟩), .int .u64 153]) >>= _) W = _
  have hz : (sizeOf 92).run Tryd.prog W = .ok 2 W := by kernel_rfl
  have hz' : ∀ W' : World, (sizeOf 92).run Tryd.prog W' = .ok 2 W' := fun W' => by kernel_rfl
  have hl0 : (load ⟨jb, 0, none⟩).run Tryd.prog W = .ok (.int .i64 k) W := by simp [hb0]
  have hl1 : (load ⟨jb, 1, none⟩).run Tryd.prog W = .ok (.iface 169 (.pointer (some e))) W := by simp [hb1]
  simp only [Sem.run_bind, asPartsA, asPartsE, Result.andThen]
  simp [ReflectliteValue.flagAddr, loadVar, isAgg, underlying, Tryd.underlying92, hz', loadCells, loadCellsFrom, hl0, hl1, Result.andThen, asSame, storeVar, Value.cells, storeCells, Addr.add]
  have s0 : (store ⟨j, 0, none⟩ (.int .i64 k)).run Tryd.prog W = .ok () (W.setCell ⟨j, 0, none⟩ (.int .i64 k)) := by
    rw [run_store Tryd.prog W _ _ _ (by rfl)]
    simp [ht0, hf0]
  have g1 : (W.setCell ⟨j, 0, none⟩ (.int .i64 k)).cell? ⟨j, 1, none⟩ = some o1 := (World.cell?_setCell_other _ _ _ _ (by simp)).trans ht1
  have g2 : (W.setCell ⟨j, 0, none⟩ (.int .i64 k)).frozen? ⟨j, 1, none⟩ = false := by simpa using hf1
  have s1 : (store ⟨j, 1, none⟩ (.iface 169 (.pointer (some e)))).run Tryd.prog (W.setCell ⟨j, 0, none⟩ (.int .i64 k)) = .ok () ((W.setCell ⟨j, 0, none⟩ (.int .i64 k)).setCell ⟨j, 1, none⟩ (.iface 169 (.pointer (some e)))) := by
    rw [run_store Tryd.prog _ _ _ _ (by rfl)]
    simp [g1, g2]
  rw [s0]
  dsimp only
  rw [s1]
set_option maxHeartbeats 4000000 in
theorem as_hit (k : Int) (e : Addr) (j : Nat) (o0 o1 : Value) (w : World) (hE : EtH w) (ht0 : w.cell? ⟨j, 0, none⟩ = some o0) (ht1 : w.cell? ⟨j, 1, none⟩ = some o1) (hf0 : w.frozen? ⟨j, 0, none⟩ = false) (hf1 : w.frozen? ⟨j, 1, none⟩ = false) :
    Calls Tryd.prog 48 #[.iface 92 (.agg #[.int .i64 k, .iface 169 (.pointer (some e))]), .iface 94 (.pointer (some ⟨j, 0, none⟩))] w fun ev w' => ev = .returned (.bool true) ∧ w' = (((((w.alloc (.cells #[.pointer (some ⟨j, 0, none⟩)] 94)).alloc (.cells #[.pointer (some ⟨9, 94, none⟩), .pointer (some ⟨w.heap.size, 0, none⟩), .int .u64 150] 127)).alloc (.cells #[.pointer (some ⟨9, 94, none⟩), .pointer (some ⟨w.heap.size, 0, none⟩), .int .u64 150] 127)).alloc (.cells #[.int .i64 k, .iface 169 (.pointer (some e))] 92)).setCell ⟨j, 0, none⟩ (.int .i64 k)).setCell ⟨j, 1, none⟩ (.iface 169 (.pointer (some e))) := by
  have x1 := @run_callFunc_extern Tryd.prog 84 _ (fun args => ReflectliteValue.unpack (args.getD 0 (.tuple #[]))) Tryd.func84 (by kernel_rfl) (by kernel_rfl) (by kernel_rfl) (by kernel_rfl)
  have x2 := @run_callFunc_extern Tryd.prog 85 _ (ReflectliteValue.methodAny (ReflectliteValue.valueError "reflectlite.Value.Type" 0) (fun t _ _ _ => ReflectliteType.toType t)) Tryd.func85 (by kernel_rfl) (by kernel_rfl) (by kernel_rfl) (by kernel_rfl)
  have x3 := @run_callFunc_extern Tryd.prog 86 _ (ReflectliteValue.method (ReflectliteValue.valueError "reflectlite.Value.IsNil" 0) ReflectliteValue.isNil) Tryd.func86 (by kernel_rfl) (by kernel_rfl) (by kernel_rfl) (by kernel_rfl)
  have x4 := @run_callFunc_extern Tryd.prog 135 _ (ReflectliteType.abiMethod fun t => do pure (.int .u8 (← Rtype.kind t))) Tryd.func135 (by kernel_rfl) (by kernel_rfl) (by kernel_rfl) (by kernel_rfl)
  have x5 := @run_callFunc_extern Tryd.prog 146 _ (ReflectliteType.method ReflectliteType.elem) Tryd.func146 (by kernel_rfl) (by kernel_rfl) (by kernel_rfl) (by kernel_rfl)
  have x6 := @run_callFunc_extern Tryd.prog 147 _ (ReflectliteType.relation "Implements" ReflectliteType.implements_) Tryd.func147 (by kernel_rfl) (by kernel_rfl) (by kernel_rfl) (by kernel_rfl)
  have x7 := @run_callFunc_extern Tryd.prog 106 _ (ReflectliteType.typeOf) Tryd.func106 (by kernel_rfl) (by kernel_rfl) (by kernel_rfl) (by kernel_rfl)
  have x8 := @run_callFunc_extern Tryd.prog 144 _ (ReflectliteType.relation "AssignableTo" ReflectliteType.assignableTo) Tryd.func144 (by kernel_rfl) (by kernel_rfl) (by kernel_rfl) (by kernel_rfl)
  have x9 := @run_callFunc_extern Tryd.prog 107 _ (ReflectliteValue.method (ReflectliteValue.valueError "reflectlite.Value.Elem" 0) ReflectliteValue.elem) Tryd.func107 (by kernel_rfl) (by kernel_rfl) (by kernel_rfl) (by kernel_rfl)
  have x10 := @run_callFunc_extern Tryd.prog 108 _ (ReflectliteValue.set) Tryd.func108 (by kernel_rfl) (by kernel_rfl) (by kernel_rfl) (by kernel_rfl)
  have y1 := asType
  have y2 := asMeth4
  have y3 := asFits
  have y4 := asValue
  have y5 := asTarget
  have y6 := asTargetType
  have y7 := asMeth1
  have y8 := asMeth2
  have y9 := asMeth3
  have y10 := asKindP
  have y11 := asKindE
  have y12 := asElemP
  have y13 := asIsError
  have y14 := asNotNil ⟨w.heap.size, 0, none⟩ ⟨j, 0, none⟩ ((w.alloc (.cells #[.pointer (some ⟨j, 0, none⟩)] 94)).alloc (.cells #[.pointer (some ⟨9, 94, none⟩), .pointer (some ⟨w.heap.size, 0, none⟩), .int .u64 150] 127)) (by simp)
  have hlt := hE.2
  have hg2 : ((w.alloc (.cells #[.pointer (some ⟨j, 0, none⟩)] 94)).alloc (.cells #[.pointer (some ⟨9, 94, none⟩), .pointer (some ⟨w.heap.size, 0, none⟩), .int .u64 150] 127)).cell? ⟨0, 0, none⟩ = some (.iface 151 (.agg #[.pointer (some ⟨9, 83, none⟩)])) := by
    rw [World.cell?_alloc_lt _ _ ⟨0, 0, none⟩ (by first | (simp; done) | (simp; omega) | omega), World.cell?_alloc_lt _ _ ⟨0, 0, none⟩ hlt]; exact hE.1
  have htl : j < w.heap.size := World.block_lt_of_cell? w _ ht0
  have y15 := asInto ⟨w.heap.size, 0, none⟩ ⟨j, 0, none⟩ (((w.alloc (.cells #[.pointer (some ⟨j, 0, none⟩)] 94)).alloc (.cells #[.pointer (some ⟨9, 94, none⟩), .pointer (some ⟨w.heap.size, 0, none⟩), .int .u64 150] 127)).alloc (.cells #[.pointer (some ⟨9, 94, none⟩), .pointer (some ⟨w.heap.size, 0, none⟩), .int .u64 150] 127)) (by rw [World.cell?_alloc_lt _ _ ⟨w.heap.size, 0, none⟩ (by simp; omega)]; simp)
  have hB := ((((Below.nw w (.cells #[.pointer (some ⟨j, 0, none⟩)] 94)).alloc (by simp) (.cells #[.pointer (some ⟨9, 94, none⟩), .pointer (some ⟨w.heap.size, 0, none⟩), .int .u64 150] 127)).alloc (by simp; omega) (.cells #[.pointer (some ⟨9, 94, none⟩), .pointer (some ⟨w.heap.size, 0, none⟩), .int .u64 150] 127)).alloc (by simp; omega) (.cells #[.int .i64 k, .iface 169 (.pointer (some e))] 92))
  have y16 := asPut j (w.heap.size + 1 + 1 + 1) k e o0 o1 ((((w.alloc (.cells #[.pointer (some ⟨j, 0, none⟩)] 94)).alloc (.cells #[.pointer (some ⟨9, 94, none⟩), .pointer (some ⟨w.heap.size, 0, none⟩), .int .u64 150] 127)).alloc (.cells #[.pointer (some ⟨9, 94, none⟩), .pointer (some ⟨w.heap.size, 0, none⟩), .int .u64 150] 127)).alloc (.cells #[.int .i64 k, .iface 169 (.pointer (some e))] 92))
    (by rw [World.cell?_alloc_at _ _ _ _ (by simp)]; rfl)
    (by rw [World.cell?_alloc_at _ _ _ _ (by simp)]; rfl)
    ((hB.cell (p := ⟨j, 0, none⟩) htl).trans ht0) ((hB.cell (p := ⟨j, 1, none⟩) htl).trans ht1)
    ((hB.frozen (p := ⟨j, 0, none⟩) htl).trans hf0) ((hB.frozen (p := ⟨j, 1, none⟩) htl).trans hf1)
  clear hB
  go_enter Tryd.func48, Tryd.ntmps48
  go_wp2
  refine wp_loop_rounds 1 ?_
  rw [rounds_succ]
  go_wp2
  go_ret
  exact ⟨rfl, rfl⟩
theorem as_at (k : Int) (e : Addr) (j : Nat) (o0 o1 : Value) (w : World) (hE : EtH w) (ht0 : w.cell? ⟨j, 0, none⟩ = some o0) (ht1 : w.cell? ⟨j, 1, none⟩ = some o1) (hf0 : w.frozen? ⟨j, 0, none⟩ = false) (hf1 : w.frozen? ⟨j, 1, none⟩ = false) :
    Calls Tryd.prog 48 #[.iface 92 (.agg #[.int .i64 k, .iface 169 (.pointer (some e))]), .iface 94 (.pointer (some ⟨j, 0, none⟩))] w fun ev w' => ev = .returned (.bool true) ∧ w'.cell? ⟨j, 0, none⟩ = some (.int .i64 k) ∧ But j w w' := by
  have htl : j < w.heap.size := World.block_lt_of_cell? w _ ht0
  refine (as_hit k e j o0 o1 w hE ht0 ht1 hf0 hf1).mono ?_
  rintro ev w' ⟨rfl, rfl⟩
  have hB := ((((Below.nw w (.cells #[.pointer (some ⟨j, 0, none⟩)] 94)).alloc (by simp) (.cells #[.pointer (some ⟨9, 94, none⟩), .pointer (some ⟨w.heap.size, 0, none⟩), .int .u64 150] 127)).alloc (by simp; omega) (.cells #[.pointer (some ⟨9, 94, none⟩), .pointer (some ⟨w.heap.size, 0, none⟩), .int .u64 150] 127)).alloc (by simp; omega) (.cells #[.int .i64 k, .iface 169 (.pointer (some e))] 92))
  refine ⟨rfl, ?_, ?_⟩
  · have h1 := World.cell?_setCell_same _ _ (.int .i64 k) ((hB.cell (p := ⟨j, 0, none⟩) htl).trans ht0)
    exact (World.cell?_setCell_other _ _ _ _ (by simp)).trans h1
  · exact But.setCell (But.setCell (But.of_below hB) 0 _) 1 _

end Go.Proofs.YtcakhfobkbgfoaaDoor
