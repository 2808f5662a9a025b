/- Flights by their Id: a map, told by a function of the Id. -/
import Derived.Test.YtfdcjfebfbpliaaN54
import Derived.Maps.OwnSet
import Derived.WalkKit
import Derived.WalkSpells
import Derived.WalkLawsBesides
import Derived.Deep.RegionHeld
namespace Go.Proofs.Ytfdcjfebfbpliaa
open Go.RowKit
set_option linter.unusedVariables false
def fv (M : FT) : Value := .agg #[.int .i64 M.1, .int .i64 M.2.1, .int .i64 M.2.2.1, .string M.2.2.2.1, .int .i64 M.2.2.2.2]
def R0 (v : Value) : Option (DataW Value × List MemPlace) := some (.held v, [])
def atF (o : Option FT) (z : DataW Value) : DataW Value := match o with | some M => .held (fv M) | none => z
def MapI (w : World) (b n : Nat) (F : Int → Option FT) : Prop := ∃ D : DataW Value, w.ownsMap Try.prog 3 R0 b n D ∧ ∀ x, (∀ z, D.atKey (.int .i64 x) z = atF (F x) z) ∧ Maps.has D (.int .i64 x) = (F x).isSome
theorem lawK : Maps.Keyed Try.prog 3 := Maps.int_keyed Try.underlying3
theorem zeroFl (w : World) : (zeroValue 30).run Try.prog w = .ok (fv zF) w := by kernel_rfl
theorem run_mkmap (n : Nat) (w : World) : (Instr.makeMap 42 (some (.int .i64 (n : Int)))).run Try.prog w = .ok (.map (some w.heap.size)) (w.alloc (.map #[] 0)) := by
  first | rfl | (simp [Instr.makeMap, go_sem]; done) | (simp [Instr.makeMap]; done)
theorem MapI.made (w : World) : MapI (w.alloc (.map #[] 0)) w.heap.size 0 (fun _ => none) := ⟨.map [], World.ownsMap_made w _ _ _, fun x => ⟨fun z => rfl, rfl⟩⟩
theorem MapI.kept {w w' : World} {b n : Nat} {F : Int → Option FT} (h : MapI w b n F) {row : Option Nat} (hg : w.grownBy w' row) (hne : some b ≠ row) : MapI w' b n F := by
  obtain ⟨D, h1, h2⟩ := h
  exact ⟨D, h1.kept hg hne, h2⟩
theorem MapI.lt {w : World} {b n : Nat} {F : Int → Option FT} (h : MapI w b n F) : b < w.heap.size := by
  obtain ⟨D, h1, h2⟩ := h
  exact h1.lt
theorem MapI.below {w w' : World} {b n : Nat} {F : Int → Option FT} (h : MapI w b n F) (hb : Below w.heap.size w w') : MapI w' b n F :=
  h.kept (row := none) ⟨hb.os, hb.tape, hb.output, hb.size, fun k hk _ => hb.block k hk⟩ (by simp)
theorem MapI.setCell {w : World} {b n : Nat} {F : Int → Option FT} (h : MapI w b n F) {a : Addr} (ha : b ≠ a.block) (u : Value) : MapI (w.setCell a u) b n F := by
  obtain ⟨D, h1, h2⟩ := h
  exact ⟨D, h1.setCell ha u, h2⟩
theorem MapI.congr {w : World} {b n : Nat} {F G : Int → Option FT} (h : MapI w b n F) (e : ∀ x, F x = G x) : MapI w b n G := by
  obtain ⟨D, h1, h2⟩ := h
  exact ⟨D, h1, fun x => by rw [← e x]; exact h2 x⟩
theorem held_inj {o : Option FT} {v : Value} {ps : List MemPlace} (h : R0 v = some (atF o (.held (fv zF)), ps)) : v = fv (o.getD zF) := by
  unfold R0 at h
  simp only [Option.some.injEq, Prod.mk.injEq] at h
  cases o with
  | none => simp only [atF, DataW.held.injEq] at h; exact h.1
  | some M => simp only [atF, DataW.held.injEq] at h; exact h.1
theorem MapI.look_ok {w : World} {b n : Nat} {F : Int → Option FT} (h : MapI w b n F) {x : Int} (hx : (Lit.int .i64 x).wf = true) : (Instr.lookup 42 (.map (some b)) (.int .i64 x) true).run Try.prog w = .ok (.tuple #[fv ((F x).getD zF), .bool (F x).isSome]) w := by
  obtain ⟨D, h1, h2⟩ := h
  obtain ⟨v, ps, hrun, hv⟩ := h1.look_ok (t := 42) (e := 30) lawK Try.underlying42 (zeroFl w) (zd := .held (fv zF)) (zp := []) rfl (Maps.keyOf_int_mk Try.underlying3 hx)
  rw [(h2 x).1] at hv
  rw [hrun, held_inj hv, (h2 x).2]
theorem MapI.look {w : World} {b n : Nat} {F : Int → Option FT} (h : MapI w b n F) {x : Int} (hx : (Lit.int .i64 x).wf = true) : (Instr.lookup 42 (.map (some b)) (.int .i64 x) false).run Try.prog w = .ok (fv ((F x).getD zF)) w := by
  obtain ⟨D, h1, h2⟩ := h
  obtain ⟨v, ps, hrun, hv⟩ := h1.lookup (t := 42) (e := 30) lawK Try.underlying42 (zeroFl w) (zd := .held (fv zF)) (zp := []) rfl (Maps.keyOf_int_mk Try.underlying3 hx)
  rw [(h2 x).1] at hv
  rw [hrun, held_inj hv]
theorem lit_ne {x y : Int} (h : x ≠ y) : (Lit.int .i64 x) ≠ (Lit.int .i64 y) := fun e => h (by injection e)
theorem MapI.put {w : World} {b n : Nat} {F : Int → Option FT} (h : MapI w b n F) {x : Int} (hx : (Lit.int .i64 x).wf = true) (hn : n < maxLen) (M : FT) :
    ∃ w', (Instr.mapUpdate 42 (.map (some b)) (.int .i64 x) (fv M)).run Try.prog w = .ok () w' ∧ MapI w' b (n + 1) (fun y => if y = x then some M else F y) ∧ w.grownBy w' (some b) := by
  obtain ⟨D, h1, h2⟩ := h
  have hD := h1.isMap
  obtain ⟨w', hrun, ho, hg⟩ := h1.update (t := 42) (e := 30) lawK Try.underlying42 hn (key := .int .i64 x) (val := fv M) (d := .held (fv M)) (ps := []) (Maps.keyOf_int_mk Try.underlying3 hx) rfl
  refine ⟨w', hrun, ⟨_, ho, fun y => ?_⟩, hg⟩
  by_cases e : y = x
  · subst e
    simp only [if_true]
    exact ⟨fun z => Maps.atKey_put_same hD (show WideAt.IsKeyLit (.int .i64 y) from trivial) _ _, Maps.has_put_same hD (show WideAt.IsKeyLit (.int .i64 y) from trivial) _⟩
  · simp only [if_neg e]
    exact ⟨fun z => (Maps.atKey_put_other (lit_ne e) _ _).trans ((h2 y).1 z), (Maps.has_put_other (lit_ne e) _).trans (h2 y).2⟩
theorem MapI.del {w : World} {b n : Nat} {F : Int → Option FT} (h : MapI w b n F) {x : Int} (hx : (Lit.int .i64 x).wf = true) (ty : TypeId) :
    ∃ w', (Builtin.delete_ #[42, 3] ty #[.map (some b), .int .i64 x]).run Try.prog w = .ok (.tuple #[]) w' ∧ MapI w' b n (fun y => if y = x then none else F y) ∧ w.grownBy w' (some b) := by
  obtain ⟨D, h1, h2⟩ := h
  obtain ⟨w', hrun, ho, hg⟩ := h1.drop (t := 42) (e := 30) lawK Try.underlying42 (Maps.keyOf_int_mk Try.underlying3 hx) ty
  refine ⟨w', hrun, ⟨_, ho, fun y => ?_⟩, hg.grown⟩
  by_cases e : y = x
  · subst e
    simp only [if_true]
    exact ⟨fun z => Maps.atKey_del_same z, Maps.has_del_same⟩
  · simp only [if_neg e]
    exact ⟨fun z => (Maps.atKey_del_other (lit_ne e) _).trans ((h2 y).1 z), (Maps.has_del_other (lit_ne e)).trans (h2 y).2⟩
end Go.Proofs.Ytfdcjfebfbpliaa
