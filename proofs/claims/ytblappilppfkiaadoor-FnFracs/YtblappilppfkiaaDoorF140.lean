/- What the listed errors give; a world in which they stand. -/
import Derived.Test.YtblappilppfkiaaDoorRows
import Derived.Test.YtblappilppfkiaaDoorF120
import Derived.Stop.LaidErr
import Derived.Stop.LaidTwo
import Derived.LaidLaws
import Derived.OpenShut
import Derived.WalkKit
import Derived.WalkSpells
import Derived.WalkLawsBesides
import Derived.Deep.RegionHeld
namespace Go.Proofs.YtblappilppfkiaaDoor
open Go.RowKit
set_option linter.unusedVariables false
theorem g0Named : Tryd.prog.globalNamed "loop.example/g00072/impl.errNoFrac" = some 0 := by kernel_rfl
theorem g1Named : Tryd.prog.globalNamed "loop.example/g00072/impl.errApart" = some 1 := by kernel_rfl
theorem g0Type : (Tryd.prog.globals[0]?).map (·.type) = some 63 := by kernel_rfl
theorem g1Type : (Tryd.prog.globals[1]?).map (·.type) = some 63 := by kernel_rfl
theorem cellsE : Tryd.prog.cellsOf 150 = 1 := by kernel_rfl
theorem cellsS : Tryd.prog.cellsOf 9 = 1 := by kernel_rfl
theorem starE : "*" ++ "errors.errorString" = "*errors.errorString" := by decide
theorem rowE (u : TypeId) (h : Tryd.prog.typeName? 3 u = some "*errors.errorString") : u = 124 :=
  typeName_ptr_named (nm := "errors.errorString") (by rw [starE]; kernel_rfl) (by kernel_rfl) (by decide) u (by rw [starE]; exact h)
theorem er_of {W : World} {n : String} {g : Nat} {a : Addr} {s : ByteArray} {c : Array Value} {t : TypeId} (hg : Tryd.prog.globalNamed n = some g) (hv : W.var? Tryd.prog n = some #[.iface 124 (.pointer (some a))]) (hc : W.cell? a = some (.string s)) (hb : W.heap[a.block]? = some (.cells c t (0, 0))) : Er W g a := by
  have h0 : W.cell? ⟨g, 0, none⟩ = some (.iface 124 (.pointer (some a))) := by simpa using World.var?_cell hg hv 0
  exact ⟨h0, World.block_lt_of_cell? W _ h0, World.block_lt_of_cell? W _ hc, c, t, hb⟩
set_option maxRecDepth 100000 in
theorem laid_er1 {W : World} (h : laidMet Tryd.prog [("loop.example/g00072/impl.errNoFrac", Rows.laid_loop_example_g00072_impl_errNoFrac)] W) : ∃ a, Er W 0 a := by
  obtain ⟨ps, ⟨g0, t0, cs0, f0, p0, q0, hg0, ht0, hv0, hd0, _, e0⟩, hnd, hrows⟩ := h
  obtain rfl := Option.some.inj (g0Named.symm.trans hg0)
  obtain rfl := Option.some.inj (g0Type.symm.trans ht0)
  subst e0
  obtain ⟨l0⟩ := cs0
  have ok0 : ∀ u v, l0 = [.iface u v] → Value.okWide Tryd.prog W .any 0 u v := fun u v e => by
    subst e
    exact (hrows 0 0 (by simp [MemPlace.row])).2 u v (by simpa using World.var?_cell hg0 hv0 0)
  obtain ⟨a0, s0, rfl, hc0, hs0, hz0, rfl⟩ := errorString_of_trod Tryd.underlying63 rowE Tryd.underlying124 Tryd.underlying150 rfl rfl Tryd.underlying9 cellsE cellsS hd0 ok0
  obtain ⟨c0, t0, hb0⟩ := (hrows a0.block a0.off (by simp [MemPlace.row])).1
  exact ⟨a0, er_of g0Named hv0 hc0 hb0⟩
set_option maxRecDepth 100000 in
theorem laid_er2 {W : World} (h : laidMet Tryd.prog [("loop.example/g00072/impl.errNoFrac", Rows.laid_loop_example_g00072_impl_errNoFrac), ("loop.example/g00072/impl.errApart", Rows.laid_loop_example_g00072_impl_errApart)] W) : ∃ a b, a ≠ b ∧ Er W 0 a ∧ Er W 1 b := by
  obtain ⟨a0, a1, s0, s1, c0, c1, t0, t1, hv0, hv1, hc0, hs0, hz0, hc1, hs1, hz1, hne, hb0, hb1⟩ := laid_sentinels2 h g0Named g0Type g1Named g1Type Tryd.underlying63 rowE Tryd.underlying124 Tryd.underlying150 rfl rfl Tryd.underlying9 cellsE cellsS
  exact ⟨a0, a1, hne, er_of g0Named hv0 hc0 hb0, er_of g1Named hv1 hc1 hb1⟩
/- A world in which the two errors stand: for the witness. -/
abbrev noS : ByteArray := { data := #[116, 104, 105, 115, 32, 99, 97, 110, 32, 98, 101, 32, 110, 111, 32, 102, 114, 97, 99, 116, 105, 111, 110] }
abbrev apS : ByteArray := { data := #[116, 104, 101, 115, 101, 32, 114, 97, 116, 101, 115, 32, 100, 111, 32, 110, 111, 116, 32, 109, 101, 101, 116] }
noncomputable def low : Nat := (World.holding Tryd.prog default ⟨#[], #[], []⟩).heap.size
noncomputable def laidWorld (os : Os) : World :=
  let w0 := World.holding Tryd.prog os ⟨#[.cells #[.string noS] 150, .cells #[.string apS] 150], #[], []⟩
  { w0 with heap := (w0.heap.modify 0 fun
      | .cells _ t frozen => .cells #[.iface 124 (.pointer (some ⟨low, 0, none⟩))] t frozen
      | o => o).modify 1 fun
      | .cells _ t frozen => .cells #[.iface 124 (.pointer (some ⟨low + 1, 0, none⟩))] t frozen
      | o => o }
theorem laid_met1 (os : Os) (args : Array Value) : laidMet Tryd.prog [("loop.example/g00072/impl.errNoFrac", Rows.laid_loop_example_g00072_impl_errNoFrac)] ((laidWorld os).forCall (fun _ _ => 0) ⟨#[], args, []⟩).memory :=
  laidMet_of_run (ps := [.cell 0 0, .cell low 0]) 8 (by kernel_rfl) (by kernel_rfl) (by kernel_rfl)
theorem laid_met2 (os : Os) (args : Array Value) : laidMet Tryd.prog [("loop.example/g00072/impl.errNoFrac", Rows.laid_loop_example_g00072_impl_errNoFrac), ("loop.example/g00072/impl.errApart", Rows.laid_loop_example_g00072_impl_errApart)] ((laidWorld os).forCall (fun _ _ => 0) ⟨#[], args, []⟩).memory :=
  laidMet_of_run (ps := [.cell 0 0, .cell low 0, .cell 1 0, .cell (low + 1) 0]) 8 (by kernel_rfl) (by kernel_rfl) (by kernel_rfl)
theorem vars_one {H : Type} {enc : TypeId × Value → H} {W : World} {sp : Nat → Bool} {n : String} {gs : List (DataW H)} {q : List MemPlace} (h : DataW.TrodVars enc Tryd.prog W sp [n] gs q) : ∃ g, gs = [g] := by
  match gs, h with
  | g :: gs', ⟨_, _, _, _, _, q', _, _, _, _, hq, _⟩ =>
    obtain ⟨rfl, _⟩ := Go.ChangeShapes.trodVars_none hq
    exact ⟨g, rfl⟩
theorem vars_two {H : Type} {enc : TypeId × Value → H} {W : World} {sp : Nat → Bool} {n m : String} {gs : List (DataW H)} {q : List MemPlace} (h : DataW.TrodVars enc Tryd.prog W sp [n, m] gs q) : ∃ g k, gs = [g, k] := by
  match gs, h with
  | g :: gs', ⟨_, _, _, _, _, q', _, _, _, _, hq, _⟩ =>
    obtain ⟨k, rfl⟩ := vars_one hq
    exact ⟨g, k, rfl⟩
end Go.Proofs.YtblappilppfkiaaDoor
