/- What the listed error gives; a world in which it stands. -/
import Derived.Test.YtpjaekofibpgnaaDoorRows
import Derived.Test.YtpjaekofibpgnaaDoorF120
import Derived.Stop.LaidErr
import Derived.Stop.LaidTwo
import Derived.LaidLaws
import Derived.OpenShut
import Derived.WalkKit
import Derived.WalkSpells
import Derived.WalkLawsBesides
import Derived.Deep.RegionHeld
namespace Go.Proofs.YtpjaekofibpgnaaDoor
open Go.RowKit
set_option linter.unusedVariables false
theorem g0Named : Tryd.prog.globalNamed "loop.example/g00072/impl.errNoFrac" = some 0 := by kernel_rfl
theorem g0Type : (Tryd.prog.globals[0]?).map (·.type) = some 68 := by kernel_rfl
theorem cellsE : Tryd.prog.cellsOf 119 = 1 := by kernel_rfl
theorem cellsS : Tryd.prog.cellsOf 9 = 1 := by kernel_rfl
theorem starE : "*" ++ "errors.errorString" = "*errors.errorString" := by decide
theorem rowE (u : TypeId) (h : Tryd.prog.typeName? 3 u = some "*errors.errorString") : u = 94 :=
  typeName_ptr_named (nm := "errors.errorString") (by rw [starE]; kernel_rfl) (by kernel_rfl) (by decide) u (by rw [starE]; exact h)
theorem er_of {W : World} {n : String} {g : Nat} {a : Addr} {s : ByteArray} {c : Array Value} {t : TypeId} (hg : Tryd.prog.globalNamed n = some g) (hv : W.var? Tryd.prog n = some #[.iface 94 (.pointer (some a))]) (hc : W.cell? a = some (.string s)) (hb : W.heap[a.block]? = some (.cells c t (0, 0))) : Er W g a := by
  have h0 : W.cell? ⟨g, 0, none⟩ = some (.iface 94 (.pointer (some a))) := by simpa using World.var?_cell hg hv 0
  exact ⟨h0, World.block_lt_of_cell? W _ h0, World.block_lt_of_cell? W _ hc, c, t, hb⟩
set_option maxRecDepth 100000 in
theorem laid_er1 {W : World} (h : laidMet Tryd.prog [("loop.example/g00072/impl.errNoFrac", Rows.laid_loop_example_g00072_impl_errNoFrac)] W) : ∃ a, Er W 0 a := by
  obtain ⟨ps, ⟨g0, t0, cs0, f0, p0, q0, hg0, ht0, hv0, hd0, _, e0⟩, hnd, hrows⟩ := h
  obtain rfl := Option.some.inj (g0Named.symm.trans hg0)
  obtain rfl := Option.some.inj (g0Type.symm.trans ht0)
  subst e0
  obtain ⟨l0⟩ := cs0
  have ok0 : ∀ u v, l0 = [.iface u v] → Value.okWide Tryd.prog W .any 0 u v := fun u v e => by
    subst e
    exact (hrows 0 0 (by simp [MemPlace.row])).2 u v (by simpa using World.var?_cell hg0 hv0 0)
  obtain ⟨a0, s0, rfl, hc0, hs0, hz0, rfl⟩ := errorString_of_trod Tryd.underlying68 rowE Tryd.underlying94 Tryd.underlying119 rfl rfl Tryd.underlying9 cellsE cellsS hd0 ok0
  obtain ⟨c0, t0, hb0⟩ := (hrows a0.block a0.off (by simp [MemPlace.row])).1
  exact ⟨a0, er_of g0Named hv0 hc0 hb0⟩
/- A world in which the two errors stand: for the witness. -/
abbrev noS : ByteArray := { data := #[116, 104, 105, 115, 32, 99, 97, 110, 32, 98, 101, 32, 110, 111, 32, 102, 114, 97, 99, 116, 105, 111, 110] }
noncomputable def low : Nat := (World.holding Tryd.prog default ⟨#[], #[], []⟩).heap.size
noncomputable def laidWorld (os : Os) : World :=
  let w0 := World.holding Tryd.prog os ⟨#[.cells #[.string noS] 119], #[], []⟩
  { w0 with heap := w0.heap.modify 0 fun
      | .cells _ t frozen => .cells #[.iface 94 (.pointer (some ⟨low, 0, none⟩))] t frozen
      | o => o }
theorem laid_met1 (os : Os) (args : Array Value) : laidMet Tryd.prog [("loop.example/g00072/impl.errNoFrac", Rows.laid_loop_example_g00072_impl_errNoFrac)] ((laidWorld os).forCall (fun _ _ => 0) ⟨#[], args, []⟩).memory :=
  laidMet_of_run (ps := [.cell 0 0, .cell low 0]) 8 (by kernel_rfl) (by kernel_rfl) (by kernel_rfl)
theorem vars_one {H : Type} {enc : TypeId × Value → H} {W : World} {sp : Nat → Bool} {n : String} {gs : List (DataW H)} {q : List MemPlace} (h : DataW.TrodVars enc Tryd.prog W sp [n] gs q) : ∃ g, gs = [g] := by
  match gs, h with
  | g :: gs', ⟨_, _, _, _, _, q', _, _, _, _, hq, _⟩ =>
    obtain ⟨rfl, _⟩ := Go.ChangeShapes.trodVars_none hq
    exact ⟨g, rfl⟩
end Go.Proofs.YtpjaekofibpgnaaDoor
