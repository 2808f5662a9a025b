/- What the listed tables give; a world in which they stand. -/
import Derived.Test.YtdahabbdhjgpdaaDoorRows
import Derived.Test.YtdahabbdhjgpdaaDoorS178
import Derived.Stop.LaidErr
import Derived.Stop.LaidTwo
import Derived.LaidLaws
import Derived.LaidSub
import Derived.LaidHandle
import Derived.OpenShut
import Derived.RowKitTokens
import Derived.WalkKit
namespace Go.Proofs.YtdahabbdhjgpdaaDoor
open Go.RowKit
set_option linter.unusedVariables false
theorem cells8 : Tryd.prog.cellsOf 5 = 1 := by kernel_rfl
set_option maxRecDepth 100000 in
theorem tab_one {W : World} {n : String} {g nn : Nat} {at_ : TypeId} {vals : List Nat} (hN : Tryd.prog.globalNamed n = some g) (hT : (Tryd.prog.globals[g]?).map (·.type) = some at_) (hU : Tryd.prog.underlying at_ = some (.array nn 5)) (hl : vals.length = nn)
    (h : laidMet Tryd.prog [(n, .agg (vals.map fun (k : Nat) => DataW.lit (Lit.int .u8 ((k : Nat) : Int))))] W) : ∀ j, j < vals.length → W.cell? ⟨g, j, none⟩ = some (.int .u8 ((vals.getD j 0 : Nat) : Int)) := by
  obtain ⟨ps, ⟨g0, t0, cs0, f0, p0, q0, hg0, ht0, hv0, hd0, _, e0⟩, hnd, hrows⟩ := h
  obtain rfl := Option.some.inj (hN.symm.trans hg0)
  obtain rfl := Option.some.inj (hT.symm.trans ht0)
  obtain ⟨xs, m, hm, hx, hcl, hxl, hel⟩ := DataW.trod_array hU hd0
  intro j hj
  have h1 := hel j (by omega)
  rw [cells8, Nat.mul_one] at h1
  simp only [Prod.mk.injEq, DataW.agg.injEq] at hx
  have h2 : (xs.map (·.1))[j]? = some (.lit (.int .u8 ((vals.getD j 0 : Nat) : Int))) := by
    rw [← hx.1, List.getElem?_map, List.getElem?_eq_getElem hj]
    simp [hj]
  rw [List.getElem?_map] at h2
  cases hxj : xs[j]? with
  | none => rw [hxj] at h2; simp at h2
  | some y =>
    rw [hxj] at h2 h1
    simp only [Option.map_some, Option.some.injEq] at h2
    obtain ⟨v, e1, e2, e3⟩ := DataW.trod_int Tryd.underlying5 h1
    rw [e2] at h2
    have h4 : v = ((vals.getD j 0 : Nat) : Int) := by simpa using h2
    have h5 := congrArg (fun l => l[0]?) e1
    have h6 : cs0[j]? = some (.int .u8 v) := by simpa using h5
    have h7 := World.var?_cell hg0 hv0 j
    rw [h7, h6, h4]

theorem tb_at {W : World} {l : List (String × DataW Unit)} (h : laidMetH Tryd.prog l W) (hf : l.filter (fun x => x.1 == "math/bits.deBruijn64tab") = [("math/bits.deBruijn64tab", Rows.laid_math_bits_deBruijn64tab)]) : Tb W := by
  have h1 := h.filter (fun x => x.1 == "math/bits.deBruijn64tab")
  rw [hf] at h1
  have e0 : (Rows.laid_math_bits_deBruijn64tab : DataW Unit) = .agg (Go.Lib.deBruijn64tab.map fun (k : Nat) => DataW.lit (Lit.int .u8 ((k : Nat) : Int))) := by kernel_rfl
  have h2 : laidMet Tryd.prog [("math/bits.deBruijn64tab", (Rows.laid_math_bits_deBruijn64tab : DataW Unit))] W := h1
  rw [e0] at h2
  have h2 : laidMet Tryd.prog [("math/bits.deBruijn64tab", .agg (Go.Lib.deBruijn64tab.map fun (k : Nat) => DataW.lit (Lit.int .u8 ((k : Nat) : Int))))] W := h2
  have h3 := tab_one (n := "math/bits.deBruijn64tab") (g := 1) (nn := 64) (vals := Go.Lib.deBruijn64tab) (by kernel_rfl) (by kernel_rfl) Tryd.underlying137 rfl h2
  exact ⟨h3, World.block_lt_of_cell? W _ (h3 0 (by decide))⟩
/- A world in which they stand: for the witness. -/
noncomputable def laidWorld (os : Os) : World :=
  let w0 := World.holding Tryd.prog os ⟨#[], #[], []⟩
  { w0 with heap := ((w0.heap.modify 0 fun | .cells _ t frozen => .cells #[.int .u8 0, .int .u8 1, .int .u8 28, .int .u8 2, .int .u8 29, .int .u8 14, .int .u8 24, .int .u8 3, .int .u8 30, .int .u8 22, .int .u8 20, .int .u8 15, .int .u8 25, .int .u8 17, .int .u8 4, .int .u8 8, .int .u8 31, .int .u8 27, .int .u8 13, .int .u8 23, .int .u8 21, .int .u8 19, .int .u8 16, .int .u8 7, .int .u8 26, .int .u8 12, .int .u8 18, .int .u8 6, .int .u8 11, .int .u8 5, .int .u8 10, .int .u8 9] t frozen | o => o).modify 1 fun | .cells _ t frozen => .cells #[.int .u8 0, .int .u8 1, .int .u8 56, .int .u8 2, .int .u8 57, .int .u8 49, .int .u8 28, .int .u8 3, .int .u8 61, .int .u8 58, .int .u8 42, .int .u8 50, .int .u8 38, .int .u8 29, .int .u8 17, .int .u8 4, .int .u8 62, .int .u8 47, .int .u8 59, .int .u8 36, .int .u8 45, .int .u8 43, .int .u8 51, .int .u8 22, .int .u8 53, .int .u8 39, .int .u8 33, .int .u8 30, .int .u8 24, .int .u8 18, .int .u8 12, .int .u8 5, .int .u8 63, .int .u8 55, .int .u8 48, .int .u8 27, .int .u8 60, .int .u8 41, .int .u8 37, .int .u8 16, .int .u8 46, .int .u8 35, .int .u8 44, .int .u8 21, .int .u8 52, .int .u8 32, .int .u8 23, .int .u8 11, .int .u8 54, .int .u8 26, .int .u8 40, .int .u8 15, .int .u8 34, .int .u8 20, .int .u8 31, .int .u8 10, .int .u8 25, .int .u8 14, .int .u8 19, .int .u8 9, .int .u8 13, .int .u8 8, .int .u8 7, .int .u8 6] t frozen | o => o) }
theorem vars1 {H : Type} {enc : TypeId × Value → H} {W : World} {sp : Nat → Bool} {n : String} {gs : List (DataW H)} {q : List MemPlace} (h : DataW.TrodVars enc Tryd.prog W sp [n] gs q) : ∃ g1, gs = [g1] := by
  match gs, h with
  | g :: gs', ⟨_, _, _, _, _, q', _, _, _, _, hq, _⟩ =>
    obtain ⟨rfl, _⟩ := Go.ChangeShapes.trodVars_none hq
    exact ⟨g, rfl⟩
theorem vars2 {H : Type} {enc : TypeId × Value → H} {W : World} {sp : Nat → Bool} {n1 n2 : String} {gs : List (DataW H)} {q : List MemPlace} (h : DataW.TrodVars enc Tryd.prog W sp [n1, n2] gs q) : ∃ g1 g2, gs = [g1, g2] := by
  match gs, h with
  | g :: gs', ⟨_, _, _, _, _, q', _, _, _, _, hq, _⟩ =>
    obtain ⟨g2, rfl⟩ := vars1 hq
    exact ⟨g, g2, rfl⟩
end Go.Proofs.YtdahabbdhjgpdaaDoor
