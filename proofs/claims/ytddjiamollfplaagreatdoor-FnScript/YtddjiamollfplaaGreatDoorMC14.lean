/- What the listed variables give; a world in which they stand. -/
import Derived.Stop.LaidErr
import Derived.Stop.LaidTwo
import Derived.LaidLaws
import Derived.LaidSub
import Derived.LaidHandle
import Derived.OpenShut
import Derived.RowKitTokens
import Derived.Lib.LaidTab
import Derived.ChangeArms
import Derived.Test.YtddjiamollfplaaGreatDoorMC13
namespace Go.Proofs.YtddjiamollfplaaGreatDoor
open Go.RowKit
set_option linter.unusedVariables false
theorem nu {W : World} {l : List (String × DataW Unit)} (h : laidMetH Tryz.prog l W) (hf : l.filter (fun x => x.1 == "internal/strconv.uint64pow10") = [("internal/strconv.uint64pow10", Rows.laid_internal_strconv_uint64pow10)]) : T10 W := by
 have h1 := h.filter (fun x => x.1 == "internal/strconv.uint64pow10")
 rw [hf] at h1
 have e0 : (Rows.laid_internal_strconv_uint64pow10 : DataW Unit) = Go.Lib.tabData .u64 Go.Lib.pow10Tab := by kernel_rfl
 have h2 : laidMet Tryz.prog [("internal/strconv.uint64pow10", (Rows.laid_internal_strconv_uint64pow10 : DataW Unit))] W := h1
 rw [e0] at h2
 exact Go.Lib.tabBelow_of_tabIs (Go.Lib.tabIs_of_head (g := 4) (t := 180) (e := 169) (n := 20) (by kernel_rfl) (by kernel_rfl) Tryz.underlying180 Tryz.underlying169 (by kernel_rfl) (by kernel_rfl) h2)
theorem mM : Tryz.prog.cellsOf 188 = 1 := by kernel_rfl
theorem mN : Tryz.prog.cellsOf 9 = 1 := by kernel_rfl
theorem mF : "*" ++ "errors.errorString" = "*errors.errorString" := by decide
theorem rowE (u : TypeId) (h : Tryz.prog.typeName? 3 u = some "*errors.errorString") : u = 186 :=
 typeName_ptr_named (nm := "errors.errorString") (by rw [mF]; kernel_rfl) (by kernel_rfl) (by decide) u (by rw [mF]; exact h)
set_option maxRecDepth 100000 in
theorem gP {W : World} {n : String} {g : Nat} {text : List UInt8} (hN : Tryz.prog.globalNamed n = some g) (hT : (Tryz.prog.globals[g]?).map (·.type) = some 80) (h : laidMet Tryz.prog [(n, .iface "*errors.errorString" (.ptr (.agg [.lit (.string text)])))] W) : ErC W g := by
 obtain ⟨ps, ⟨g0, t0, cs0, f0, p0, q0, hg0, ht0, hv0, hd0, _, e0⟩, hnd, hrows⟩ := h
 obtain rfl := Option.some.inj (hN.symm.trans hg0)
 obtain rfl := Option.some.inj (hT.symm.trans ht0)
 subst e0
 obtain ⟨l0⟩ := cs0
 have ok0 : ∀ u v, l0 = [.iface u v] → Value.okWide Tryz.prog W .any 0 u v := fun u v e => by
  subst e
  exact (hrows g 0 (by simp [MemPlace.row])).2 u v (by simpa using World.var?_cell hg0 hv0 0)
 obtain ⟨a0, s0, rfl, hc0, hs0, hz0, rfl⟩ := errorString_of_trod Tryz.underlying80 rowE Tryz.underlying186 Tryz.underlying188 rfl rfl Tryz.underlying9 mM mN hd0 ok0
 have h0 : W.cell? ⟨g, 0, none⟩ = some (.iface 186 (.pointer (some a0))) := by simpa using World.var?_cell hN hv0 0
 exact ⟨⟨_, _, h0⟩, World.block_lt_of_cell? W _ h0⟩
theorem ek {W : World} {l : List (String × DataW Unit)} (h : laidMetH Tryz.prog l W) (hf : l.filter (fun x => x.1 == "strconv.ErrRange") = [("strconv.ErrRange", Rows.laid_strconv_ErrRange)]) : ErC W 3 := by
 have h1 := h.filter (fun x => x.1 == "strconv.ErrRange")
 rw [hf] at h1
 exact gP (n := "strconv.ErrRange") (by kernel_rfl) (by kernel_rfl) (show laidMet Tryz.prog [("strconv.ErrRange", Rows.laid_strconv_ErrRange)] W from h1)
theorem dS {W : World} {l : List (String × DataW Unit)} (h : laidMetH Tryz.prog l W) (hf : l.filter (fun x => x.1 == "strconv.ErrSyntax") = [("strconv.ErrSyntax", Rows.laid_strconv_ErrSyntax)]) : ErC W 2 := by
 have h1 := h.filter (fun x => x.1 == "strconv.ErrSyntax")
 rw [hf] at h1
 exact gP (n := "strconv.ErrSyntax") (by kernel_rfl) (by kernel_rfl) (show laidMet Tryz.prog [("strconv.ErrSyntax", Rows.laid_strconv_ErrSyntax)] W from h1)
theorem lY : Tryz.prog.cellsOf 9 = 1 := by kernel_rfl
def jj : List (List UInt8) := [[], [112, 97, 115, 115], [98, 111, 111, 116], [99, 114, 97, 115, 104], [102, 105, 120], [97, 115, 107], [116, 105, 99, 107], [102, 117, 115, 101], [114, 101, 97, 100], [115, 101, 110, 100], [100, 101, 108, 105, 118, 101, 114], [100, 114, 111, 112], [100, 111, 117, 98, 108, 101], [109, 111, 118, 101], [102, 111, 114, 103, 101]]
set_option maxRecDepth 100000 in
theorem lH {W : World} {n : String} {g nn : Nat} {at_ : TypeId} {vals : List (List UInt8)} (hN : Tryz.prog.globalNamed n = some g) (hT : (Tryz.prog.globals[g]?).map (·.type) = some at_) (hU : Tryz.prog.underlying at_ = some (.array nn 9)) (hl : vals.length = nn)
 (h : laidMet Tryz.prog [(n, .agg (vals.map fun k => DataW.lit (Lit.string k)))] W) : ∀ j, j < vals.length → W.cell? ⟨g, j, none⟩ = some (.string ⟨(vals.getD j []).toArray⟩) := by
 obtain ⟨ps, ⟨g0, t0, cs0, f0, p0, q0, hg0, ht0, hv0, hd0, _, e0⟩, hnd, hrows⟩ := h
 obtain rfl := Option.some.inj (hN.symm.trans hg0)
 obtain rfl := Option.some.inj (hT.symm.trans ht0)
 obtain ⟨xs, m, hm, hx, hcl, hxl, hel⟩ := DataW.trod_array hU hd0
 intro j hj
 have h1 := hel j (by omega)
 rw [lY, Nat.mul_one] at h1
 simp only [Prod.mk.injEq, DataW.agg.injEq] at hx
 have h2 : (xs.map (·.1))[j]? = some (.lit (.string (vals.getD j []))) := by
  rw [← hx.1, List.getElem?_map, List.getElem?_eq_getElem hj]
  simp [hj]
 rw [List.getElem?_map] at h2
 cases hxj : xs[j]? with
 | none => rw [hxj] at h2; simp at h2
 | some y =>
  rw [hxj] at h2 h1
  simp only [Option.map_some, Option.some.injEq] at h2
  obtain ⟨v, e1, e2, e3⟩ := DataW.trod_string Tryz.underlying9 h1
  rw [e2] at h2
  have h4 : v.data.toList = vals.getD j [] := by simpa using h2
  have h5 := congrArg (fun l => l[0]?) e1
  have h6 : cs0[j]? = some (.string v) := by simpa using h5
  have h7 := World.var?_cell hg0 hv0 j
  rw [h7, h6, ← h4]
theorem lT : ∀ j, j < 15 → (⟨(jj.getD j []).toArray⟩ : ByteArray) = nmK (j : Int) := by
 intro j hj
 rcases (show j = 0 ∨ j = 1 ∨ j = 2 ∨ j = 3 ∨ j = 4 ∨ j = 5 ∨ j = 6 ∨ j = 7 ∨ j = 8 ∨ j = 9 ∨ j = 10 ∨ j = 11 ∨ j = 12 ∨ j = 13 ∨ j = 14 by omega) with rfl | rfl | rfl | rfl | rfl | rfl | rfl | rfl | rfl | rfl | rfl | rfl | rfl | rfl | rfl
 all_goals rfl
theorem na {W : World} {l : List (String × DataW Unit)} (h : laidMetH Tryz.prog l W) (hf : l.filter (fun x => x.1 == "loop.example/g00072/impl.opWords") = [("loop.example/g00072/impl.opWords", Rows.laid_loop_example_g00072_impl_opWords)]) : OpW W := by
 have h1 := h.filter (fun x => x.1 == "loop.example/g00072/impl.opWords")
 rw [hf] at h1
 have e0 : (Rows.laid_loop_example_g00072_impl_opWords : DataW Unit) = .agg (jj.map fun k => DataW.lit (Lit.string k)) := by kernel_rfl
 have h2 : laidMet Tryz.prog [("loop.example/g00072/impl.opWords", (Rows.laid_loop_example_g00072_impl_opWords : DataW Unit))] W := h1
 rw [e0] at h2
 have h3 := lH (n := "loop.example/g00072/impl.opWords") (g := 0) (nn := 15) (vals := jj) (by kernel_rfl) (by kernel_rfl) Tryz.underlying45 rfl h2
 exact ⟨fun j hj => by rw [h3 j hj, lT j hj], World.block_lt_of_cell? W _ (h3 0 (by decide))⟩
noncomputable def low : Nat := (World.holding Tryz.prog default ⟨#[], #[], []⟩).heap.size
noncomputable def fB (os : Os) : World :=
 let w0 := World.holding Tryz.prog os ⟨#[.cells #[.string { data := #[118, 97, 108, 117, 101, 32, 111, 117, 116, 32, 111, 102, 32, 114, 97, 110, 103, 101] }] 188, .cells #[.string { data := #[105, 110, 118, 97, 108, 105, 100, 32, 115, 121, 110, 116, 97, 120] }] 188], #[], []⟩
 { w0 with heap := ((((((w0.heap.modify 3 fun | .cells _ t frozen => .cells #[.iface 186 (.pointer (some ⟨low + 0, 0, none⟩))] t frozen | o => o).modify 2 fun | .cells _ t frozen => .cells #[.iface 186 (.pointer (some ⟨low + 1, 0, none⟩))] t frozen | o => o).modify 5 fun | .cells _ t frozen => .cells #[.int .u8 0, .int .u8 1, .int .u8 28, .int .u8 2, .int .u8 29, .int .u8 14, .int .u8 24, .int .u8 3, .int .u8 30, .int .u8 22, .int .u8 20, .int .u8 15, .int .u8 25, .int .u8 17, .int .u8 4, .int .u8 8, .int .u8 31, .int .u8 27, .int .u8 13, .int .u8 23, .int .u8 21, .int .u8 19, .int .u8 16, .int .u8 7, .int .u8 26, .int .u8 12, .int .u8 18, .int .u8 6, .int .u8 11, .int .u8 5, .int .u8 10, .int .u8 9] t frozen | o => o).modify 6 fun | .cells _ t frozen => .cells #[.int .u8 0, .int .u8 1, .int .u8 56, .int .u8 2, .int .u8 57, .int .u8 49, .int .u8 28, .int .u8 3, .int .u8 61, .int .u8 58, .int .u8 42, .int .u8 50, .int .u8 38, .int .u8 29, .int .u8 17, .int .u8 4, .int .u8 62, .int .u8 47, .int .u8 59, .int .u8 36, .int .u8 45, .int .u8 43, .int .u8 51, .int .u8 22, .int .u8 53, .int .u8 39, .int .u8 33, .int .u8 30, .int .u8 24, .int .u8 18, .int .u8 12, .int .u8 5, .int .u8 63, .int .u8 55, .int .u8 48, .int .u8 27, .int .u8 60, .int .u8 41, .int .u8 37, .int .u8 16, .int .u8 46, .int .u8 35, .int .u8 44, .int .u8 21, .int .u8 52, .int .u8 32, .int .u8 23, .int .u8 11, .int .u8 54, .int .u8 26, .int .u8 40, .int .u8 15, .int .u8 34, .int .u8 20, .int .u8 31, .int .u8 10, .int .u8 25, .int .u8 14, .int .u8 19, .int .u8 9, .int .u8 13, .int .u8 8, .int .u8 7, .int .u8 6] t frozen | o => o).modify 4 fun | .cells _ t frozen => .cells #[.int .u64 1, .int .u64 10, .int .u64 100, .int .u64 1000, .int .u64 10000, .int .u64 100000, .int .u64 1000000, .int .u64 10000000, .int .u64 100000000, .int .u64 1000000000, .int .u64 10000000000, .int .u64 100000000000, .int .u64 1000000000000, .int .u64 10000000000000, .int .u64 100000000000000, .int .u64 1000000000000000, .int .u64 10000000000000000, .int .u64 100000000000000000, .int .u64 1000000000000000000, .int .u64 10000000000000000000] t frozen | o => o).modify 0 fun | .cells _ t frozen => .cells #[.string { data := #[] }, .string { data := #[112, 97, 115, 115] }, .string { data := #[98, 111, 111, 116] }, .string { data := #[99, 114, 97, 115, 104] }, .string { data := #[102, 105, 120] }, .string { data := #[97, 115, 107] }, .string { data := #[116, 105, 99, 107] }, .string { data := #[102, 117, 115, 101] }, .string { data := #[114, 101, 97, 100] }, .string { data := #[115, 101, 110, 100] }, .string { data := #[100, 101, 108, 105, 118, 101, 114] }, .string { data := #[100, 114, 111, 112] }, .string { data := #[100, 111, 117, 98, 108, 101] }, .string { data := #[109, 111, 118, 101] }, .string { data := #[102, 111, 114, 103, 101] }] t frozen | o => o) }
theorem vars1 {H : Type} {enc : TypeId × Value → H} {W : World} {sp : Nat → Bool} {n : String} {gs : List (DataW H)} {q : List MemPlace} (h : DataW.TrodVars enc Tryz.prog W sp [n] gs q) : ∃ g1, gs = [g1] := by
 match gs, h with
 | g :: gs', ⟨_, _, _, _, _, q', _, _, _, _, hq, _⟩ =>
  obtain ⟨rfl, _⟩ := Go.ChangeShapes.trodVars_none hq
  exact ⟨g, rfl⟩
end Go.Proofs.YtddjiamollfplaaGreatDoor
