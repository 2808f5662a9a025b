/- What the listed variables give; a world in which they stand. -/
import Derived.Test.YtcakhfobkbgfoaaDoorRows
import Derived.Test.YtcakhfobkbgfoaaDoorF120
import Derived.Stop.LaidErr
import Derived.Stop.LaidTwo
import Derived.LaidLaws
import Derived.LaidSub
import Derived.LaidHandle
import Derived.OpenShut
import Derived.RowKitTokens
import Derived.WalkKit
namespace Go.Proofs.YtcakhfobkbgfoaaDoor
open Go.RowKit
set_option linter.unusedVariables false
def ErE (w : World) (g : Nat) : Prop := ∃ a, Er w g a
theorem ErE.below {w w' : World} {g : Nat} (h : ErE w g) (hb : Below w.heap.size w w') : ErE w' g := by obtain ⟨a, h⟩ := h; exact ⟨a, h.below hb⟩
theorem ErE.drew {w : World} {g : Nat} (h : ErE w g) : ErE w.drew g := h
theorem cellsE : Tryd.prog.cellsOf 190 = 1 := by kernel_rfl
theorem cellsS : Tryd.prog.cellsOf 9 = 1 := by kernel_rfl
theorem starE : "*" ++ "errors.errorString" = "*errors.errorString" := by decide
theorem rowE (u : TypeId) (h : Tryd.prog.typeName? 3 u = some "*errors.errorString") : u = 169 :=
  typeName_ptr_named (nm := "errors.errorString") (by rw [starE]; kernel_rfl) (by kernel_rfl) (by decide) u (by rw [starE]; exact h)
theorem er_of {W : World} {n : String} {g : Nat} {a : Addr} {s : ByteArray} {c : Array Value} {t : TypeId} (hg : Tryd.prog.globalNamed n = some g) (hv : W.var? Tryd.prog n = some #[.iface 169 (.pointer (some a))]) (hc : W.cell? a = some (.string s)) (hb : W.heap[a.block]? = some (.cells c t (0, 0))) : Er W g a := by
  have h0 : W.cell? ⟨g, 0, none⟩ = some (.iface 169 (.pointer (some a))) := by simpa using World.var?_cell hg hv 0
  exact ⟨h0, World.block_lt_of_cell? W _ h0, World.block_lt_of_cell? W _ hc, c, t, hb⟩
set_option maxRecDepth 100000 in
theorem laid_one {W : World} {n : String} {g : Nat} {text : List UInt8} (hN : Tryd.prog.globalNamed n = some g) (hT : (Tryd.prog.globals[g]?).map (·.type) = some 83) (h : laidMet Tryd.prog [(n, .iface "*errors.errorString" (.ptr (.agg [.lit (.string text)])))] W) : ErE W g := by
  obtain ⟨ps, ⟨g0, t0, cs0, f0, p0, q0, hg0, ht0, hv0, hd0, _, e0⟩, hnd, hrows⟩ := h
  obtain rfl := Option.some.inj (hN.symm.trans hg0)
  obtain rfl := Option.some.inj (hT.symm.trans ht0)
  subst e0
  obtain ⟨l0⟩ := cs0
  have ok0 : ∀ u v, l0 = [.iface u v] → Value.okWide Tryd.prog W .any 0 u v := fun u v e => by
    subst e
    exact (hrows g 0 (by simp [MemPlace.row])).2 u v (by simpa using World.var?_cell hg0 hv0 0)
  obtain ⟨a0, s0, rfl, hc0, hs0, hz0, rfl⟩ := errorString_of_trod Tryd.underlying83 rowE Tryd.underlying169 Tryd.underlying190 rfl rfl Tryd.underlying9 cellsE cellsS hd0 ok0
  obtain ⟨c0, t0, hb0⟩ := (hrows a0.block a0.off (by simp [MemPlace.row])).1
  exact ⟨a0, er_of hN hv0 hc0 hb0⟩
theorem errNoIval_er {W : World} {l : List (String × DataW Unit)} (h : laidMetH Tryd.prog l W) (hf : l.filter (fun x => x.1 == "loop.example/g00072/impl.errNoIval") = [("loop.example/g00072/impl.errNoIval", Rows.laid_loop_example_g00072_impl_errNoIval)]) : ErE W 1 := by
  have h1 := h.filter (fun x => x.1 == "loop.example/g00072/impl.errNoIval")
  rw [hf] at h1
  exact laid_one (n := "loop.example/g00072/impl.errNoIval") (by kernel_rfl) (by kernel_rfl) (show laidMet Tryd.prog [("loop.example/g00072/impl.errNoIval", Rows.laid_loop_example_g00072_impl_errNoIval)] W from h1)
theorem errNoDrift_er {W : World} {l : List (String × DataW Unit)} (h : laidMetH Tryd.prog l W) (hf : l.filter (fun x => x.1 == "loop.example/g00072/impl.errNoDrift") = [("loop.example/g00072/impl.errNoDrift", Rows.laid_loop_example_g00072_impl_errNoDrift)]) : ErE W 7 := by
  have h1 := h.filter (fun x => x.1 == "loop.example/g00072/impl.errNoDrift")
  rw [hf] at h1
  exact laid_one (n := "loop.example/g00072/impl.errNoDrift") (by kernel_rfl) (by kernel_rfl) (show laidMet Tryd.prog [("loop.example/g00072/impl.errNoDrift", Rows.laid_loop_example_g00072_impl_errNoDrift)] W from h1)
theorem errNoLong_er {W : World} {l : List (String × DataW Unit)} (h : laidMetH Tryd.prog l W) (hf : l.filter (fun x => x.1 == "loop.example/g00072/impl.errNoLong") = [("loop.example/g00072/impl.errNoLong", Rows.laid_loop_example_g00072_impl_errNoLong)]) : ErE W 8 := by
  have h1 := h.filter (fun x => x.1 == "loop.example/g00072/impl.errNoLong")
  rw [hf] at h1
  exact laid_one (n := "loop.example/g00072/impl.errNoLong") (by kernel_rfl) (by kernel_rfl) (show laidMet Tryd.prog [("loop.example/g00072/impl.errNoLong", Rows.laid_loop_example_g00072_impl_errNoLong)] W from h1)
theorem errNoPlan_er {W : World} {l : List (String × DataW Unit)} (h : laidMetH Tryd.prog l W) (hf : l.filter (fun x => x.1 == "loop.example/g00072/impl.errNoPlan") = [("loop.example/g00072/impl.errNoPlan", Rows.laid_loop_example_g00072_impl_errNoPlan)]) : ErE W 3 := by
  have h1 := h.filter (fun x => x.1 == "loop.example/g00072/impl.errNoPlan")
  rw [hf] at h1
  exact laid_one (n := "loop.example/g00072/impl.errNoPlan") (by kernel_rfl) (by kernel_rfl) (show laidMet Tryd.prog [("loop.example/g00072/impl.errNoPlan", Rows.laid_loop_example_g00072_impl_errNoPlan)] W from h1)
theorem errNoNode_er {W : World} {l : List (String × DataW Unit)} (h : laidMetH Tryd.prog l W) (hf : l.filter (fun x => x.1 == "loop.example/g00072/impl.errNoNode") = [("loop.example/g00072/impl.errNoNode", Rows.laid_loop_example_g00072_impl_errNoNode)]) : ErE W 4 := by
  have h1 := h.filter (fun x => x.1 == "loop.example/g00072/impl.errNoNode")
  rw [hf] at h1
  exact laid_one (n := "loop.example/g00072/impl.errNoNode") (by kernel_rfl) (by kernel_rfl) (show laidMet Tryd.prog [("loop.example/g00072/impl.errNoNode", Rows.laid_loop_example_g00072_impl_errNoNode)] W from h1)
theorem errUnknown_er {W : World} {l : List (String × DataW Unit)} (h : laidMetH Tryd.prog l W) (hf : l.filter (fun x => x.1 == "loop.example/g00072/impl.errUnknown") = [("loop.example/g00072/impl.errUnknown", Rows.laid_loop_example_g00072_impl_errUnknown)]) : ErE W 5 := by
  have h1 := h.filter (fun x => x.1 == "loop.example/g00072/impl.errUnknown")
  rw [hf] at h1
  exact laid_one (n := "loop.example/g00072/impl.errUnknown") (by kernel_rfl) (by kernel_rfl) (show laidMet Tryd.prog [("loop.example/g00072/impl.errUnknown", Rows.laid_loop_example_g00072_impl_errUnknown)] W from h1)
theorem errBeyond_er {W : World} {l : List (String × DataW Unit)} (h : laidMetH Tryd.prog l W) (hf : l.filter (fun x => x.1 == "loop.example/g00072/impl.errBeyond") = [("loop.example/g00072/impl.errBeyond", Rows.laid_loop_example_g00072_impl_errBeyond)]) : ErE W 2 := by
  have h1 := h.filter (fun x => x.1 == "loop.example/g00072/impl.errBeyond")
  rw [hf] at h1
  exact laid_one (n := "loop.example/g00072/impl.errBeyond") (by kernel_rfl) (by kernel_rfl) (show laidMet Tryd.prog [("loop.example/g00072/impl.errBeyond", Rows.laid_loop_example_g00072_impl_errBeyond)] W from h1)
theorem errOutside_er {W : World} {l : List (String × DataW Unit)} (h : laidMetH Tryd.prog l W) (hf : l.filter (fun x => x.1 == "loop.example/g00072/impl.errOutside") = [("loop.example/g00072/impl.errOutside", Rows.laid_loop_example_g00072_impl_errOutside)]) : ErE W 6 := by
  have h1 := h.filter (fun x => x.1 == "loop.example/g00072/impl.errOutside")
  rw [hf] at h1
  exact laid_one (n := "loop.example/g00072/impl.errOutside") (by kernel_rfl) (by kernel_rfl) (show laidMet Tryd.prog [("loop.example/g00072/impl.errOutside", Rows.laid_loop_example_g00072_impl_errOutside)] W from h1)
/- The handle of the type 'error', in errors.errorType. -/
def EtH (w : World) : Prop := w.cell? ⟨0, 0, none⟩ = some (.iface 151 (.agg #[.pointer (some ⟨9, 83, none⟩)])) ∧ 0 < w.heap.size
theorem EtH.below {w w' : World} (h : EtH w) (hb : Below w.heap.size w w') : EtH w' := ⟨by rw [hb.cell (p := ⟨0, 0, none⟩) h.2]; exact h.1, Nat.lt_of_lt_of_le h.2 hb.size⟩
theorem EtH.drew {w : World} (h : EtH w) : EtH w.drew := h
theorem etNamed : Tryd.prog.globalNamed "errors.errorType" = some 0 := by kernel_rfl
theorem etRow : (Tryd.prog.cutTypes.find? (·.1 == "internal/reflectlite.rtype")).map (·.2) = some 151 := by kernel_rfl
theorem etSize : Tryd.prog.types.size = 202 := by kernel_rfl
theorem etOne : ((List.range 202).filter fun t => Tryd.prog.rowNamed t [101, 114, 114, 111, 114]) = [83] := by kernel_rfl
theorem errorType_at {W : World} {l : List (String × DataW Unit)} (h : laidMetH Tryd.prog l W) (hf : l.filter (fun x => x.1 == "errors.errorType") = [("errors.errorType", Rows.laid_errors_errorType)]) : EtH W := by
  have h1 := h.filter (fun x => x.1 == "errors.errorType")
  rw [hf] at h1
  have h' : laidMet Tryd.prog [] W ∧ handlesMet Tryd.prog [("errors.errorType", Rows.laid_errors_errorType)] W := h1
  obtain ⟨name, u, ty, e1, e2, e3, e4, e5⟩ := h'.2 _ (List.mem_singleton.2 rfl)
  have en : name = [101, 114, 114, 111, 114] := (Option.some.inj e1).symm
  subst en
  obtain rfl := Option.some.inj (etRow.symm.trans e2)
  have hm : ty ∈ (List.range 202).filter fun t => Tryd.prog.rowNamed t [101, 114, 114, 111, 114] := List.mem_filter.2 ⟨List.mem_range.2 (by rw [← etSize]; exact e3), e4⟩
  rw [etOne] at hm
  obtain rfl := List.mem_singleton.1 hm
  have hh : typeHandle Tryd.prog 83 = .pointer (some ⟨9, 83, none⟩) := by kernel_rfl
  rw [hh] at e5
  have hc : W.cell? ⟨0, 0, none⟩ = some (.iface 151 (.agg #[.pointer (some ⟨9, 83, none⟩)])) := by simpa using World.var?_cell etNamed e5 0
  exact ⟨hc, World.block_lt_of_cell? W _ hc⟩
/- A world in which they stand: for the witness. -/
noncomputable def low : Nat := (World.holding Tryd.prog default ⟨#[], #[], []⟩).heap.size
noncomputable def laidWorld (os : Os) : World :=
  let w0 := World.holding Tryd.prog os ⟨#[.cells #[.string { data := #[116, 104, 105, 115, 32, 105, 115, 32, 110, 111, 32, 105, 110, 116, 101, 114, 118, 97, 108] }] 190, .cells #[.string { data := #[116, 104, 105, 115, 32, 105, 115, 32, 110, 111, 32, 100, 114, 105, 102, 116] }] 190, .cells #[.string { data := #[110, 111, 32, 102, 114, 97, 109, 101, 32, 105, 115, 32, 115, 111, 32, 108, 111, 110, 103] }] 190, .cells #[.string { data := #[116, 104, 105, 115, 32, 105, 115, 32, 110, 111, 32, 112, 108, 97, 110] }] 190, .cells #[.string { data := #[116, 104, 105, 115, 32, 105, 115, 32, 110, 111, 32, 110, 111, 100, 101] }] 190, .cells #[.string { data := #[110, 111, 116, 104, 105, 110, 103, 32, 105, 115, 32, 107, 110, 111, 119, 110, 32, 111, 102, 32, 116, 114, 117, 101, 32, 116, 105, 109, 101] }] 190, .cells #[.string { data := #[116, 104, 105, 115, 32, 114, 101, 97, 99, 104, 101, 115, 32, 98, 101, 121, 111, 110, 100, 32, 97, 108, 108, 32, 116, 105, 109, 101, 115] }] 190, .cells #[.string { data := #[110, 111, 32, 115, 108, 111, 116, 32, 111, 102, 32, 105, 116, 115, 32, 111, 119, 110, 101, 114, 32, 104, 97, 115, 32, 116, 104, 101, 32, 119, 104, 111, 108, 101, 32, 111, 102, 32, 105, 116] }] 190], #[], []⟩
  { w0 with heap := (((((((((w0.heap.modify 1 fun | .cells _ t frozen => .cells #[.iface 169 (.pointer (some ⟨low + 0, 0, none⟩))] t frozen | o => o).modify 7 fun | .cells _ t frozen => .cells #[.iface 169 (.pointer (some ⟨low + 1, 0, none⟩))] t frozen | o => o).modify 8 fun | .cells _ t frozen => .cells #[.iface 169 (.pointer (some ⟨low + 2, 0, none⟩))] t frozen | o => o).modify 3 fun | .cells _ t frozen => .cells #[.iface 169 (.pointer (some ⟨low + 3, 0, none⟩))] t frozen | o => o).modify 4 fun | .cells _ t frozen => .cells #[.iface 169 (.pointer (some ⟨low + 4, 0, none⟩))] t frozen | o => o).modify 5 fun | .cells _ t frozen => .cells #[.iface 169 (.pointer (some ⟨low + 5, 0, none⟩))] t frozen | o => o).modify 2 fun | .cells _ t frozen => .cells #[.iface 169 (.pointer (some ⟨low + 6, 0, none⟩))] t frozen | o => o).modify 6 fun | .cells _ t frozen => .cells #[.iface 169 (.pointer (some ⟨low + 7, 0, none⟩))] t frozen | o => o).modify 0 fun | .cells _ t frozen => .cells #[.iface 151 (.agg #[.pointer (some ⟨9, 83, none⟩)])] t frozen | o => o) }
theorem vars1 {H : Type} {enc : TypeId × Value → H} {W : World} {sp : Nat → Bool} {n : String} {gs : List (DataW H)} {q : List MemPlace} (h : DataW.TrodVars enc Tryd.prog W sp [n] gs q) : ∃ g1, gs = [g1] := by
  match gs, h with
  | g :: gs', ⟨_, _, _, _, _, q', _, _, _, _, hq, _⟩ =>
    obtain ⟨rfl, _⟩ := Go.ChangeShapes.trodVars_none hq
    exact ⟨g, rfl⟩
theorem vars2 {H : Type} {enc : TypeId × Value → H} {W : World} {sp : Nat → Bool} {n1 n2 : String} {gs : List (DataW H)} {q : List MemPlace} (h : DataW.TrodVars enc Tryd.prog W sp [n1, n2] gs q) : ∃ g1 g2, gs = [g1, g2] := by
  match gs, h with
  | g :: gs', ⟨_, _, _, _, _, q', _, _, _, _, hq, _⟩ =>
    obtain ⟨g2, rfl⟩ := vars1 hq
    exact ⟨g, g2, rfl⟩
theorem vars3 {H : Type} {enc : TypeId × Value → H} {W : World} {sp : Nat → Bool} {n1 n2 n3 : String} {gs : List (DataW H)} {q : List MemPlace} (h : DataW.TrodVars enc Tryd.prog W sp [n1, n2, n3] gs q) : ∃ g1 g2 g3, gs = [g1, g2, g3] := by
  match gs, h with
  | g :: gs', ⟨_, _, _, _, _, q', _, _, _, _, hq, _⟩ =>
    obtain ⟨g2, g3, rfl⟩ := vars2 hq
    exact ⟨g, g2, g3, rfl⟩
theorem vars4 {H : Type} {enc : TypeId × Value → H} {W : World} {sp : Nat → Bool} {n1 n2 n3 n4 : String} {gs : List (DataW H)} {q : List MemPlace} (h : DataW.TrodVars enc Tryd.prog W sp [n1, n2, n3, n4] gs q) : ∃ g1 g2 g3 g4, gs = [g1, g2, g3, g4] := by
  match gs, h with
  | g :: gs', ⟨_, _, _, _, _, q', _, _, _, _, hq, _⟩ =>
    obtain ⟨g2, g3, g4, rfl⟩ := vars3 hq
    exact ⟨g, g2, g3, g4, rfl⟩
theorem vars5 {H : Type} {enc : TypeId × Value → H} {W : World} {sp : Nat → Bool} {n1 n2 n3 n4 n5 : String} {gs : List (DataW H)} {q : List MemPlace} (h : DataW.TrodVars enc Tryd.prog W sp [n1, n2, n3, n4, n5] gs q) : ∃ g1 g2 g3 g4 g5, gs = [g1, g2, g3, g4, g5] := by
  match gs, h with
  | g :: gs', ⟨_, _, _, _, _, q', _, _, _, _, hq, _⟩ =>
    obtain ⟨g2, g3, g4, g5, rfl⟩ := vars4 hq
    exact ⟨g, g2, g3, g4, g5, rfl⟩
theorem vars6 {H : Type} {enc : TypeId × Value → H} {W : World} {sp : Nat → Bool} {n1 n2 n3 n4 n5 n6 : String} {gs : List (DataW H)} {q : List MemPlace} (h : DataW.TrodVars enc Tryd.prog W sp [n1, n2, n3, n4, n5, n6] gs q) : ∃ g1 g2 g3 g4 g5 g6, gs = [g1, g2, g3, g4, g5, g6] := by
  match gs, h with
  | g :: gs', ⟨_, _, _, _, _, q', _, _, _, _, hq, _⟩ =>
    obtain ⟨g2, g3, g4, g5, g6, rfl⟩ := vars5 hq
    exact ⟨g, g2, g3, g4, g5, g6, rfl⟩
theorem vars7 {H : Type} {enc : TypeId × Value → H} {W : World} {sp : Nat → Bool} {n1 n2 n3 n4 n5 n6 n7 : String} {gs : List (DataW H)} {q : List MemPlace} (h : DataW.TrodVars enc Tryd.prog W sp [n1, n2, n3, n4, n5, n6, n7] gs q) : ∃ g1 g2 g3 g4 g5 g6 g7, gs = [g1, g2, g3, g4, g5, g6, g7] := by
  match gs, h with
  | g :: gs', ⟨_, _, _, _, _, q', _, _, _, _, hq, _⟩ =>
    obtain ⟨g2, g3, g4, g5, g6, g7, rfl⟩ := vars6 hq
    exact ⟨g, g2, g3, g4, g5, g6, g7, rfl⟩
theorem vars8 {H : Type} {enc : TypeId × Value → H} {W : World} {sp : Nat → Bool} {n1 n2 n3 n4 n5 n6 n7 n8 : String} {gs : List (DataW H)} {q : List MemPlace} (h : DataW.TrodVars enc Tryd.prog W sp [n1, n2, n3, n4, n5, n6, n7, n8] gs q) : ∃ g1 g2 g3 g4 g5 g6 g7 g8, gs = [g1, g2, g3, g4, g5, g6, g7, g8] := by
  match gs, h with
  | g :: gs', ⟨_, _, _, _, _, q', _, _, _, _, hq, _⟩ =>
    obtain ⟨g2, g3, g4, g5, g6, g7, g8, rfl⟩ := vars7 hq
    exact ⟨g, g2, g3, g4, g5, g6, g7, g8, rfl⟩
end Go.Proofs.YtcakhfobkbgfoaaDoor
