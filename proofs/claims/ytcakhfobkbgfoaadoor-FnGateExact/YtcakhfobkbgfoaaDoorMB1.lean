/- Contracts of the functions of chapter 1 (intervals) in the specification and in the program, and the walks of its first exact laws. Errors of errors.New told apart by errors.Is. What the listed variables give; a world in which they stand. Contracts of Fold and Unfold, and the walks of their exact laws. Contracts of MsgOk. Contracts of the helpers of chapter 1 (told intervals, least and greatest, meet and join). Contracts of Apart and Middle. Contracts of the small functions of chapter 2 (drift) in the specification and in the program. Plans: numbers. Contracts of Shift and Spread. Contracts of the four roundings of chapter 2. Contracts of Nearest and Within. -/
import Derived.Test.YtcakhfobkbgfoaaDoorRows
import Derived.WalkKit
import Derived.WalkSpells
import Derived.WalkLawsBesides
import Derived.LaidEql
import Derived.Stop.Asserts
import Derived.RowKitTokens
import Derived.Handy
import Derived.Deep.RegionHeld
import Derived.Stop.LaidErr
import Derived.Stop.LaidTwo
import Derived.LaidLaws
import Derived.LaidSub
import Derived.LaidHandle
import Derived.OpenShut
namespace Go.Proofs.YtcakhfobkbgfoaaDoor
open Go.RowKit
set_option linter.unusedVariables false
theorem ret_int {k : IntKind} {a b : Int} (h : a = b) : Ending.returned (.int k a) = .returned (.int k b) := by rw [h]
theorem ret_bool {a b : Bool} (h : a = b) : Ending.returned (.bool a) = .returned (.bool b) := by rw [h]
theorem bcell {W w1 : World} (hb : Below W.heap.size W w1) : (∀ b o, b < W.heap.size → w1.cell? ⟨b, o, none⟩ = W.cell? ⟨b, o, none⟩) ∧ (∀ b o, b < W.heap.size → w1.frozen? ⟨b, o, none⟩ = W.frozen? ⟨b, o, none⟩) :=
  ⟨fun b o h => hb.cell (p := ⟨b, o, none⟩) h, fun b o h => hb.frozen (p := ⟨b, o, none⟩) h⟩
def okI (lo hi : Int) : Bool := decide (lo ≤ hi ∧ -1000000000000 ≤ lo ∧ hi ≤ 1000000000000)
theorem okI_t {lo hi : Int} (h : okI lo hi = true) : lo ≤ hi ∧ -1000000000000 ≤ lo ∧ hi ≤ 1000000000000 := of_decide_eq_true h
theorem okI_f {lo hi : Int} (h : okI lo hi = false) : ¬ (lo ≤ hi ∧ -1000000000000 ≤ lo ∧ hi ≤ 1000000000000) := of_decide_eq_false h
set_option maxHeartbeats 400000 in
theorem specIvalOk_any (lo hi : Int) (w : World) :
    Calls Tryd.prog 49 #[.agg #[.int .i64 lo, .int .i64 hi]] w fun e w' => e = .returned (.bool (okI lo hi)) ∧ Below w.heap.size w w' := by
  go_enter Tryd.func49, Tryd.ntmps49
  go_wp2
  all_goals go_ret
  all_goals exact ⟨ret_bool (by rw [Bool.eq_iff_iff]; simp [okI]; try omega), by repeat (first | exact Below.refl _ _ | refine Below.drew ?_ | refine Below.alloc ?_ (by first | (simp; done) | (simp; omega) | omega) _ | refine Below.setCell ?_ (by first | (simp; done) | (simp; omega) | omega) _ | refine Below.trans ?_ (Below.mono (by assumption) (by first | (simp; done) | (simp; omega) | omega)))⟩
set_option maxHeartbeats 400000 in
theorem ok_any (lo hi : Int) (w : World) :
    Calls Tryd.prog 91 #[.agg #[.int .i64 lo, .int .i64 hi]] w fun e w' => e = .returned (.bool (okI lo hi)) ∧ Below w.heap.size w w' := by
  go_enter Tryd.func91, Tryd.ntmps91
  go_wp2
  all_goals go_ret
  all_goals exact ⟨ret_bool (by rw [Bool.eq_iff_iff]; simp [okI]; try omega), by repeat (first | exact Below.refl _ _ | refine Below.drew ?_ | refine Below.alloc ?_ (by first | (simp; done) | (simp; omega) | omega) _ | refine Below.setCell ?_ (by first | (simp; done) | (simp; omega) | omega) _ | refine Below.trans ?_ (Below.mono (by assumption) (by first | (simp; done) | (simp; omega) | omega)))⟩
set_option maxHeartbeats 400000 in
theorem toIval_any (lo hi : Int) (w : World) :
    Calls Tryd.prog 22 #[.agg #[.int .i64 lo, .int .i64 hi]] w fun e w' => e = .returned (.agg #[.int .i64 lo, .int .i64 hi]) ∧ Below w.heap.size w w' := by
  go_enter Tryd.func22, Tryd.ntmps22
  go_wp2
  exact bodyPost_ret (v := .agg #[.int .i64 lo, .int .i64 hi]) (by simp [results, Tryd.results22, go_sem]) rfl ⟨rfl, by repeat (first | exact Below.refl _ _ | refine Below.drew ?_ | refine Below.alloc ?_ (by first | (simp; done) | (simp; omega) | omega) _ | refine Below.setCell ?_ (by first | (simp; done) | (simp; omega) | omega) _ | refine Below.trans ?_ (Below.mono (by assumption) (by first | (simp; done) | (simp; omega) | omega)))⟩
def wideI (lo hi : Int) : Int := if okI lo hi then hi - lo else -1
theorem wideI_t {lo hi : Int} (h : okI lo hi = true) : wideI lo hi = hi - lo := by simp [wideI, h]
theorem wideI_f {lo hi : Int} (h : okI lo hi = false) : wideI lo hi = -1 := by simp [wideI, h]
set_option maxHeartbeats 400000 in
theorem specWide_any (lo hi : Int) (w : World) :
    Calls Tryd.prog 18 #[.agg #[.int .i64 lo, .int .i64 hi]] w fun e w' => e = .returned (.int .i64 (wideI lo hi)) ∧ Below w.heap.size w w' := by
  cases h : okI lo hi
  · rw [wideI_f h]
    go_enter Tryd.func18, Tryd.ntmps18
    go_wp2_with (first | (go_at_call 49; refine (specIvalOk_any _ _ _).mono ?_; rintro e w' ⟨rfl, hb⟩; obtain ⟨hc, hf⟩ := bcell hb; have hz := hb.size; (try simp at hz); (try (have hz0 : w.heap.size < w'.heap.size := by omega)); (try (have hz1 : w.heap.size + 1 < w'.heap.size := by omega)); (try (have hz2 : w.heap.size + 1 + 1 < w'.heap.size := by omega)); (try (have hz3 : w.heap.size + 1 + 1 + 1 < w'.heap.size := by omega))))
    go_ret
    exact ⟨rfl, by repeat (first | exact Below.refl _ _ | refine Below.drew ?_ | refine Below.alloc ?_ (by first | (simp; done) | (simp; omega) | omega) _ | refine Below.setCell ?_ (by first | (simp; done) | (simp; omega) | omega) _ | refine Below.trans ?_ (Below.mono (by assumption) (by first | (simp; done) | (simp; omega) | omega)))⟩
  · rw [wideI_t h]
    have ⟨h1, h2, h3⟩ := okI_t h
    go_enter Tryd.func18, Tryd.ntmps18
    go_wp2_with (first | (go_at_call 49; refine (specIvalOk_any _ _ _).mono ?_; rintro e w' ⟨rfl, hb⟩; obtain ⟨hc, hf⟩ := bcell hb; have hz := hb.size; (try simp at hz); (try (have hz0 : w.heap.size < w'.heap.size := by omega)); (try (have hz1 : w.heap.size + 1 < w'.heap.size := by omega)); (try (have hz2 : w.heap.size + 1 + 1 < w'.heap.size := by omega)); (try (have hz3 : w.heap.size + 1 + 1 + 1 < w'.heap.size := by omega))))
    go_ret
    exact ⟨rfl, by repeat (first | exact Below.refl _ _ | refine Below.drew ?_ | refine Below.alloc ?_ (by first | (simp; done) | (simp; omega) | omega) _ | refine Below.setCell ?_ (by first | (simp; done) | (simp; omega) | omega) _ | refine Below.trans ?_ (Below.mono (by assumption) (by first | (simp; done) | (simp; omega) | omega)))⟩
def holdsI (lo hi t : Int) : Bool := okI lo hi && decide (lo ≤ t ∧ t ≤ hi)
theorem holdsI_f {lo hi t : Int} (h : okI lo hi = false) : holdsI lo hi t = false := by simp [holdsI, h]
end Go.Proofs.YtcakhfobkbgfoaaDoor
namespace Go.Proofs.YtcakhfobkbgfoaaDoor
open Go.RowKit
set_option linter.unusedVariables false
/- An error of errors.New's make in a package-level variable: the variable's cell, and that the error's own row is such as two of them can be told apart. -/
def Er (w : World) (g : Nat) (a : Addr) : Prop := w.cell? ⟨g, 0, none⟩ = some (.iface 169 (.pointer (some a))) ∧ g < w.heap.size ∧ a.block < w.heap.size ∧ ∃ c t, w.heap[a.block]? = some (.cells c t (0, 0))
theorem Er.belowB {w w' : World} {g B : Nat} {a : Addr} (h : Er w g a) (hb : Below B w w') (hB : w.heap.size ≤ B) : Er w' g a := by
  obtain ⟨h1, h2, h3, c, t, h4⟩ := h
  have hs := hb.size
  exact ⟨by rw [hb.cell (p := ⟨g, 0, none⟩) (by simp; omega)]; exact h1, by omega, by omega, c, t, by rw [hb.block _ (by omega)]; exact h4⟩
theorem Er.below {w w' : World} {g : Nat} {a : Addr} (h : Er w g a) (hb : Below w.heap.size w w') : Er w' g a := h.belowB hb (Nat.le_refl _)
theorem Er.alloc {w : World} {g : Nat} {a : Addr} (h : Er w g a) (o : Obj) : Er (w.alloc o) g a := h.below ((Below.refl _ _).alloc (Nat.le_refl _) _)
theorem Er.drew {w : World} {g : Nat} {a : Addr} (h : Er w g a) : Er w.drew g a := h
theorem errComp : (Tryd.prog.info? 169).map (·.comparable) = some true := by kernel_rfl
theorem errSize : (Tryd.prog.info? 190).map (·.size) = some 1 := by kernel_rfl
theorem errType (v : Value) (w : World) : (callFunc 106 #[.iface 169 v]).run Tryd.prog w = .ok (.value (.iface 151 (.agg #[.pointer (some ⟨9, 169, none⟩)]))) w := by kernel_rfl
theorem errCan (w : World) : (callFunc 145 #[.agg #[.pointer (some ⟨9, 169, none⟩)]]).run Tryd.prog w = .ok (.value (.bool true)) w := by kernel_rfl
theorem errMeth (v : Value) (w : World) : (Go.method 203 151 v "Comparable").run Tryd.prog w = .ok (145, v) w := by kernel_rfl
theorem errNoWrap (v : Value) (xT : TypeId) (w : World) : (Instr.typeAssert (.iface 169 v) xT 159 true).run Tryd.prog w = .ok (.tuple #[.nilIface, .bool false]) w := run_typeAssert_lacksB Tryd.underlying159 (by kernel_rfl) (by kernel_rfl) v xT w
theorem errNoWraps (v : Value) (xT : TypeId) (w : World) : (Instr.typeAssert (.iface 169 v) xT 160 true).run Tryd.prog w = .ok (.tuple #[.nilIface, .bool false]) w := run_typeAssert_lacksB Tryd.underlying160 (by kernel_rfl) (by kernel_rfl) v xT w
end Go.Proofs.YtcakhfobkbgfoaaDoor
namespace Go.Proofs.YtcakhfobkbgfoaaDoor
open Go.RowKit
set_option linter.unusedVariables false
def ErE (w : World) (g : Nat) : Prop := ∃ a, Er w g a
theorem ErE.below {w w' : World} {g : Nat} (h : ErE w g) (hb : Below w.heap.size w w') : ErE w' g := by obtain ⟨a, h⟩ := h; exact ⟨a, h.below hb⟩
theorem ErE.drew {w : World} {g : Nat} (h : ErE w g) : ErE w.drew g := h
theorem cellsE : Tryd.prog.cellsOf 190 = 1 := by kernel_rfl
theorem cellsS : Tryd.prog.cellsOf 9 = 1 := by kernel_rfl
theorem starE : "*" ++ "errors.errorString" = "*errors.errorString" := by decide
theorem rowE (u : TypeId) (h : Tryd.prog.typeName? 3 u = some "*errors.errorString") : u = 169 :=
  typeName_ptr_named (nm := "errors.errorString") (by rw [starE]; kernel_rfl) (by kernel_rfl) (by decide) u (by rw [starE]; exact h)
theorem er_of {W : World} {n : String} {g : Nat} {a : Addr} {s : ByteArray} {c : Array Value} {t : TypeId} (hg : Tryd.prog.globalNamed n = some g) (hv : W.var? Tryd.prog n = some #[.iface 169 (.pointer (some a))]) (hc : W.cell? a = some (.string s)) (hb : W.heap[a.block]? = some (.cells c t (0, 0))) : Er W g a := by
  have h0 : W.cell? ⟨g, 0, none⟩ = some (.iface 169 (.pointer (some a))) := by simpa using World.var?_cell hg hv 0
  exact ⟨h0, World.block_lt_of_cell? W _ h0, World.block_lt_of_cell? W _ hc, c, t, hb⟩
set_option maxRecDepth 100000 in
theorem laid_one {W : World} {n : String} {g : Nat} {text : List UInt8} (hN : Tryd.prog.globalNamed n = some g) (hT : (Tryd.prog.globals[g]?).map (·.type) = some 83) (h : laidMet Tryd.prog [(n, .iface "*errors.errorString" (.ptr (.agg [.lit (.string text)])))] W) : ErE W g := by
  obtain ⟨ps, ⟨g0, t0, cs0, f0, p0, q0, hg0, ht0, hv0, hd0, _, e0⟩, hnd, hrows⟩ := h
  obtain rfl := Option.some.inj (hN.symm.trans hg0)
  obtain rfl := Option.some.inj (hT.symm.trans ht0)
  subst e0
  obtain ⟨l0⟩ := cs0
  have ok0 : ∀ u v, l0 = [.iface u v] → Value.okWide Tryd.prog W .any 0 u v := fun u v e => by
    subst e
    exact (hrows g 0 (by simp [MemPlace.row])).2 u v (by simpa using World.var?_cell hg0 hv0 0)
  obtain ⟨a0, s0, rfl, hc0, hs0, hz0, rfl⟩ := errorString_of_trod Tryd.underlying83 rowE Tryd.underlying169 Tryd.underlying190 rfl rfl Tryd.underlying9 cellsE cellsS hd0 ok0
  obtain ⟨c0, t0, hb0⟩ := (hrows a0.block a0.off (by simp [MemPlace.row])).1
  exact ⟨a0, er_of hN hv0 hc0 hb0⟩
theorem errNoIval_er {W : World} {l : List (String × DataW Unit)} (h : laidMetH Tryd.prog l W) (hf : l.filter (fun x => x.1 == "loop.example/g00072/impl.errNoIval") = [("loop.example/g00072/impl.errNoIval", Rows.laid_loop_example_g00072_impl_errNoIval)]) : ErE W 1 := by
  have h1 := h.filter (fun x => x.1 == "loop.example/g00072/impl.errNoIval")
  rw [hf] at h1
  exact laid_one (n := "loop.example/g00072/impl.errNoIval") (by kernel_rfl) (by kernel_rfl) (show laidMet Tryd.prog [("loop.example/g00072/impl.errNoIval", Rows.laid_loop_example_g00072_impl_errNoIval)] W from h1)
theorem errNoDrift_er {W : World} {l : List (String × DataW Unit)} (h : laidMetH Tryd.prog l W) (hf : l.filter (fun x => x.1 == "loop.example/g00072/impl.errNoDrift") = [("loop.example/g00072/impl.errNoDrift", Rows.laid_loop_example_g00072_impl_errNoDrift)]) : ErE W 7 := by
  have h1 := h.filter (fun x => x.1 == "loop.example/g00072/impl.errNoDrift")
  rw [hf] at h1
  exact laid_one (n := "loop.example/g00072/impl.errNoDrift") (by kernel_rfl) (by kernel_rfl) (show laidMet Tryd.prog [("loop.example/g00072/impl.errNoDrift", Rows.laid_loop_example_g00072_impl_errNoDrift)] W from h1)
theorem errNoLong_er {W : World} {l : List (String × DataW Unit)} (h : laidMetH Tryd.prog l W) (hf : l.filter (fun x => x.1 == "loop.example/g00072/impl.errNoLong") = [("loop.example/g00072/impl.errNoLong", Rows.laid_loop_example_g00072_impl_errNoLong)]) : ErE W 8 := by
  have h1 := h.filter (fun x => x.1 == "loop.example/g00072/impl.errNoLong")
  rw [hf] at h1
  exact laid_one (n := "loop.example/g00072/impl.errNoLong") (by kernel_rfl) (by kernel_rfl) (show laidMet Tryd.prog [("loop.example/g00072/impl.errNoLong", Rows.laid_loop_example_g00072_impl_errNoLong)] W from h1)
theorem errNoPlan_er {W : World} {l : List (String × DataW Unit)} (h : laidMetH Tryd.prog l W) (hf : l.filter (fun x => x.1 == "loop.example/g00072/impl.errNoPlan") = [("loop.example/g00072/impl.errNoPlan", Rows.laid_loop_example_g00072_impl_errNoPlan)]) : ErE W 3 := by
  have h1 := h.filter (fun x => x.1 == "loop.example/g00072/impl.errNoPlan")
  rw [hf] at h1
  exact laid_one (n := "loop.example/g00072/impl.errNoPlan") (by kernel_rfl) (by kernel_rfl) (show laidMet Tryd.prog [("loop.example/g00072/impl.errNoPlan", Rows.laid_loop_example_g00072_impl_errNoPlan)] W from h1)
theorem errNoNode_er {W : World} {l : List (String × DataW Unit)} (h : laidMetH Tryd.prog l W) (hf : l.filter (fun x => x.1 == "loop.example/g00072/impl.errNoNode") = [("loop.example/g00072/impl.errNoNode", Rows.laid_loop_example_g00072_impl_errNoNode)]) : ErE W 4 := by
  have h1 := h.filter (fun x => x.1 == "loop.example/g00072/impl.errNoNode")
  rw [hf] at h1
  exact laid_one (n := "loop.example/g00072/impl.errNoNode") (by kernel_rfl) (by kernel_rfl) (show laidMet Tryd.prog [("loop.example/g00072/impl.errNoNode", Rows.laid_loop_example_g00072_impl_errNoNode)] W from h1)
theorem errUnknown_er {W : World} {l : List (String × DataW Unit)} (h : laidMetH Tryd.prog l W) (hf : l.filter (fun x => x.1 == "loop.example/g00072/impl.errUnknown") = [("loop.example/g00072/impl.errUnknown", Rows.laid_loop_example_g00072_impl_errUnknown)]) : ErE W 5 := by
  have h1 := h.filter (fun x => x.1 == "loop.example/g00072/impl.errUnknown")
  rw [hf] at h1
  exact laid_one (n := "loop.example/g00072/impl.errUnknown") (by kernel_rfl) (by kernel_rfl) (show laidMet Tryd.prog [("loop.example/g00072/impl.errUnknown", Rows.laid_loop_example_g00072_impl_errUnknown)] W from h1)
theorem errBeyond_er {W : World} {l : List (String × DataW Unit)} (h : laidMetH Tryd.prog l W) (hf : l.filter (fun x => x.1 == "loop.example/g00072/impl.errBeyond") = [("loop.example/g00072/impl.errBeyond", Rows.laid_loop_example_g00072_impl_errBeyond)]) : ErE W 2 := by
  have h1 := h.filter (fun x => x.1 == "loop.example/g00072/impl.errBeyond")
  rw [hf] at h1
  exact laid_one (n := "loop.example/g00072/impl.errBeyond") (by kernel_rfl) (by kernel_rfl) (show laidMet Tryd.prog [("loop.example/g00072/impl.errBeyond", Rows.laid_loop_example_g00072_impl_errBeyond)] W from h1)
theorem errOutside_er {W : World} {l : List (String × DataW Unit)} (h : laidMetH Tryd.prog l W) (hf : l.filter (fun x => x.1 == "loop.example/g00072/impl.errOutside") = [("loop.example/g00072/impl.errOutside", Rows.laid_loop_example_g00072_impl_errOutside)]) : ErE W 6 := by
  have h1 := h.filter (fun x => x.1 == "loop.example/g00072/impl.errOutside")
  rw [hf] at h1
  exact laid_one (n := "loop.example/g00072/impl.errOutside") (by kernel_rfl) (by kernel_rfl) (show laidMet Tryd.prog [("loop.example/g00072/impl.errOutside", Rows.laid_loop_example_g00072_impl_errOutside)] W from h1)
/- The handle of the type 'error', in errors.errorType. -/
def EtH (w : World) : Prop := w.cell? ⟨0, 0, none⟩ = some (.iface 151 (.agg #[.pointer (some ⟨9, 83, none⟩)])) ∧ 0 < w.heap.size
theorem EtH.below {w w' : World} (h : EtH w) (hb : Below w.heap.size w w') : EtH w' := ⟨by rw [hb.cell (p := ⟨0, 0, none⟩) h.2]; exact h.1, Nat.lt_of_lt_of_le h.2 hb.size⟩
theorem EtH.drew {w : World} (h : EtH w) : EtH w.drew := h
theorem etNamed : Tryd.prog.globalNamed "errors.errorType" = some 0 := by kernel_rfl
theorem etRow : (Tryd.prog.cutTypes.find? (·.1 == "internal/reflectlite.rtype")).map (·.2) = some 151 := by kernel_rfl
theorem etSize : Tryd.prog.types.size = 202 := by kernel_rfl
theorem etOne : ((List.range 202).filter fun t => Tryd.prog.rowNamed t [101, 114, 114, 111, 114]) = [83] := by kernel_rfl
theorem errorType_at {W : World} {l : List (String × DataW Unit)} (h : laidMetH Tryd.prog l W) (hf : l.filter (fun x => x.1 == "errors.errorType") = [("errors.errorType", Rows.laid_errors_errorType)]) : EtH W := by
  have h1 := h.filter (fun x => x.1 == "errors.errorType")
  rw [hf] at h1
  have h' : laidMet Tryd.prog [] W ∧ handlesMet Tryd.prog [("errors.errorType", Rows.laid_errors_errorType)] W := h1
  obtain ⟨name, u, ty, e1, e2, e3, e4, e5⟩ := h'.2 _ (List.mem_singleton.2 rfl)
  have en : name = [101, 114, 114, 111, 114] := (Option.some.inj e1).symm
  subst en
  obtain rfl := Option.some.inj (etRow.symm.trans e2)
  have hm : ty ∈ (List.range 202).filter fun t => Tryd.prog.rowNamed t [101, 114, 114, 111, 114] := List.mem_filter.2 ⟨List.mem_range.2 (by rw [← etSize]; exact e3), e4⟩
  rw [etOne] at hm
  obtain rfl := List.mem_singleton.1 hm
  have hh : typeHandle Tryd.prog 83 = .pointer (some ⟨9, 83, none⟩) := by kernel_rfl
  rw [hh] at e5
  have hc : W.cell? ⟨0, 0, none⟩ = some (.iface 151 (.agg #[.pointer (some ⟨9, 83, none⟩)])) := by simpa using World.var?_cell etNamed e5 0
  exact ⟨hc, World.block_lt_of_cell? W _ hc⟩
/- A world in which they stand: for the witness. -/
noncomputable def low : Nat := (World.holding Tryd.prog default ⟨#[], #[], []⟩).heap.size
noncomputable def laidWorld (os : Os) : World :=
  let w0 := World.holding Tryd.prog os ⟨#[.cells #[.string { data := #[116, 104, 105, 115, 32, 105, 115, 32, 110, 111, 32, 105, 110, 116, 101, 114, 118, 97, 108] }] 190, .cells #[.string { data := #[116, 104, 105, 115, 32, 105, 115, 32, 110, 111, 32, 100, 114, 105, 102, 116] }] 190, .cells #[.string { data := #[110, 111, 32, 102, 114, 97, 109, 101, 32, 105, 115, 32, 115, 111, 32, 108, 111, 110, 103] }] 190, .cells #[.string { data := #[116, 104, 105, 115, 32, 105, 115, 32, 110, 111, 32, 112, 108, 97, 110] }] 190, .cells #[.string { data := #[116, 104, 105, 115, 32, 105, 115, 32, 110, 111, 32, 110, 111, 100, 101] }] 190, .cells #[.string { data := #[110, 111, 116, 104, 105, 110, 103, 32, 105, 115, 32, 107, 110, 111, 119, 110, 32, 111, 102, 32, 116, 114, 117, 101, 32, 116, 105, 109, 101] }] 190, .cells #[.string { data := #[116, 104, 105, 115, 32, 114, 101, 97, 99, 104, 101, 115, 32, 98, 101, 121, 111, 110, 100, 32, 97, 108, 108, 32, 116, 105, 109, 101, 115] }] 190, .cells #[.string { data := #[110, 111, 32, 115, 108, 111, 116, 32, 111, 102, 32, 105, 116, 115, 32, 111, 119, 110, 101, 114, 32, 104, 97, 115, 32, 116, 104, 101, 32, 119, 104, 111, 108, 101, 32, 111, 102, 32, 105, 116] }] 190], #[], []⟩
  { w0 with heap := (((((((((w0.heap.modify 1 fun | .cells _ t frozen => .cells #[.iface 169 (.pointer (some ⟨low + 0, 0, none⟩))] t frozen | o => o).modify 7 fun | .cells _ t frozen => .cells #[.iface 169 (.pointer (some ⟨low + 1, 0, none⟩))] t frozen | o => o).modify 8 fun | .cells _ t frozen => .cells #[.iface 169 (.pointer (some ⟨low + 2, 0, none⟩))] t frozen | o => o).modify 3 fun | .cells _ t frozen => .cells #[.iface 169 (.pointer (some ⟨low + 3, 0, none⟩))] t frozen | o => o).modify 4 fun | .cells _ t frozen => .cells #[.iface 169 (.pointer (some ⟨low + 4, 0, none⟩))] t frozen | o => o).modify 5 fun | .cells _ t frozen => .cells #[.iface 169 (.pointer (some ⟨low + 5, 0, none⟩))] t frozen | o => o).modify 2 fun | .cells _ t frozen => .cells #[.iface 169 (.pointer (some ⟨low + 6, 0, none⟩))] t frozen | o => o).modify 6 fun | .cells _ t frozen => .cells #[.iface 169 (.pointer (some ⟨low + 7, 0, none⟩))] t frozen | o => o).modify 0 fun | .cells _ t frozen => .cells #[.iface 151 (.agg #[.pointer (some ⟨9, 83, none⟩)])] t frozen | o => o) }
theorem vars1 {H : Type} {enc : TypeId × Value → H} {W : World} {sp : Nat → Bool} {n : String} {gs : List (DataW H)} {q : List MemPlace} (h : DataW.TrodVars enc Tryd.prog W sp [n] gs q) : ∃ g1, gs = [g1] := by
  match gs, h with
  | g :: gs', ⟨_, _, _, _, _, q', _, _, _, _, hq, _⟩ =>
    obtain ⟨rfl, _⟩ := Go.ChangeShapes.trodVars_none hq
    exact ⟨g, rfl⟩
theorem vars2 {H : Type} {enc : TypeId × Value → H} {W : World} {sp : Nat → Bool} {n1 n2 : String} {gs : List (DataW H)} {q : List MemPlace} (h : DataW.TrodVars enc Tryd.prog W sp [n1, n2] gs q) : ∃ g1 g2, gs = [g1, g2] := by
  match gs, h with
  | g :: gs', ⟨_, _, _, _, _, q', _, _, _, _, hq, _⟩ =>
    obtain ⟨g2, rfl⟩ := vars1 hq
    exact ⟨g, g2, rfl⟩
theorem vars3 {H : Type} {enc : TypeId × Value → H} {W : World} {sp : Nat → Bool} {n1 n2 n3 : String} {gs : List (DataW H)} {q : List MemPlace} (h : DataW.TrodVars enc Tryd.prog W sp [n1, n2, n3] gs q) : ∃ g1 g2 g3, gs = [g1, g2, g3] := by
  match gs, h with
  | g :: gs', ⟨_, _, _, _, _, q', _, _, _, _, hq, _⟩ =>
    obtain ⟨g2, g3, rfl⟩ := vars2 hq
    exact ⟨g, g2, g3, rfl⟩
theorem vars4 {H : Type} {enc : TypeId × Value → H} {W : World} {sp : Nat → Bool} {n1 n2 n3 n4 : String} {gs : List (DataW H)} {q : List MemPlace} (h : DataW.TrodVars enc Tryd.prog W sp [n1, n2, n3, n4] gs q) : ∃ g1 g2 g3 g4, gs = [g1, g2, g3, g4] := by
  match gs, h with
  | g :: gs', ⟨_, _, _, _, _, q', _, _, _, _, hq, _⟩ =>
    obtain ⟨g2, g3, g4, rfl⟩ := vars3 hq
    exact ⟨g, g2, g3, g4, rfl⟩
theorem vars5 {H : Type} {enc : TypeId × Value → H} {W : World} {sp : Nat → Bool} {n1 n2 n3 n4 n5 : String} {gs : List (DataW H)} {q : List MemPlace} (h : DataW.TrodVars enc Tryd.prog W sp [n1, n2, n3, n4, n5] gs q) : ∃ g1 g2 g3 g4 g5, gs = [g1, g2, g3, g4, g5] := by
  match gs, h with
  | g :: gs', ⟨_, _, _, _, _, q', _, _, _, _, hq, _⟩ =>
    obtain ⟨g2, g3, g4, g5, rfl⟩ := vars4 hq
    exact ⟨g, g2, g3, g4, g5, rfl⟩
theorem vars6 {H : Type} {enc : TypeId × Value → H} {W : World} {sp : Nat → Bool} {n1 n2 n3 n4 n5 n6 : String} {gs : List (DataW H)} {q : List MemPlace} (h : DataW.TrodVars enc Tryd.prog W sp [n1, n2, n3, n4, n5, n6] gs q) : ∃ g1 g2 g3 g4 g5 g6, gs = [g1, g2, g3, g4, g5, g6] := by
  match gs, h with
  | g :: gs', ⟨_, _, _, _, _, q', _, _, _, _, hq, _⟩ =>
    obtain ⟨g2, g3, g4, g5, g6, rfl⟩ := vars5 hq
    exact ⟨g, g2, g3, g4, g5, g6, rfl⟩
theorem vars7 {H : Type} {enc : TypeId × Value → H} {W : World} {sp : Nat → Bool} {n1 n2 n3 n4 n5 n6 n7 : String} {gs : List (DataW H)} {q : List MemPlace} (h : DataW.TrodVars enc Tryd.prog W sp [n1, n2, n3, n4, n5, n6, n7] gs q) : ∃ g1 g2 g3 g4 g5 g6 g7, gs = [g1, g2, g3, g4, g5, g6, g7] := by
  match gs, h with
  | g :: gs', ⟨_, _, _, _, _, q', _, _, _, _, hq, _⟩ =>
    obtain ⟨g2, g3, g4, g5, g6, g7, rfl⟩ := vars6 hq
    exact ⟨g, g2, g3, g4, g5, g6, g7, rfl⟩
theorem vars8 {H : Type} {enc : TypeId × Value → H} {W : World} {sp : Nat → Bool} {n1 n2 n3 n4 n5 n6 n7 n8 : String} {gs : List (DataW H)} {q : List MemPlace} (h : DataW.TrodVars enc Tryd.prog W sp [n1, n2, n3, n4, n5, n6, n7, n8] gs q) : ∃ g1 g2 g3 g4 g5 g6 g7 g8, gs = [g1, g2, g3, g4, g5, g6, g7, g8] := by
  match gs, h with
  | g :: gs', ⟨_, _, _, _, _, q', _, _, _, _, hq, _⟩ =>
    obtain ⟨g2, g3, g4, g5, g6, g7, g8, rfl⟩ := vars7 hq
    exact ⟨g, g2, g3, g4, g5, g6, g7, g8, rfl⟩
end Go.Proofs.YtcakhfobkbgfoaaDoor
namespace Go.Proofs.YtcakhfobkbgfoaaDoor
open Go.RowKit
set_option linter.unusedVariables false
set_option maxHeartbeats 400000 in
theorem l1In_any (x l h : Int) (w : World) :
    Calls Tryd.prog 51 #[.int .i64 x, .int .i64 l, .int .i64 h] w fun e w' => e = .returned (.bool (decide (l ≤ x ∧ x ≤ h))) ∧ w = w' := by
  go_enter Tryd.func51, Tryd.ntmps51
  go_wp2
  all_goals go_ret
  all_goals exact ⟨ret_bool (by rw [Bool.eq_iff_iff]; simp; try omega), rfl⟩
def foldI (x : Int) : Int := if -1000000000000 ≤ x ∧ x ≤ 1000000000000 then (if x < 0 then -2 * x - 1 else 2 * x) else 0
def unfJ (x : Int) : Int := if x % 2 = 1 then -(x / 2) - 1 else x / 2
def unfI (x : Int) : Int := if 0 ≤ x ∧ x ≤ 2000000000000 then unfJ x else 0
end Go.Proofs.YtcakhfobkbgfoaaDoor
namespace Go.Proofs.YtcakhfobkbgfoaaDoor
open Go.RowKit
set_option linter.unusedVariables false
def nodB (n : Int) : Bool := decide (0 ≤ n ∧ n ≤ 7)
def adB (fr tuu no : Int) : Bool := nodB fr && nodB tuu && (fr != tuu) && decide (0 ≤ no ∧ no ≤ 100000999)
set_option maxHeartbeats 400000 in
theorem isNode_any (n : Int) (w : World) :
    Calls Tryd.prog 104 #[.int .i64 n] w fun e w' => e = .returned (.bool (nodB n)) ∧ w = w' := by
  go_enter Tryd.func104, Tryd.ntmps104
  go_wp2
  all_goals go_ret
  all_goals exact ⟨ret_bool (by rw [Bool.eq_iff_iff]; simp [nodB]; try omega), rfl⟩
set_option maxHeartbeats 400000 in
theorem l4Node_any (n : Int) (w : World) :
    Calls Tryd.prog 53 #[.int .i64 n] w fun e w' => e = .returned (.bool (nodB n)) ∧ w = w' := by
  go_enter Tryd.func53, Tryd.ntmps53
  go_wp2_with (first | (go_at_call 51; refine (l1In_any _ _ _ _).mono ?_; rintro e w' ⟨rfl, rfl⟩))
  go_ret
  exact ⟨ret_bool (by simp [nodB]), rfl⟩
def Box8 (w : World) (j : Nat) (k fr tuu no lo hi sl : Int) (s : ByteArray) : Prop := j < w.heap.size ∧ w.cell? ⟨j, 0, none⟩ = some (.int .i64 k) ∧ w.cell? ⟨j, 1, none⟩ = some (.int .i64 fr) ∧ w.cell? ⟨j, 2, none⟩ = some (.int .i64 tuu) ∧ w.cell? ⟨j, 3, none⟩ = some (.int .i64 no) ∧ w.cell? ⟨j, 4, none⟩ = some (.int .i64 lo) ∧ w.cell? ⟨j, 5, none⟩ = some (.int .i64 hi) ∧ w.cell? ⟨j, 6, none⟩ = some (.int .i64 sl) ∧ w.cell? ⟨j, 7, none⟩ = some (.string s)
theorem Box8.belowB {j B : Nat} {w w' : World} {k fr tuu no lo hi sl : Int} {s : ByteArray} (h : Box8 w j k fr tuu no lo hi sl s) (hw : Below B w w') (hk : j < B) : Box8 w' j k fr tuu no lo hi sl s := by
  obtain ⟨h0, h1, h2, h3, h4, h5, h6, h7, h8⟩ := h
  exact ⟨Nat.lt_of_lt_of_le h0 hw.size, by rw [hw.cell (p := ⟨j, 0, none⟩) hk]; exact h1, by rw [hw.cell (p := ⟨j, 1, none⟩) hk]; exact h2, by rw [hw.cell (p := ⟨j, 2, none⟩) hk]; exact h3, by rw [hw.cell (p := ⟨j, 3, none⟩) hk]; exact h4, by rw [hw.cell (p := ⟨j, 4, none⟩) hk]; exact h5, by rw [hw.cell (p := ⟨j, 5, none⟩) hk]; exact h6, by rw [hw.cell (p := ⟨j, 6, none⟩) hk]; exact h7, by rw [hw.cell (p := ⟨j, 7, none⟩) hk]; exact h8⟩
theorem Box8.below {j : Nat} {w w' : World} {k fr tuu no lo hi sl : Int} {s : ByteArray} (h : Box8 w j k fr tuu no lo hi sl s) (hw : Below w.heap.size w w') : Box8 w' j k fr tuu no lo hi sl s := h.belowB hw h.1
theorem Box8.new (w : World) (k fr tuu no lo hi sl : Int) (s : ByteArray) (T : TypeId) : Box8 (w.alloc (.cells #[.int .i64 k, .int .i64 fr, .int .i64 tuu, .int .i64 no, .int .i64 lo, .int .i64 hi, .int .i64 sl, .string s] T)) w.heap.size k fr tuu no lo hi sl s := ⟨by simp, by simp, by simp, by simp, by simp, by simp, by simp, by simp, by simp⟩
def emp (s : ByteArray) : Bool := decide (s.toList = [])
def msgB (k fr tuu no lo hi sl : Int) (s : ByteArray) : Bool :=
  if k = 1 then adB fr tuu no && (lo == 0) && (hi == 0) && (sl == 0) && emp s
  else if k = 2 then adB fr tuu no && okI lo hi && (sl == 0) && emp s
  else if k = 3 then nodB fr && decide (0 ≤ sl ∧ sl ≤ 15) && decide (s.size ≤ 24) && (tuu == 0) && (no == 0) && (lo == 0) && (hi == 0)
  else false
end Go.Proofs.YtcakhfobkbgfoaaDoor
namespace Go.Proofs.YtcakhfobkbgfoaaDoor
open Go.RowKit
set_option linter.unusedVariables false
def sel (b : Bool) (x : Int) : Int := match b with | true => x | false => 0
theorem sel_t {b : Bool} (h : b = true) (x : Int) : sel b x = x := by rw [h]; rfl
theorem sel_f {b : Bool} (h : b = false) (x : Int) : sel b x = 0 := by rw [h]; rfl
set_option maxHeartbeats 400000 in
theorem l1Told_any (lo hi : Int) (w : World) :
    Calls Tryd.prog 66 #[.int .i64 lo, .int .i64 hi] w fun e w' => e = .returned (.tuple #[.agg #[.int .i64 (sel (okI lo hi) lo), .int .i64 (sel (okI lo hi) hi)], .bool (okI lo hi)]) ∧ Below w.heap.size w w' := by
  cases h : okI lo hi
  · rw [sel_f rfl, sel_f rfl]
    go_enter Tryd.func66, Tryd.ntmps66
    go_wp2_with (first | (go_at_call 49; refine (specIvalOk_any _ _ _).mono ?_; rintro e w' ⟨rfl, hb⟩; obtain ⟨hc, hf⟩ := bcell hb; have hz := hb.size; (try simp only [World.size_alloc] at hz); (try (have hz0 : w.heap.size < w'.heap.size := by omega)); (try (have hz1 : w.heap.size + 1 < w'.heap.size := by omega)); (try (have hz2 : w.heap.size + 1 + 1 < w'.heap.size := by omega)); (try (have hz3 : w.heap.size + 1 + 1 + 1 < w'.heap.size := by omega))))
    exact bodyPost_ret (v := .tuple #[.agg #[.int .i64 0, .int .i64 0], .bool false]) (by simp (maxDischargeDepth := 6) [results, Tryd.results66, go_sem, *]) rfl ⟨rfl, by repeat (first | exact Below.refl _ _ | refine Below.drew ?_ | refine Below.alloc ?_ (by first | (simp; done) | (simp; omega) | omega) _ | refine Below.setCell ?_ (by first | (simp; done) | (simp; omega) | omega) _ | refine Below.trans ?_ (Below.mono (by assumption) (by first | (simp; done) | (simp; omega) | omega)))⟩
  · rw [sel_t rfl, sel_t rfl]
    go_enter Tryd.func66, Tryd.ntmps66
    go_wp2_with (first | (go_at_call 49; refine (specIvalOk_any _ _ _).mono ?_; rintro e w' ⟨rfl, hb⟩; obtain ⟨hc, hf⟩ := bcell hb; have hz := hb.size; (try simp only [World.size_alloc] at hz); (try (have hz0 : w.heap.size < w'.heap.size := by omega)); (try (have hz1 : w.heap.size + 1 < w'.heap.size := by omega)); (try (have hz2 : w.heap.size + 1 + 1 < w'.heap.size := by omega)); (try (have hz3 : w.heap.size + 1 + 1 + 1 < w'.heap.size := by omega))))
    exact bodyPost_ret (v := .tuple #[.agg #[.int .i64 lo, .int .i64 hi], .bool true]) (by simp (maxDischargeDepth := 6) [results, Tryd.results66, go_sem, *]) rfl ⟨rfl, by repeat (first | exact Below.refl _ _ | refine Below.drew ?_ | refine Below.alloc ?_ (by first | (simp; done) | (simp; omega) | omega) _ | refine Below.setCell ?_ (by first | (simp; done) | (simp; omega) | omega) _ | refine Below.trans ?_ (Below.mono (by assumption) (by first | (simp; done) | (simp; omega) | omega)))⟩
set_option maxHeartbeats 400000 in
theorem told_any (lo hi : Int) (w : World) :
    Calls Tryd.prog 58 #[.agg #[.int .i64 lo, .int .i64 hi]] w fun e w' => e = .returned (.tuple #[.agg #[.int .i64 (sel (okI lo hi) lo), .int .i64 (sel (okI lo hi) hi)], .bool (okI lo hi)]) ∧ Below w.heap.size w w' := by
  cases h : okI lo hi
  · rw [sel_f rfl, sel_f rfl]
    go_enter Tryd.func58, Tryd.ntmps58
    go_wp2_with (first | (go_at_call 91; refine (ok_any _ _ _).mono ?_; rintro e w' ⟨rfl, hb⟩; obtain ⟨hc, hf⟩ := bcell hb; have hz := hb.size; (try simp only [World.size_alloc] at hz); (try (have hz0 : w.heap.size < w'.heap.size := by omega)); (try (have hz1 : w.heap.size + 1 < w'.heap.size := by omega)); (try (have hz2 : w.heap.size + 1 + 1 < w'.heap.size := by omega)); (try (have hz3 : w.heap.size + 1 + 1 + 1 < w'.heap.size := by omega))))
    exact bodyPost_ret (v := .tuple #[.agg #[.int .i64 0, .int .i64 0], .bool false]) (by simp (maxDischargeDepth := 6) [results, Tryd.results58, go_sem, *]) rfl ⟨rfl, by repeat (first | exact Below.refl _ _ | refine Below.drew ?_ | refine Below.alloc ?_ (by first | (simp; done) | (simp; omega) | omega) _ | refine Below.setCell ?_ (by first | (simp; done) | (simp; omega) | omega) _ | refine Below.trans ?_ (Below.mono (by assumption) (by first | (simp; done) | (simp; omega) | omega)))⟩
  · rw [sel_t rfl, sel_t rfl]
    go_enter Tryd.func58, Tryd.ntmps58
    go_wp2_with (first | (go_at_call 91; refine (ok_any _ _ _).mono ?_; rintro e w' ⟨rfl, hb⟩; obtain ⟨hc, hf⟩ := bcell hb; have hz := hb.size; (try simp only [World.size_alloc] at hz); (try (have hz0 : w.heap.size < w'.heap.size := by omega)); (try (have hz1 : w.heap.size + 1 < w'.heap.size := by omega)); (try (have hz2 : w.heap.size + 1 + 1 < w'.heap.size := by omega)); (try (have hz3 : w.heap.size + 1 + 1 + 1 < w'.heap.size := by omega))))
    exact bodyPost_ret (v := .tuple #[.agg #[.int .i64 lo, .int .i64 hi], .bool true]) (by simp (maxDischargeDepth := 6) [results, Tryd.results58, go_sem, *]) rfl ⟨rfl, by repeat (first | exact Below.refl _ _ | refine Below.drew ?_ | refine Below.alloc ?_ (by first | (simp; done) | (simp; omega) | omega) _ | refine Below.setCell ?_ (by first | (simp; done) | (simp; omega) | omega) _ | refine Below.trans ?_ (Below.mono (by assumption) (by first | (simp; done) | (simp; omega) | omega)))⟩
set_option maxHeartbeats 400000 in
theorem eqIval_same (lo hi : Int) (w : World) :
    Calls Tryd.prog 25 #[.agg #[.int .i64 lo, .int .i64 hi], .agg #[.int .i64 lo, .int .i64 hi]] w fun e w' => e = .returned (.bool true) ∧ Below w.heap.size w w' := by
  go_enter Tryd.func25, Tryd.ntmps25
  go_wp2
  go_ret
  exact ⟨rfl, by repeat (first | exact Below.refl _ _ | refine Below.drew ?_ | refine Below.alloc ?_ (by first | (simp; done) | (simp; omega) | omega) _ | refine Below.setCell ?_ (by first | (simp; done) | (simp; omega) | omega) _ | refine Below.trans ?_ (Below.mono (by assumption) (by first | (simp; done) | (simp; omega) | omega)))⟩
def imn (x y : Int) : Int := if y < x then y else x
def imx (x y : Int) : Int := if y < x then x else y
theorem imn_l {x y : Int} (h : y < x) : imn x y = y := by simp [imn, h]
theorem imn_g {x y : Int} (h : ¬ y < x) : imn x y = x := by simp [imn, h]
theorem imx_l {x y : Int} (h : y < x) : imx x y = x := by simp [imx, h]
theorem imx_g {x y : Int} (h : ¬ y < x) : imx x y = y := by simp [imx, h]
theorem imn_comm (x y : Int) : imn x y = imn y x := by unfold imn; split <;> split <;> omega
theorem imx_comm (x y : Int) : imx x y = imx y x := by unfold imx; split <;> split <;> omega
set_option maxHeartbeats 400000 in
theorem ranked_any (x y : Int) (w : World) :
    Calls Tryd.prog 89 #[.int .i64 x, .int .i64 y] w fun e w' => e = .returned (.tuple #[.int .i64 (imn x y), .int .i64 (imx x y)]) ∧ w = w' := by
  by_cases h : y < x
  · rw [imn_l h, imx_l h]
    go_enter Tryd.func89, Tryd.ntmps89
    go_wp2
    go_ret2
    exact ⟨rfl, rfl⟩
  · rw [imn_g h, imx_g h]
    go_enter Tryd.func89, Tryd.ntmps89
    go_wp2
    go_ret2
    exact ⟨rfl, rfl⟩
set_option maxHeartbeats 400000 in
theorem l1Max_any (x y : Int) (w : World) :
    Calls Tryd.prog 76 #[.int .i64 x, .int .i64 y] w fun e w' => e = .returned (.int .i64 (imx x y)) ∧ w = w' := by
  go_enter Tryd.func76, Tryd.ntmps76
  go_wp2
  all_goals go_ret
  all_goals exact ⟨ret_int (by first | rw [imx_l (by omega)] | rw [imx_g (by omega)]), rfl⟩
set_option maxHeartbeats 400000 in
theorem l1Min_any (x y : Int) (w : World) :
    Calls Tryd.prog 40 #[.int .i64 x, .int .i64 y] w fun e w' => e = .returned (.int .i64 (imn x y)) ∧ w = w' := by
  go_enter Tryd.func40, Tryd.ntmps40
  go_wp2
  all_goals go_ret
  all_goals exact ⟨ret_int (by unfold imn; split <;> omega), rfl⟩
def okII (al ah bl bh : Int) : Bool := okI al ah && okI bl bh
theorem okII_t {al ah bl bh : Int} (h : okII al ah bl bh = true) : okI al ah = true ∧ okI bl bh = true := by simpa [okII] using h
set_option maxHeartbeats 400000 in
theorem bothOk_any (al ah bl bh : Int) (w : World) :
    Calls Tryd.prog 120 #[.agg #[.int .i64 al, .int .i64 ah], .agg #[.int .i64 bl, .int .i64 bh]] w fun e w' => e = .returned (.bool (okII al ah bl bh)) ∧ Below w.heap.size w w' := by
  cases h : okI al ah
  · go_enter Tryd.func120, Tryd.ntmps120
    go_wp2_with (first | (go_at_call 91; refine (ok_any _ _ _).mono ?_; rintro e w' ⟨rfl, hb⟩; obtain ⟨hc, hf⟩ := bcell hb; have hz := hb.size; (try simp only [World.size_alloc] at hz); (try (have hz0 : w.heap.size < w'.heap.size := by omega)); (try (have hz1 : w.heap.size + 1 < w'.heap.size := by omega)); (try (have hz2 : w.heap.size + 1 + 1 < w'.heap.size := by omega)); (try (have hz3 : w.heap.size + 1 + 1 + 1 < w'.heap.size := by omega))))
    go_ret
    exact ⟨ret_bool (by simp [okII, h]), by repeat (first | exact Below.refl _ _ | refine Below.drew ?_ | refine Below.alloc ?_ (by first | (simp; done) | (simp; omega) | omega) _ | refine Below.setCell ?_ (by first | (simp; done) | (simp; omega) | omega) _ | refine Below.trans ?_ (Below.mono (by assumption) (by first | (simp; done) | (simp; omega) | omega)))⟩
  · go_enter Tryd.func120, Tryd.ntmps120
    go_wp2_with (first | (go_at_call 91; refine (ok_any _ _ _).mono ?_; rintro e w' ⟨rfl, hb⟩; obtain ⟨hc, hf⟩ := bcell hb; have hz := hb.size; (try simp only [World.size_alloc] at hz); (try (have hz0 : w.heap.size < w'.heap.size := by omega)); (try (have hz1 : w.heap.size + 1 < w'.heap.size := by omega)); (try (have hz2 : w.heap.size + 1 + 1 < w'.heap.size := by omega)); (try (have hz3 : w.heap.size + 1 + 1 + 1 < w'.heap.size := by omega))))
    go_ret
    exact ⟨ret_bool (by simp [okII, h]), by repeat (first | exact Below.refl _ _ | refine Below.drew ?_ | refine Below.alloc ?_ (by first | (simp; done) | (simp; omega) | omega) _ | refine Below.setCell ?_ (by first | (simp; done) | (simp; omega) | omega) _ | refine Below.trans ?_ (Below.mono (by assumption) (by first | (simp; done) | (simp; omega) | omega)))⟩
def shiftB (lo hi b : Int) : Bool := okI lo hi && decide (-2000000000000 ≤ b ∧ b ≤ 2000000000000) && okI (lo + b) (hi + b)
def spreadB (lo hi l g : Int) : Bool := okI lo hi && decide (0 ≤ l ∧ l ≤ 2000000000000 ∧ 0 ≤ g ∧ g ≤ 2000000000000) && okI (lo - l) (hi + g)
def meetB (al ah bl bh : Int) : Bool := okII al ah bl bh && okI (imx al bl) (imn ah bh)
def joinB (al ah bl bh : Int) : Bool := okII al ah bl bh
def plusB (al ah bl bh : Int) : Bool := okII al ah bl bh && okI (al + bl) (ah + bh)
def lessB (al ah bl bh : Int) : Bool := okII al ah bl bh && okI (al - bh) (ah - bl)
theorem join_ok {al ah bl bh : Int} (h : okII al ah bl bh = true) : okI (imn al bl) (imx ah bh) = true := by
  have ⟨h1, h2⟩ := okII_t h
  have ⟨a1, a2, a3⟩ := okI_t h1
  have ⟨b1, b2, b3⟩ := okI_t h2
  have : imn al bl ≤ imx ah bh ∧ -1000000000000 ≤ imn al bl ∧ imx ah bh ≤ 1000000000000 := by unfold imn imx; split <;> split <;> omega
  exact decide_eq_true this
end Go.Proofs.YtcakhfobkbgfoaaDoor
namespace Go.Proofs.YtcakhfobkbgfoaaDoor
open Go.RowKit
set_option linter.unusedVariables false
theorem i64wrap {x : Int} (h1 : -9000000000000000000 ≤ x) (h2 : x ≤ 9000000000000000000) : IntKind.i64.wrap x = x := Go.IntWalk.i64_in _ ⟨by omega, by omega⟩
def apartI (al ah bl bh : Int) : Int := match okII al ah bl bh with | true => imx 0 (imx al bl - imn ah bh) | false => -1
theorem apartI_t {al ah bl bh : Int} (h : okII al ah bl bh = true) : apartI al ah bl bh = imx 0 (imx al bl - imn ah bh) := by rw [apartI, h]
theorem apartI_f {al ah bl bh : Int} (h : okII al ah bl bh = false) : apartI al ah bl bh = -1 := by rw [apartI, h]
theorem imx_bd {x y : Int} (h1 : -1000000000000 ≤ x) (h2 : x ≤ 1000000000000) (h3 : -1000000000000 ≤ y) (h4 : y ≤ 1000000000000) : -1000000000000 ≤ imx x y ∧ imx x y ≤ 1000000000000 := by unfold imx; split <;> omega
theorem imn_bd {x y : Int} (h1 : -1000000000000 ≤ x) (h2 : x ≤ 1000000000000) (h3 : -1000000000000 ≤ y) (h4 : y ≤ 1000000000000) : -1000000000000 ≤ imn x y ∧ imn x y ≤ 1000000000000 := by unfold imn; split <;> omega
theorem tdiv_bd (x n : Int) (h : 0 < n) : -(if x < 0 then -x else x) ≤ x.tdiv n ∧ x.tdiv n ≤ (if x < 0 then -x else x) := by
  have e : (x.tdiv n).natAbs = x.natAbs / n.natAbs := Int.natAbs_tdiv x n
  have l : x.natAbs / n.natAbs ≤ x.natAbs := Nat.div_le_self _ _
  generalize x.natAbs / n.natAbs = q at e l
  generalize x.tdiv n = y at e
  split <;> omega
theorem tdown (x n : Int) (h : 0 < n) (hm : x.tmod n < 0) : x / n = x.tdiv n - 1 := by
  rw [Int.tmod_eq_emod] at hm
  rw [Int.tdiv_eq_ediv]
  have hs : n.sign = 1 := Int.sign_eq_one_of_pos h
  have hr := Int.emod_nonneg x (b := n) (by omega)
  split at hm
  · omega
  · next hc => rw [if_neg hc, hs]; omega
theorem tdown' (x n : Int) (h : 0 < n) (hm : 0 ≤ x.tmod n) : x / n = x.tdiv n := by
  rw [Int.tmod_eq_emod] at hm
  rw [Int.tdiv_eq_ediv]
  have hs : n.sign = 1 := Int.sign_eq_one_of_pos h
  have hr := Int.emod_lt_of_pos x h
  split at hm
  · next hc => rw [if_pos hc]; omega
  · omega
def midI (lo hi : Int) : Int := match okI lo hi with | true => (lo + hi) / 2 | false => 0
theorem midI_t {lo hi : Int} (h : okI lo hi = true) : midI lo hi = (lo + hi) / 2 := by rw [midI, h]
theorem midI_f {lo hi : Int} (h : okI lo hi = false) : midI lo hi = 0 := by rw [midI, h]
set_option maxHeartbeats 400000 in
theorem l1Down_any (x n : Int) (w : World) (h1 : -9000000000000000000 ≤ x) (h2 : x ≤ 9000000000000000000) (hn : 0 < n) (hn2 : n ≤ 9000000000000000000) :
    Calls Tryd.prog 61 #[.int .i64 x, .int .i64 n] w fun e w' => e = .returned (.int .i64 (x / n)) ∧ w = w' := by
  have hne : (n == 0) = false := by rw [beq_eq_false_iff_ne]; omega
  have hq1 : -9000000000000000000 ≤ x.tdiv n := by have := tdiv_bd x n hn; omega
  have hq2 : x.tdiv n ≤ 9000000000000000000 := by have := tdiv_bd x n hn; omega
  go_enter Tryd.func61, Tryd.ntmps61
  go_wp2
  all_goals go_ret
  all_goals exact ⟨ret_int (by first | exact (tdown x n hn ‹_›).symm | exact (tdown' x n hn ‹_›).symm), rfl⟩
end Go.Proofs.YtcakhfobkbgfoaaDoor
namespace Go.Proofs.YtcakhfobkbgfoaaDoor
open Go.RowKit
set_option linter.unusedVariables false
theorem mul_bd {x y X Y : Int} (h1 : 0 ≤ x) (h2 : x ≤ X) (h3 : 0 ≤ y) (h4 : y ≤ Y) : 0 ≤ x * y ∧ x * y ≤ X * Y :=
  ⟨Int.mul_nonneg h1 h3, Int.mul_le_mul h2 h4 h3 (Int.le_trans h1 h2)⟩
def okD (n d : Int) : Bool := decide (1 ≤ d ∧ d ≤ 1000000 ∧ 0 ≤ n ∧ 2 * n ≤ d)
theorem okD_t {n d : Int} (h : okD n d = true) : 1 ≤ d ∧ d ≤ 1000000 ∧ 0 ≤ n ∧ 2 * n ≤ d := of_decide_eq_true h
theorem okD_f {n d : Int} (h : okD n d = false) : ¬ (1 ≤ d ∧ d ≤ 1000000 ∧ 0 ≤ n ∧ 2 * n ≤ d) := of_decide_eq_false h
def okT (t : Int) : Bool := decide (0 ≤ t ∧ t ≤ 1000000000000)
theorem okT_t {t : Int} (h : okT t = true) : 0 ≤ t ∧ t ≤ 1000000000000 := of_decide_eq_true h
theorem okT_f {t : Int} (h : okT t = false) : ¬ (0 ≤ t ∧ t ≤ 1000000000000) := of_decide_eq_false h
set_option maxHeartbeats 400000 in
theorem specDriftOk_any (n d : Int) (w : World) :
    Calls Tryd.prog 50 #[.agg #[.int .i64 n, .int .i64 d]] w fun e w' => e = .returned (.bool (okD n d)) ∧ Below w.heap.size w w' := by
  go_enter Tryd.func50, Tryd.ntmps50
  go_wp2
  all_goals go_ret
  all_goals exact ⟨ret_bool (by rw [Bool.eq_iff_iff]; simp [okD]; try omega), by repeat (first | exact Below.refl _ _ | refine Below.drew ?_ | refine Below.alloc ?_ (by first | (simp; done) | (simp; omega) | omega) _ | refine Below.setCell ?_ (by first | (simp; done) | (simp; omega) | omega) _ | refine Below.trans ?_ (Below.mono (by assumption) (by first | (simp; done) | (simp; omega) | omega)))⟩
set_option maxHeartbeats 400000 in
theorem okd_any (n d : Int) (w : World) :
    Calls Tryd.prog 110 #[.agg #[.int .i64 n, .int .i64 d]] w fun e w' => e = .returned (.bool (okD n d)) ∧ Below w.heap.size w w' := by
  have hd : d.tdiv 2 = if 0 ≤ d then d / 2 else -(-d / 2) := by
    split
    · exact Int.tdiv_eq_ediv_of_nonneg ‹_›
    · have h := Int.neg_tdiv (a := -d) (b := 2)
      have k : (-d).tdiv 2 = -d / 2 := Int.tdiv_eq_ediv_of_nonneg (by omega)
      rw [Int.neg_neg, k] at h
      exact h
  go_enter Tryd.func110, Tryd.ntmps110
  go_wp2
  all_goals go_ret
  all_goals exact ⟨ret_bool (by rw [Bool.eq_iff_iff]; simp [okD]; try (split at hd <;> omega)), by repeat (first | exact Below.refl _ _ | refine Below.drew ?_ | refine Below.alloc ?_ (by first | (simp; done) | (simp; omega) | omega) _ | refine Below.setCell ?_ (by first | (simp; done) | (simp; omega) | omega) _ | refine Below.trans ?_ (Below.mono (by assumption) (by first | (simp; done) | (simp; omega) | omega)))⟩
set_option maxHeartbeats 400000 in
theorem toDrift_any (n d : Int) (w : World) :
    Calls Tryd.prog 23 #[.agg #[.int .i64 n, .int .i64 d]] w fun e w' => e = .returned (.agg #[.int .i64 n, .int .i64 d]) ∧ Below w.heap.size w w' := by
  go_enter Tryd.func23, Tryd.ntmps23
  go_wp2
  exact bodyPost_ret (v := .agg #[.int .i64 n, .int .i64 d]) (by simp [results, Tryd.results23, go_sem]) rfl ⟨rfl, by repeat (first | exact Below.refl _ _ | refine Below.drew ?_ | refine Below.alloc ?_ (by first | (simp; done) | (simp; omega) | omega) _ | refine Below.setCell ?_ (by first | (simp; done) | (simp; omega) | omega) _ | refine Below.trans ?_ (Below.mono (by assumption) (by first | (simp; done) | (simp; omega) | omega)))⟩
set_option maxHeartbeats 400000 in
theorem isTime_any (t : Int) (w : World) :
    Calls Tryd.prog 72 #[.int .i64 t] w fun e w' => e = .returned (.bool (okT t)) ∧ w = w' := by
  go_enter Tryd.func72, Tryd.ntmps72
  go_wp2
  all_goals go_ret
  all_goals exact ⟨ret_bool (by rw [Bool.eq_iff_iff]; simp [okT]; try omega), rfl⟩
set_option maxHeartbeats 400000 in
theorem l2Time_any (t : Int) (w : World) :
    Calls Tryd.prog 59 #[.int .i64 t] w fun e w' => e = .returned (.bool (okT t)) ∧ w = w' := by
  go_enter Tryd.func59, Tryd.ntmps59
  go_wp2
  all_goals go_ret
  all_goals exact ⟨ret_bool (by rw [Bool.eq_iff_iff]; simp [okT]; try omega), rfl⟩
set_option maxHeartbeats 400000 in
theorem slowest_any (n d : Int) (w : World) (h : okD n d = true) :
    Calls Tryd.prog 111 #[.agg #[.int .i64 n, .int .i64 d]] w fun e w' => e = .returned (.int .i64 (d - n)) ∧ Below w.heap.size w w' := by
  have ⟨h1, h2, h3, h4⟩ := okD_t h
  go_enter Tryd.func111, Tryd.ntmps111
  go_wp2
  go_ret
  exact ⟨rfl, by repeat (first | exact Below.refl _ _ | refine Below.drew ?_ | refine Below.alloc ?_ (by first | (simp; done) | (simp; omega) | omega) _ | refine Below.setCell ?_ (by first | (simp; done) | (simp; omega) | omega) _ | refine Below.trans ?_ (Below.mono (by assumption) (by first | (simp; done) | (simp; omega) | omega)))⟩
set_option maxHeartbeats 400000 in
theorem fastest_any (n d : Int) (w : World) (h : okD n d = true) :
    Calls Tryd.prog 98 #[.agg #[.int .i64 n, .int .i64 d]] w fun e w' => e = .returned (.int .i64 (d + n)) ∧ Below w.heap.size w w' := by
  have ⟨h1, h2, h3, h4⟩ := okD_t h
  go_enter Tryd.func98, Tryd.ntmps98
  go_wp2
  go_ret
  exact ⟨rfl, by repeat (first | exact Below.refl _ _ | refine Below.drew ?_ | refine Below.alloc ?_ (by first | (simp; done) | (simp; omega) | omega) _ | refine Below.setCell ?_ (by first | (simp; done) | (simp; omega) | omega) _ | refine Below.trans ?_ (Below.mono (by assumption) (by first | (simp; done) | (simp; omega) | omega)))⟩
set_option maxHeartbeats 400000 in
theorem slowest_wrap (n d : Int) (w : World) :
    Calls Tryd.prog 111 #[.agg #[.int .i64 n, .int .i64 d]] w fun e w' => e = .returned (.int .i64 (wrap64 (d - n))) ∧ Below w.heap.size w w' := by
  go_enter Tryd.func111, Tryd.ntmps111
  go_wp2
  go_ret
  exact ⟨rfl, by repeat (first | exact Below.refl _ _ | refine Below.drew ?_ | refine Below.alloc ?_ (by first | (simp; done) | (simp; omega) | omega) _ | refine Below.setCell ?_ (by first | (simp; done) | (simp; omega) | omega) _ | refine Below.trans ?_ (Below.mono (by assumption) (by first | (simp; done) | (simp; omega) | omega)))⟩
set_option maxHeartbeats 400000 in
theorem fastest_wrap (n d : Int) (w : World) :
    Calls Tryd.prog 98 #[.agg #[.int .i64 n, .int .i64 d]] w fun e w' => e = .returned (.int .i64 (wrap64 (d + n))) ∧ Below w.heap.size w w' := by
  go_enter Tryd.func98, Tryd.ntmps98
  go_wp2
  go_ret
  exact ⟨rfl, by repeat (first | exact Below.refl _ _ | refine Below.drew ?_ | refine Below.alloc ?_ (by first | (simp; done) | (simp; omega) | omega) _ | refine Below.setCell ?_ (by first | (simp; done) | (simp; omega) | omega) _ | refine Below.trans ?_ (Below.mono (by assumption) (by first | (simp; done) | (simp; omega) | omega)))⟩
def dnI (x n : Int) : Int := x / n
def upI (x n : Int) : Int := (x + n - 1) / n
theorem div_bd {x n : Int} (hx : 0 ≤ x) (hn : 0 < n) : 0 ≤ x / n ∧ x / n ≤ x :=
  ⟨Int.ediv_nonneg hx (by omega), Int.ediv_le_self n hx⟩
theorem dnI_bd {x n : Int} (hx : 0 ≤ x) (hn : 0 < n) : 0 ≤ dnI x n ∧ dnI x n ≤ x := div_bd hx hn
theorem upI_neg {x n : Int} (hn : 0 < n) : -(-x / n) = upI x n := by
  have a := Int.emod_add_mul_ediv (-x) n
  have b := Int.emod_nonneg (-x) (b := n) (by omega)
  have c := Int.emod_lt_of_pos (-x) hn
  unfold upI
  generalize -x / n = q at a ⊢
  generalize -x % n = r at a b c
  have e : x + n - 1 = (n - 1 - r) + n * -q := by rw [Int.mul_neg]; omega
  have z : (n - 1 - r) / n = 0 := Int.ediv_eq_zero_of_lt (by omega) (by omega)
  rw [e, Int.add_mul_ediv_left _ _ (by omega), z]
  omega
theorem upI_bd {x n : Int} (hx : 0 ≤ x) (hn : 0 < n) : 0 ≤ upI x n ∧ upI x n ≤ x := by
  have h0 : 0 ≤ upI x n := Int.ediv_nonneg (by omega) (by omega)
  refine ⟨h0, ?_⟩
  rw [← upI_neg hn] at h0 ⊢
  have a := Int.emod_add_mul_ediv (-x) n
  have b := Int.emod_nonneg (-x) (b := n) (by omega)
  have d := Int.emod_lt_of_pos (-x) hn
  generalize -x / n = q at a h0 ⊢
  generalize -x % n = r at a b d
  by_cases hq : q = 0
  · omega
  · have c : (n - 1) * 1 ≤ (n - 1) * -q := Int.mul_le_mul_of_nonneg_left (by omega) (by omega)
    rw [Int.sub_mul n 1 (-q), Int.mul_neg, Int.one_mul] at c
    omega
set_option maxHeartbeats 400000 in
theorem implDown_any (x n : Int) (w : World) (h1 : 0 ≤ x) (h2 : x ≤ 4000000000000000000) (hn : 0 < n) (hn2 : n ≤ 4000000000000000000) :
    Calls Tryd.prog 112 #[.int .i64 x, .int .i64 n] w fun e w' => e = .returned (.int .i64 (dnI x n)) ∧ w = w' := by
  have hne : (n == 0) = false := by rw [beq_eq_false_iff_ne]; omega
  have hq : x.tdiv n = dnI x n := Int.tdiv_eq_ediv_of_nonneg h1
  have ⟨b1, b2⟩ := dnI_bd h1 hn
  go_enter Tryd.func112, Tryd.ntmps112
  go_wp2
  all_goals go_ret
  all_goals exact ⟨ret_int (by first | exact hq | exact rfl | (rw [hq]; exact i64wrap (by omega) (by omega))), rfl⟩
set_option maxHeartbeats 400000 in
theorem implUp_any (x n : Int) (w : World) (h1 : 0 ≤ x) (h2 : x ≤ 4000000000000000000) (hn : 0 < n) (hn2 : n ≤ 4000000000000000000) :
    Calls Tryd.prog 99 #[.int .i64 x, .int .i64 n] w fun e w' => e = .returned (.int .i64 (upI x n)) ∧ w = w' := by
  have hne : (n == 0) = false := by rw [beq_eq_false_iff_ne]; omega
  have hq : (x + n - 1).tdiv n = upI x n := Int.tdiv_eq_ediv_of_nonneg (by omega)
  have ⟨b1, b2⟩ := upI_bd h1 hn
  go_enter Tryd.func99, Tryd.ntmps99
  go_wp2
  all_goals go_ret
  all_goals exact ⟨ret_int (by first | exact hq | exact rfl | (rw [hq]; exact i64wrap (by omega) (by omega))), rfl⟩
set_option maxHeartbeats 400000 in
theorem l1Up_any (x n : Int) (w : World) (h1 : 0 ≤ x) (h2 : x ≤ 4000000000000000000) (hn : 0 < n) (hn2 : n ≤ 4000000000000000000) :
    Calls Tryd.prog 62 #[.int .i64 x, .int .i64 n] w fun e w' => e = .returned (.int .i64 (upI x n)) ∧ w = w' := by
  have hq : -(-x / n) = upI x n := upI_neg hn
  have ⟨b1, b2⟩ := upI_bd h1 hn
  go_enter Tryd.func62, Tryd.ntmps62
  go_wp2_with (first | (go_at_call 61; refine (l1Down_any _ _ _ (by omega) (by omega) (by omega) (by omega)).mono ?_; rintro e w' ⟨rfl, rfl⟩))
  all_goals go_ret
  all_goals exact ⟨ret_int (by first | exact hq | exact rfl | (rw [hq]; exact i64wrap (by omega) (by omega))), rfl⟩
set_option maxHeartbeats 400000 in
theorem l2Told_any (x : Int) (w : World) (h : 0 ≤ x) :
    Calls Tryd.prog 60 #[.int .i64 x] w fun e w' => e = .returned (.tuple #[.int .i64 (sel (okT x) x), .bool (okT x)]) ∧ w = w' := by
  cases ht : okT x
  · have := okT_f ht
    rw [sel_f rfl]
    go_enter Tryd.func60, Tryd.ntmps60
    go_wp2
    all_goals go_ret2
    all_goals first | exact ⟨rfl, rfl⟩ | omega
  · have := okT_t ht
    rw [sel_t rfl]
    go_enter Tryd.func60, Tryd.ntmps60
    go_wp2
    all_goals go_ret2
    all_goals first | exact ⟨rfl, rfl⟩ | omega
end Go.Proofs.YtcakhfobkbgfoaaDoor
namespace Go.Proofs.YtcakhfobkbgfoaaDoor
open Go.RowKit
set_option linter.unusedVariables false
abbrev SlT : Type := Int × Int
def zSl : SlT := (0, 0)
/- Plans: when one is right; how long its first slots are; where an occurrence lies; the first of numbers. -/
def lnB (l : Int) : Bool := decide (1 ≤ l ∧ l ≤ 1000000)
def slB (o l : Int) : Bool := nodB o && lnB l
def slA (M : Nat → SlT) : Nat → Bool
  | 0 => true
  | j + 1 => slA M j && slB (M j).1 (M j).2
def gpB (g : Int) : Bool := decide (0 ≤ g ∧ g ≤ 100000)
def cnB (n : Nat) : Bool := decide (1 ≤ (n : Int) ∧ (n : Int) ≤ 12)
def plB (s g : Int) (M : Nat → SlT) (n : Nat) : Bool := okT s && (gpB g && (cnB n && slA M n))
theorem slA_no {M : Nat → SlT} {k n : Nat} (h : slA M (k + 1) = false) (hk : k < n) : slA M n = false := by
  induction n with
  | zero => omega
  | succ n ih =>
    by_cases e : k = n
    · subst e; exact h
    · rw [slA, ih (by omega)]; rfl
theorem slA_at {M : Nat → SlT} {k n : Nat} (h : slA M n = true) (hk : k < n) : slB (M k).1 (M k).2 = true := by
  cases e : slB (M k).1 (M k).2
  · rw [slA_no (k := k) (by rw [slA, e]; simp) hk] at h
    exact absurd h (by decide)
  · rfl
theorem slB_t {o l : Int} (h : slB o l = true) : (0 ≤ o ∧ o ≤ 7) ∧ 1 ≤ l ∧ l ≤ 1000000 := by
  unfold slB nodB lnB at h
  simp at h
  omega
theorem plB_t {s g : Int} {M : Nat → SlT} {n : Nat} (h : plB s g M n = true) : (0 ≤ s ∧ s ≤ 1000000000000) ∧ (0 ≤ g ∧ g ≤ 100000) ∧ (1 ≤ n ∧ n ≤ 12) ∧ slA M n = true := by
  unfold plB okT gpB cnB at h
  simp at h
  obtain ⟨h1, h2, h3, h4⟩ := h
  exact ⟨h1, h2, by omega, h4⟩
/- How long the first k slots with their gaps are. -/
def upS (g : Int) (M : Nat → SlT) : Nat → Int
  | 0 => 0
  | k + 1 => upS g M k + (M k).2 + g
theorem upS_bd {g : Int} {M : Nat → SlT} {n : Nat} (hg : 0 ≤ g ∧ g ≤ 100000) (hA : slA M n = true) : ∀ k, k ≤ n → (k : Int) ≤ upS g M k ∧ upS g M k ≤ (k : Int) * 1100000
  | 0, _ => by rw [upS]; simp
  | k + 1, hk => by
    have ih := upS_bd hg hA k (by omega)
    have hl := (slB_t (slA_at hA (show k < n by omega))).2
    rw [upS]
    omega
theorem upS_add {g : Int} {M : Nat → SlT} {n : Nat} (hg : 0 ≤ g ∧ g ≤ 100000) (hA : slA M n = true) {i j : Nat} (hij : i < j) (hj : j ≤ n) : upS g M i + (M i).2 + g ≤ upS g M j := by
  induction j with
  | zero => omega
  | succ j ih =>
    rw [upS]
    have hl := (slB_t (slA_at hA (show j < n by omega))).2
    by_cases e : i = j
    · subst e; omega
    · have := ih (by omega) (by omega)
      omega
theorem upS_mono {g : Int} {M : Nat → SlT} {n : Nat} (hg : 0 ≤ g ∧ g ≤ 100000) (hA : slA M n = true) {i j : Nat} (hij : i ≤ j) (hj : j ≤ n) : upS g M i ≤ upS g M j := by
  by_cases e : i = j
  · subst e; exact Int.le_refl _
  · have := upS_add hg hA (show i < j by omega) hj
    have hl := (slB_t (slA_at hA (show i < n by omega))).2
    omega
/- RoundOf, SlotFrom. -/
def rnI (s g : Int) (M : Nat → SlT) (n : Nat) : Int := match plB s g M n with | true => upS g M n | false => 0
theorem rnI_t {s g : Int} {M : Nat → SlT} {n : Nat} (h : plB s g M n = true) : rnI s g M n = upS g M n := by unfold rnI; rw [h]
theorem rnI_f {s g : Int} {M : Nat → SlT} {n : Nat} (h : plB s g M n = false) : rnI s g M n = 0 := by unfold rnI; rw [h]
theorem rn_bd {s g : Int} {M : Nat → SlT} {n : Nat} (h : plB s g M n = true) : 1 ≤ upS g M n ∧ upS g M n ≤ 13200000 := by
  obtain ⟨h1, h2, h3, h4⟩ := plB_t h
  have := upS_bd h2 h4 n (Nat.le_refl _)
  omega
def ixB (n : Nat) (i : Int) : Bool := decide (0 ≤ i ∧ i ≤ (n : Int) - 1)
def sfB (s g : Int) (M : Nat → SlT) (n : Nat) (i : Int) : Bool := plB s g M n && ixB n i
def sfI (s g : Int) (M : Nat → SlT) (n : Nat) (i : Int) : Int := match sfB s g M n i with | true => upS g M i.toNat | false => 0
theorem sfB_t {s g : Int} {M : Nat → SlT} {n : Nat} {i : Int} (h : sfB s g M n i = true) : plB s g M n = true ∧ 0 ≤ i ∧ i.toNat < n ∧ (i.toNat : Int) = i := by
  unfold sfB ixB at h
  simp only [Bool.and_eq_true, decide_eq_true_eq] at h
  exact ⟨h.1, h.2.1, by omega, by omega⟩
/- Occurrence. -/
def ocF (s g : Int) (M : Nat → SlT) (n : Nat) (i k : Int) : Int := s + k * upS g M n + upS g M i.toNat
def okK (r k : Int) : Bool := decide (0 ≤ k ∧ k ≤ 1000000000000) && !decide (1000000000000 / r < k)
def ocG (s g : Int) (M : Nat → SlT) (n : Nat) (i k : Int) : Bool := sfB s g M n i && okK (upS g M n) k
def ocB (s g : Int) (M : Nat → SlT) (n : Nat) (i k : Int) : Bool := ocG s g M n i k && okI (ocF s g M n i k) (ocF s g M n i k + (M i.toNat).2)
def ocL (s g : Int) (M : Nat → SlT) (n : Nat) (i k : Int) : Int := match ocB s g M n i k with | true => ocF s g M n i k | false => 0
def ocH (s g : Int) (M : Nat → SlT) (n : Nat) (i k : Int) : Int := match ocB s g M n i k with | true => ocF s g M n i k + (M i.toNat).2 | false => 0
theorem oc_no {s g : Int} {M : Nat → SlT} {n : Nat} {i k : Int} (h : ocB s g M n i k = false) : ocL s g M n i k = 0 ∧ ocH s g M n i k = 0 := by
  unfold ocL ocH
  rw [h]
  exact ⟨rfl, rfl⟩
theorem oc_yes {s g : Int} {M : Nat → SlT} {n : Nat} {i k : Int} (h : ocB s g M n i k = true) : ocL s g M n i k = ocF s g M n i k ∧ ocH s g M n i k = ocF s g M n i k + (M i.toNat).2 := by
  unfold ocL ocH
  rw [h]
  exact ⟨rfl, rfl⟩
theorem oc_sel {s g : Int} {M : Nat → SlT} {n : Nat} {i k : Int} (h : ocG s g M n i k = true) : ocB s g M n i k = okI (ocF s g M n i k) (ocF s g M n i k + (M i.toNat).2) ∧ ocL s g M n i k = sel (okI (ocF s g M n i k) (ocF s g M n i k + (M i.toNat).2)) (ocF s g M n i k) ∧ ocH s g M n i k = sel (okI (ocF s g M n i k) (ocF s g M n i k + (M i.toNat).2)) (ocF s g M n i k + (M i.toNat).2) := by
  have e : ocB s g M n i k = okI (ocF s g M n i k) (ocF s g M n i k + (M i.toNat).2) := by unfold ocB; rw [h]; rfl
  refine ⟨e, ?_, ?_⟩
  · unfold ocL; rw [e]; cases okI (ocF s g M n i k) (ocF s g M n i k + (M i.toNat).2) <;> rfl
  · unfold ocH; rw [e]; cases okI (ocF s g M n i k) (ocF s g M n i k + (M i.toNat).2) <;> rfl
theorem okK_t {r k : Int} (hr : 1 ≤ r) (h : okK r k = true) : 0 ≤ k ∧ k ≤ 1000000000000 ∧ 0 ≤ k * r ∧ k * r ≤ 1000000000000 := by
  unfold okK at h
  simp at h
  obtain ⟨⟨h1, h2⟩, h3⟩ := h
  have h4 : k * r ≤ 1000000000000 := Int.le_trans (Int.mul_le_mul_of_nonneg_right h3 (by omega)) (Int.ediv_mul_le _ (by omega))
  exact ⟨h1, h2, Int.mul_nonneg h1 (by omega), h4⟩
theorem ocG_bd {s g : Int} {M : Nat → SlT} {n : Nat} {i k : Int} (h : ocG s g M n i k = true) : (0 ≤ k * upS g M n ∧ k * upS g M n ≤ 1000000000000) ∧ (0 ≤ s + k * upS g M n ∧ s + k * upS g M n ≤ 2000000000000) ∧ (0 ≤ ocF s g M n i k ∧ ocF s g M n i k ≤ 2000013200000) ∧ (1 ≤ (M i.toNat).2 ∧ (M i.toNat).2 ≤ 1000000) ∧ i.toNat < n ∧ (i.toNat : Int) = i ∧ plB s g M n = true := by
  unfold ocG at h
  rw [Bool.and_eq_true] at h
  obtain ⟨h1, h2, h3, h4⟩ := sfB_t h.1
  obtain ⟨p1, p2, p3, p4⟩ := plB_t h1
  have hr := rn_bd h1
  obtain ⟨k1, k2, k3, k4⟩ := okK_t hr.1 h.2
  have hu := upS_bd p2 p4 i.toNat (by omega)
  have hl := (slB_t (slA_at p4 h3)).2
  unfold ocF
  generalize k * upS g M n = kr at *
  refine ⟨⟨k3, k4⟩, by omega, by omega, hl, h3, h4, h1⟩
/- The first of n numbers that is so; n where none is. -/
def fnd (P : Nat → Bool) : Nat → Nat
  | 0 => 0
  | j + 1 => match decide (fnd P j < j), P j with
    | true, _ => fnd P j
    | false, true => j
    | false, false => j + 1
theorem fnd_old {P : Nat → Bool} {j : Nat} (h : fnd P j < j) : fnd P (j + 1) = fnd P j := by rw [fnd, decide_eq_true h]
theorem fnd_hit {P : Nat → Bool} {j : Nat} (h : fnd P j = j) (hp : P j = true) : fnd P (j + 1) = j := by rw [fnd, decide_eq_false (by omega), hp]
theorem fnd_miss {P : Nat → Bool} {j : Nat} (h : fnd P j = j) (hp : P j = false) : fnd P (j + 1) = j + 1 := by rw [fnd, decide_eq_false (by omega), hp]
theorem fnd_le (P : Nat → Bool) : ∀ j, fnd P j ≤ j
  | 0 => Nat.le_refl _
  | j + 1 => by
    have ih := fnd_le P j
    by_cases h : fnd P j < j
    · rw [fnd_old h]; omega
    · have e : fnd P j = j := by omega
      cases hp : P j
      · rw [fnd_miss e hp]; exact Nat.le_refl _
      · rw [fnd_hit e hp]; omega
theorem fnd_stay {P : Nat → Bool} {j n : Nat} (h : fnd P j < j) (hn : j ≤ n) : fnd P n = fnd P j := by
  induction n with
  | zero => have e : j = 0 := by omega
            subst e; rfl
  | succ n ih =>
    by_cases e : j = n + 1
    · subst e; rfl
    · have i := ih (by omega)
      rw [fnd_old (by rw [i]; omega), i]
theorem fnd_is {P : Nat → Bool} {j n : Nat} (h : fnd P j = j) (hp : P j = true) (hn : j < n) : fnd P n = j := by
  have e := fnd_hit h hp
  rw [fnd_stay (j := j + 1) (by omega) (by omega), e]
theorem fnd_so {P : Nat → Bool} {n : Nat} (h : fnd P n < n) : P (fnd P n) = true := by
  induction n with
  | zero => omega
  | succ n ih =>
    by_cases e : fnd P n < n
    · rw [fnd_old e]; exact ih e
    · have e2 : fnd P n = n := by have := fnd_le P n; omega
      cases hp : P n
      · rw [fnd_miss e2 hp] at h; omega
      · rw [fnd_hit e2 hp]; exact hp
theorem fnd_not {P : Nat → Bool} {n i : Nat} (h : i < fnd P n) : P i = false := by
  induction n with
  | zero => rw [fnd] at h; omega
  | succ n ih =>
    by_cases e : fnd P n < n
    · rw [fnd_old e] at h; exact ih h
    · have e2 : fnd P n = n := by have := fnd_le P n; omega
      cases hp : P n
      · rw [fnd_miss e2 hp] at h
        by_cases ei : i = n
        · subst ei; exact hp
        · exact ih (by omega)
      · rw [fnd_hit e2 hp] at h; exact ih (by omega)
/- SlotAt, InSlot. -/
def saG (s g : Int) (M : Nat → SlT) (n : Nat) (t : Int) : Bool := plB s g M n && (okT t && !decide (t < s))
def saR (s g : Int) (M : Nat → SlT) (n : Nat) (t : Int) : Int := (t - s) / upS g M n
def saP (s g : Int) (M : Nat → SlT) (n : Nat) (t : Int) (i : Nat) : Bool := ocB s g M n i (saR s g M n t) && (decide (ocL s g M n i (saR s g M n t) ≤ t) && decide (t < ocH s g M n i (saR s g M n t)))
def saB (s g : Int) (M : Nat → SlT) (n : Nat) (t : Int) : Bool := saG s g M n t && decide (fnd (saP s g M n t) n < n)
def saI (s g : Int) (M : Nat → SlT) (n : Nat) (t : Int) : Int := match saB s g M n t with | true => (fnd (saP s g M n t) n : Int) | false => 0
def saK (s g : Int) (M : Nat → SlT) (n : Nat) (t : Int) : Int := match saB s g M n t with | true => saR s g M n t | false => 0
theorem sa_no {s g : Int} {M : Nat → SlT} {n : Nat} {t : Int} (h : saB s g M n t = false) : saI s g M n t = 0 ∧ saK s g M n t = 0 := by
  unfold saI saK
  rw [h]
  exact ⟨rfl, rfl⟩
theorem sa_yes {s g : Int} {M : Nat → SlT} {n : Nat} {t : Int} (h : saB s g M n t = true) : saI s g M n t = (fnd (saP s g M n t) n : Int) ∧ saK s g M n t = saR s g M n t ∧ fnd (saP s g M n t) n < n ∧ saG s g M n t = true := by
  have h' := h
  unfold saB at h'
  simp only [Bool.and_eq_true, decide_eq_true_eq] at h'
  unfold saI saK
  rw [h]
  exact ⟨rfl, rfl, h'.2, h'.1⟩
theorem saG_t {s g : Int} {M : Nat → SlT} {n : Nat} {t : Int} (h : saG s g M n t = true) : plB s g M n = true ∧ (0 ≤ t ∧ t ≤ 1000000000000) ∧ s ≤ t ∧ 0 ≤ saR s g M n t ∧ saR s g M n t ≤ 1000000000000 := by
  unfold saG okT at h
  simp at h
  obtain ⟨h1, h2, h3⟩ := h
  obtain ⟨p1, p2, p3, p4⟩ := plB_t h1
  have hr := rn_bd h1
  refine ⟨h1, h2, h3, Int.ediv_nonneg (by omega) (by omega), ?_⟩
  unfold saR
  exact Int.le_trans (Int.ediv_le_self _ (by omega)) (by omega)
def isB (s g : Int) (M : Nat → SlT) (n : Nat) (o f t : Int) : Bool := saB s g M n f && (((M (saI s g M n f).toNat).1 == o) && (!decide (t < f) && !decide (ocH s g M n (saI s g M n f) (saK s g M n f) < t)))
def isI (s g : Int) (M : Nat → SlT) (n : Nat) (o f t : Int) : Int := match isB s g M n o f t with | true => saI s g M n f | false => 0
def isK (s g : Int) (M : Nat → SlT) (n : Nat) (o f t : Int) : Int := match isB s g M n o f t with | true => saK s g M n f | false => 0
/- NextOwn. -/
def noG (s g : Int) (M : Nat → SlT) (n : Nat) (t : Int) : Bool := plB s g M n && okT t
def noR (s g : Int) (M : Nat → SlT) (n : Nat) (t : Int) : Int := imx 0 ((t - s).tdiv (upS g M n))
def noP (s g : Int) (M : Nat → SlT) (n : Nat) (o t j : Int) (i : Nat) : Bool := ocB s g M n i j && (((M i).1 == o) && decide (t ≤ ocL s g M n i j))
def noF (s g : Int) (M : Nat → SlT) (n : Nat) (o t j : Int) : Nat := fnd (noP s g M n o t j) n
def noB (s g : Int) (M : Nat → SlT) (n : Nat) (o t : Int) : Bool := noG s g M n t && (decide (noF s g M n o t (noR s g M n t) < n) || decide (noF s g M n o t (noR s g M n t + 1) < n))
def noI (s g : Int) (M : Nat → SlT) (n : Nat) (o t : Int) : Int := match noB s g M n o t, decide (noF s g M n o t (noR s g M n t) < n) with | false, _ => 0 | true, true => (noF s g M n o t (noR s g M n t) : Int) | true, false => (noF s g M n o t (noR s g M n t + 1) : Int)
def noT (s g : Int) (M : Nat → SlT) (n : Nat) (o t : Int) : Int := match noB s g M n o t, decide (noF s g M n o t (noR s g M n t) < n) with | false, _ => 0 | true, true => ocL s g M n (noF s g M n o t (noR s g M n t)) (noR s g M n t) | true, false => ocL s g M n (noF s g M n o t (noR s g M n t + 1)) (noR s g M n t + 1)
/- OwnersOf, ShareOf. -/
def hasO (M : Nat → SlT) (o : Int) : Nat → Bool
  | 0 => false
  | j + 1 => hasO M o j || ((M j).1 == o)
def owL (M : Nat → SlT) (n : Nat) : Nat → List Int
  | 0 => []
  | j + 1 => match hasO M (j : Int) n with | true => owL M n j ++ [(j : Int)] | false => owL M n j
def owA (s g : Int) (M : Nat → SlT) (n : Nat) : List Int := match plB s g M n with | true => owL M n 8 | false => []
theorem owL_len (M : Nat → SlT) (n : Nat) : ∀ j, (owL M n j).length ≤ j
  | 0 => Nat.le_refl _
  | j + 1 => by
    have ih := owL_len M n j
    rw [owL]
    cases hasO M (j : Int) n
    · exact Nat.le_succ_of_le ih
    · show (owL M n j ++ [(j : Int)]).length ≤ j + 1
      rw [List.length_append]
      simp
      exact ih
theorem owA_len (s g : Int) (M : Nat → SlT) (n : Nat) : (owA s g M n).length ≤ 8 := by
  unfold owA
  cases plB s g M n
  · exact Nat.zero_le _
  · exact owL_len M n 8
def smS (M : Nat → SlT) (o : Int) : Nat → Int
  | 0 => 0
  | j + 1 => match ((M j).1 == o) with | true => smS M o j + (M j).2 | false => smS M o j
theorem smS_bd {M : Nat → SlT} {n : Nat} {o : Int} (hA : slA M n = true) : ∀ k, k ≤ n → 0 ≤ smS M o k ∧ smS M o k ≤ (k : Int) * 1000000
  | 0, _ => by rw [smS]; simp
  | k + 1, hk => by
    have ih := smS_bd (o := o) hA k (by omega)
    have hl := (slB_t (slA_at hA (show k < n by omega))).2
    rw [smS]
    cases ((M k).1 == o)
    · show 0 ≤ smS M o k ∧ smS M o k ≤ _; omega
    · show 0 ≤ smS M o k + (M k).2 ∧ smS M o k + (M k).2 ≤ _; omega
/- PlanMoved. -/
def inT13 (l : Int) : Bool := decide (-1000000000000 ≤ l ∧ l ≤ 1000000000000)
def pmB (s g : Int) (M : Nat → SlT) (n : Nat) (b : Int) : Bool := plB s g M n && (inT13 b && okT (s + b))
theorem plB_mv {s g : Int} {M : Nat → SlT} {n : Nat} {b : Int} (h : plB s g M n = true) : plB (s + b) g M n = okT (s + b) := by
  unfold plB at h ⊢
  simp only [Bool.and_eq_true] at h
  obtain ⟨h1, h2, h3, h4⟩ := h
  rw [h2, h3, h4]
  simp
end Go.Proofs.YtcakhfobkbgfoaaDoor
namespace Go.Proofs.YtcakhfobkbgfoaaDoor
open Go.RowKit
set_option linter.unusedVariables false
set_option maxHeartbeats 400000 in
theorem specSpread_any (lo hi l g : Int) (w : World) :
    Calls Tryd.prog 63 #[.agg #[.int .i64 lo, .int .i64 hi], .int .i64 l, .int .i64 g] w fun e w' => e = .returned (.tuple #[.agg #[.int .i64 (sel (spreadB lo hi l g) (lo - l)), .int .i64 (sel (spreadB lo hi l g) (hi + g))], .bool (spreadB lo hi l g)]) ∧ Below w.heap.size w w' := by
  cases h : okI lo hi
  · have e : spreadB lo hi l g = false := by simp [spreadB, h]
    rw [e, sel_f rfl, sel_f rfl]; clear e
    go_enter Tryd.func63, Tryd.ntmps63
    go_wp2_with (first | (go_at_call 49; refine (specIvalOk_any _ _ _).mono ?_; rintro e w' ⟨rfl, hb⟩; obtain ⟨hc, hf⟩ := bcell hb; have hz := hb.size; (try simp only [World.size_alloc] at hz); (try (have hz0 : w.heap.size < w'.heap.size := by omega)); (try (have hz1 : w.heap.size + 1 < w'.heap.size := by omega)); (try (have hz2 : w.heap.size + 1 + 1 < w'.heap.size := by omega)); (try (have hz3 : w.heap.size + 1 + 1 + 1 < w'.heap.size := by omega))) | (go_at_call 66; refine (l1Told_any _ _ _).mono ?_; rintro e w' ⟨rfl, hb⟩; obtain ⟨hc, hf⟩ := bcell hb; have hz := hb.size; (try simp only [World.size_alloc] at hz); (try (have hz0 : w.heap.size < w'.heap.size := by omega)); (try (have hz1 : w.heap.size + 1 < w'.heap.size := by omega)); (try (have hz2 : w.heap.size + 1 + 1 < w'.heap.size := by omega)); (try (have hz3 : w.heap.size + 1 + 1 + 1 < w'.heap.size := by omega))) | go_in)
    exact bodyPost_ret (v := .tuple #[.agg #[.int .i64 0, .int .i64 0], .bool false]) (by simp (maxDischargeDepth := 6) [results, Tryd.results63, go_sem, *]) rfl ⟨rfl, by repeat (first | exact Below.refl _ _ | refine Below.drew ?_ | refine Below.alloc ?_ (by first | (simp; done) | (simp; omega) | omega) _ | refine Below.setCell ?_ (by first | (simp; done) | (simp; omega) | omega) _ | refine Below.trans ?_ (Below.mono (by assumption) (by first | (simp; done) | (simp; omega) | omega)))⟩
  · by_cases hb0 : l < 0
    · have e : spreadB lo hi l g = false := by simp [spreadB, h]; omega
      rw [e, sel_f rfl, sel_f rfl]; clear e
      go_enter Tryd.func63, Tryd.ntmps63
      go_wp2_with (first | (go_at_call 49; refine (specIvalOk_any _ _ _).mono ?_; rintro e w' ⟨rfl, hb⟩; obtain ⟨hc, hf⟩ := bcell hb; have hz := hb.size; (try simp only [World.size_alloc] at hz); (try (have hz0 : w.heap.size < w'.heap.size := by omega)); (try (have hz1 : w.heap.size + 1 < w'.heap.size := by omega)); (try (have hz2 : w.heap.size + 1 + 1 < w'.heap.size := by omega)); (try (have hz3 : w.heap.size + 1 + 1 + 1 < w'.heap.size := by omega))) | (go_at_call 66; refine (l1Told_any _ _ _).mono ?_; rintro e w' ⟨rfl, hb⟩; obtain ⟨hc, hf⟩ := bcell hb; have hz := hb.size; (try simp only [World.size_alloc] at hz); (try (have hz0 : w.heap.size < w'.heap.size := by omega)); (try (have hz1 : w.heap.size + 1 < w'.heap.size := by omega)); (try (have hz2 : w.heap.size + 1 + 1 < w'.heap.size := by omega)); (try (have hz3 : w.heap.size + 1 + 1 + 1 < w'.heap.size := by omega))) | go_in)
      exact bodyPost_ret (v := .tuple #[.agg #[.int .i64 0, .int .i64 0], .bool false]) (by simp (maxDischargeDepth := 6) [results, Tryd.results63, go_sem, *]) rfl ⟨rfl, by repeat (first | exact Below.refl _ _ | refine Below.drew ?_ | refine Below.alloc ?_ (by first | (simp; done) | (simp; omega) | omega) _ | refine Below.setCell ?_ (by first | (simp; done) | (simp; omega) | omega) _ | refine Below.trans ?_ (Below.mono (by assumption) (by first | (simp; done) | (simp; omega) | omega)))⟩
    by_cases hb1 : 2000000000000 < l
    · have e : spreadB lo hi l g = false := by simp [spreadB, h]; omega
      have hd : decide (l ≤ 2000000000000) = false := by simp; omega
      rw [e, sel_f rfl, sel_f rfl]; clear e
      go_enter Tryd.func63, Tryd.ntmps63
      go_wp2_with (first | (go_at_call 49; refine (specIvalOk_any _ _ _).mono ?_; rintro e w' ⟨rfl, hb⟩; obtain ⟨hc, hf⟩ := bcell hb; have hz := hb.size; (try simp only [World.size_alloc] at hz); (try (have hz0 : w.heap.size < w'.heap.size := by omega)); (try (have hz1 : w.heap.size + 1 < w'.heap.size := by omega)); (try (have hz2 : w.heap.size + 1 + 1 < w'.heap.size := by omega)); (try (have hz3 : w.heap.size + 1 + 1 + 1 < w'.heap.size := by omega))) | (go_at_call 66; refine (l1Told_any _ _ _).mono ?_; rintro e w' ⟨rfl, hb⟩; obtain ⟨hc, hf⟩ := bcell hb; have hz := hb.size; (try simp only [World.size_alloc] at hz); (try (have hz0 : w.heap.size < w'.heap.size := by omega)); (try (have hz1 : w.heap.size + 1 < w'.heap.size := by omega)); (try (have hz2 : w.heap.size + 1 + 1 < w'.heap.size := by omega)); (try (have hz3 : w.heap.size + 1 + 1 + 1 < w'.heap.size := by omega))) | go_in)
      exact bodyPost_ret (v := .tuple #[.agg #[.int .i64 0, .int .i64 0], .bool false]) (by simp (maxDischargeDepth := 6) [results, Tryd.results63, go_sem, *]) rfl ⟨rfl, by repeat (first | exact Below.refl _ _ | refine Below.drew ?_ | refine Below.alloc ?_ (by first | (simp; done) | (simp; omega) | omega) _ | refine Below.setCell ?_ (by first | (simp; done) | (simp; omega) | omega) _ | refine Below.trans ?_ (Below.mono (by assumption) (by first | (simp; done) | (simp; omega) | omega)))⟩
    by_cases hb2 : g < 0
    · have e : spreadB lo hi l g = false := by simp [spreadB, h]; omega
      rw [e, sel_f rfl, sel_f rfl]; clear e
      go_enter Tryd.func63, Tryd.ntmps63
      go_wp2_with (first | (go_at_call 49; refine (specIvalOk_any _ _ _).mono ?_; rintro e w' ⟨rfl, hb⟩; obtain ⟨hc, hf⟩ := bcell hb; have hz := hb.size; (try simp only [World.size_alloc] at hz); (try (have hz0 : w.heap.size < w'.heap.size := by omega)); (try (have hz1 : w.heap.size + 1 < w'.heap.size := by omega)); (try (have hz2 : w.heap.size + 1 + 1 < w'.heap.size := by omega)); (try (have hz3 : w.heap.size + 1 + 1 + 1 < w'.heap.size := by omega))) | (go_at_call 66; refine (l1Told_any _ _ _).mono ?_; rintro e w' ⟨rfl, hb⟩; obtain ⟨hc, hf⟩ := bcell hb; have hz := hb.size; (try simp only [World.size_alloc] at hz); (try (have hz0 : w.heap.size < w'.heap.size := by omega)); (try (have hz1 : w.heap.size + 1 < w'.heap.size := by omega)); (try (have hz2 : w.heap.size + 1 + 1 < w'.heap.size := by omega)); (try (have hz3 : w.heap.size + 1 + 1 + 1 < w'.heap.size := by omega))) | go_in)
      exact bodyPost_ret (v := .tuple #[.agg #[.int .i64 0, .int .i64 0], .bool false]) (by simp (maxDischargeDepth := 6) [results, Tryd.results63, go_sem, *]) rfl ⟨rfl, by repeat (first | exact Below.refl _ _ | refine Below.drew ?_ | refine Below.alloc ?_ (by first | (simp; done) | (simp; omega) | omega) _ | refine Below.setCell ?_ (by first | (simp; done) | (simp; omega) | omega) _ | refine Below.trans ?_ (Below.mono (by assumption) (by first | (simp; done) | (simp; omega) | omega)))⟩
    by_cases hb3 : 2000000000000 < g
    · have e : spreadB lo hi l g = false := by simp [spreadB, h]; omega
      have hd : decide (g ≤ 2000000000000) = false := by simp; omega
      rw [e, sel_f rfl, sel_f rfl]; clear e
      go_enter Tryd.func63, Tryd.ntmps63
      go_wp2_with (first | (go_at_call 49; refine (specIvalOk_any _ _ _).mono ?_; rintro e w' ⟨rfl, hb⟩; obtain ⟨hc, hf⟩ := bcell hb; have hz := hb.size; (try simp only [World.size_alloc] at hz); (try (have hz0 : w.heap.size < w'.heap.size := by omega)); (try (have hz1 : w.heap.size + 1 < w'.heap.size := by omega)); (try (have hz2 : w.heap.size + 1 + 1 < w'.heap.size := by omega)); (try (have hz3 : w.heap.size + 1 + 1 + 1 < w'.heap.size := by omega))) | (go_at_call 66; refine (l1Told_any _ _ _).mono ?_; rintro e w' ⟨rfl, hb⟩; obtain ⟨hc, hf⟩ := bcell hb; have hz := hb.size; (try simp only [World.size_alloc] at hz); (try (have hz0 : w.heap.size < w'.heap.size := by omega)); (try (have hz1 : w.heap.size + 1 < w'.heap.size := by omega)); (try (have hz2 : w.heap.size + 1 + 1 < w'.heap.size := by omega)); (try (have hz3 : w.heap.size + 1 + 1 + 1 < w'.heap.size := by omega))) | go_in)
      exact bodyPost_ret (v := .tuple #[.agg #[.int .i64 0, .int .i64 0], .bool false]) (by simp (maxDischargeDepth := 6) [results, Tryd.results63, go_sem, *]) rfl ⟨rfl, by repeat (first | exact Below.refl _ _ | refine Below.drew ?_ | refine Below.alloc ?_ (by first | (simp; done) | (simp; omega) | omega) _ | refine Below.setCell ?_ (by first | (simp; done) | (simp; omega) | omega) _ | refine Below.trans ?_ (Below.mono (by assumption) (by first | (simp; done) | (simp; omega) | omega)))⟩
    have e : spreadB lo hi l g = okI (lo - l) (hi + g) := by simp [spreadB, h]; omega
    rw [e]; clear e
    have ⟨h1, h2, h3⟩ := okI_t h
    go_enter Tryd.func63, Tryd.ntmps63
    go_wp2_with (first | (go_at_call 49; refine (specIvalOk_any _ _ _).mono ?_; rintro e w' ⟨rfl, hb⟩; obtain ⟨hc, hf⟩ := bcell hb; have hz := hb.size; (try simp only [World.size_alloc] at hz); (try (have hz0 : w.heap.size < w'.heap.size := by omega)); (try (have hz1 : w.heap.size + 1 < w'.heap.size := by omega)); (try (have hz2 : w.heap.size + 1 + 1 < w'.heap.size := by omega)); (try (have hz3 : w.heap.size + 1 + 1 + 1 < w'.heap.size := by omega))) | (go_at_call 66; refine (l1Told_any _ _ _).mono ?_; rintro e w' ⟨rfl, hb⟩; obtain ⟨hc, hf⟩ := bcell hb; have hz := hb.size; (try simp only [World.size_alloc] at hz); (try (have hz0 : w.heap.size < w'.heap.size := by omega)); (try (have hz1 : w.heap.size + 1 < w'.heap.size := by omega)); (try (have hz2 : w.heap.size + 1 + 1 < w'.heap.size := by omega)); (try (have hz3 : w.heap.size + 1 + 1 + 1 < w'.heap.size := by omega))) | go_in)
    exact bodyPost_ret (v := .tuple #[.agg #[.int .i64 (sel (okI (lo - l) (hi + g)) (lo - l)), .int .i64 (sel (okI (lo - l) (hi + g)) (hi + g))], .bool (okI (lo - l) (hi + g))]) (by simp (maxDischargeDepth := 6) [results, Tryd.results63, go_sem, *]) rfl ⟨rfl, by repeat (first | exact Below.refl _ _ | refine Below.drew ?_ | refine Below.alloc ?_ (by first | (simp; done) | (simp; omega) | omega) _ | refine Below.setCell ?_ (by first | (simp; done) | (simp; omega) | omega) _ | refine Below.trans ?_ (Below.mono (by assumption) (by first | (simp; done) | (simp; omega) | omega)))⟩
end Go.Proofs.YtcakhfobkbgfoaaDoor
namespace Go.Proofs.YtcakhfobkbgfoaaDoor
open Go.RowKit
set_option linter.unusedVariables false
def rB (n d x r : Int) : Bool := okD n d && okT x && okT r
theorem rB_d {n d x r : Int} (h : okD n d = false) : rB n d x r = false := by simp [rB, h]
theorem rB_t {n d x r : Int} (h : okT x = false) : rB n d x r = false := by simp [rB, h]
theorem rB_r {n d x r : Int} (h : okD n d = true) (h' : okT x = true) : rB n d x r = okT r := by simp [rB, h, h']
set_option maxHeartbeats 1000000 in
theorem turned_f (n d x tuu fr : Int) (fv : Value) (w : World) (h : (okD n d && okT x) = false) :
    Calls Tryd.prog 97 #[.agg #[.int .i64 n, .int .i64 d], .int .i64 x, .int .i64 tuu, .int .i64 fr, fv] w fun e w' => e = .returned (.tuple #[.int .i64 0, .bool false]) ∧ Below w.heap.size w w' := by
  cases ho : okD n d
  · go_enter Tryd.func97, Tryd.ntmps97
    go_wp2_with (first | (go_at_call 110; refine (okd_any _ _ _).mono ?_; rintro e w' ⟨rfl, hb⟩; obtain ⟨hc, hf⟩ := bcell hb; (first | have hB := Below.trans (Below.trans hB (by repeat (first | exact Below.refl _ _ | refine Below.drew ?_ | refine Below.alloc ?_ (by first | (simp; done) | (simp; omega) | omega) _ | refine Below.setCell ?_ (by first | (simp; done) | (simp; omega) | omega) _ | refine Below.trans ?_ (Below.mono (by assumption) (by first | (simp; done) | (simp; omega) | omega))))) (Below.mono hb (by first | (simp; done) | (simp; omega) | omega)) | have hB := hb); obtain ⟨hC, hF⟩ := bcell hB; have hz := hb.size; (try simp at hz); (try (have hz0 : w.heap.size < w'.heap.size := by omega)); (try (have hz1 : w.heap.size + 1 < w'.heap.size := by omega)); (try (have hz2 : w.heap.size + 1 + 1 < w'.heap.size := by omega)); (try (have hz3 : w.heap.size + 1 + 1 + 1 < w'.heap.size := by omega))) | (go_at_call 72; refine (isTime_any _ _).mono ?_; rintro e w' ⟨rfl, rfl⟩))
    go_ret2
    exact ⟨rfl, by repeat (first | exact Below.refl _ _ | refine Below.drew ?_ | refine Below.alloc ?_ (by first | (simp; done) | (simp; omega) | omega) _ | refine Below.setCell ?_ (by first | (simp; done) | (simp; omega) | omega) _ | refine Below.trans ?_ (Below.mono (by assumption) (by first | (simp; done) | (simp; omega) | omega)))⟩
  · have ht : okT x = false := by simpa [ho] using h
    go_enter Tryd.func97, Tryd.ntmps97
    go_wp2_with (first | (go_at_call 110; refine (okd_any _ _ _).mono ?_; rintro e w' ⟨rfl, hb⟩; obtain ⟨hc, hf⟩ := bcell hb; (first | have hB := Below.trans (Below.trans hB (by repeat (first | exact Below.refl _ _ | refine Below.drew ?_ | refine Below.alloc ?_ (by first | (simp; done) | (simp; omega) | omega) _ | refine Below.setCell ?_ (by first | (simp; done) | (simp; omega) | omega) _ | refine Below.trans ?_ (Below.mono (by assumption) (by first | (simp; done) | (simp; omega) | omega))))) (Below.mono hb (by first | (simp; done) | (simp; omega) | omega)) | have hB := hb); obtain ⟨hC, hF⟩ := bcell hB; have hz := hb.size; (try simp at hz); (try (have hz0 : w.heap.size < w'.heap.size := by omega)); (try (have hz1 : w.heap.size + 1 < w'.heap.size := by omega)); (try (have hz2 : w.heap.size + 1 + 1 < w'.heap.size := by omega)); (try (have hz3 : w.heap.size + 1 + 1 + 1 < w'.heap.size := by omega))) | (go_at_call 72; refine (isTime_any _ _).mono ?_; rintro e w' ⟨rfl, rfl⟩))
    go_ret2
    exact ⟨rfl, by repeat (first | exact Below.refl _ _ | refine Below.drew ?_ | refine Below.alloc ?_ (by first | (simp; done) | (simp; omega) | omega) _ | refine Below.setCell ?_ (by first | (simp; done) | (simp; omega) | omega) _ | refine Below.trans ?_ (Below.mono (by assumption) (by first | (simp; done) | (simp; omega) | omega)))⟩
set_option maxHeartbeats 1000000 in
theorem turned_up (n d x tuu fr : Int) (w : World) (ho : okD n d = true) (ht : okT x = true) (h1 : 0 ≤ x * tuu) (h2 : x * tuu ≤ 4000000000000000000) (h3 : 0 < fr) (h4 : fr ≤ 4000000000000000000) :
    Calls Tryd.prog 97 #[.agg #[.int .i64 n, .int .i64 d], .int .i64 x, .int .i64 tuu, .int .i64 fr, .func (.func 99) #[] #[]] w fun e w' => e = .returned (.tuple #[.int .i64 (sel (okT (upI (x * tuu) fr)) (upI (x * tuu) fr)), .bool (okT (upI (x * tuu) fr))]) ∧ Below w.heap.size w w' := by
  cases hr : okT (upI (x * tuu) fr)
  · rw [sel_f rfl]
    go_enter Tryd.func97, Tryd.ntmps97
    go_wp2_with (first | (go_at_call 110; refine (okd_any _ _ _).mono ?_; rintro e w' ⟨rfl, hb⟩; obtain ⟨hc, hf⟩ := bcell hb; (first | have hB := Below.trans (Below.trans hB (by repeat (first | exact Below.refl _ _ | refine Below.drew ?_ | refine Below.alloc ?_ (by first | (simp; done) | (simp; omega) | omega) _ | refine Below.setCell ?_ (by first | (simp; done) | (simp; omega) | omega) _ | refine Below.trans ?_ (Below.mono (by assumption) (by first | (simp; done) | (simp; omega) | omega))))) (Below.mono hb (by first | (simp; done) | (simp; omega) | omega)) | have hB := hb); obtain ⟨hC, hF⟩ := bcell hB; have hz := hb.size; (try simp at hz); (try (have hz0 : w.heap.size < w'.heap.size := by omega)); (try (have hz1 : w.heap.size + 1 < w'.heap.size := by omega)); (try (have hz2 : w.heap.size + 1 + 1 < w'.heap.size := by omega)); (try (have hz3 : w.heap.size + 1 + 1 + 1 < w'.heap.size := by omega))) | (go_at_call 72; refine (isTime_any _ _).mono ?_; rintro e w' ⟨rfl, rfl⟩) | (go_at_call 99; refine (implUp_any _ _ _ (by omega) (by omega) (by omega) (by omega)).mono ?_; rintro e w' ⟨rfl, rfl⟩))
    go_ret2
    exact ⟨rfl, by repeat (first | exact Below.refl _ _ | refine Below.drew ?_ | refine Below.alloc ?_ (by first | (simp; done) | (simp; omega) | omega) _ | refine Below.setCell ?_ (by first | (simp; done) | (simp; omega) | omega) _ | refine Below.trans ?_ (Below.mono (by assumption) (by first | (simp; done) | (simp; omega) | omega)))⟩
  · rw [sel_t rfl]
    go_enter Tryd.func97, Tryd.ntmps97
    go_wp2_with (first | (go_at_call 110; refine (okd_any _ _ _).mono ?_; rintro e w' ⟨rfl, hb⟩; obtain ⟨hc, hf⟩ := bcell hb; (first | have hB := Below.trans (Below.trans hB (by repeat (first | exact Below.refl _ _ | refine Below.drew ?_ | refine Below.alloc ?_ (by first | (simp; done) | (simp; omega) | omega) _ | refine Below.setCell ?_ (by first | (simp; done) | (simp; omega) | omega) _ | refine Below.trans ?_ (Below.mono (by assumption) (by first | (simp; done) | (simp; omega) | omega))))) (Below.mono hb (by first | (simp; done) | (simp; omega) | omega)) | have hB := hb); obtain ⟨hC, hF⟩ := bcell hB; have hz := hb.size; (try simp at hz); (try (have hz0 : w.heap.size < w'.heap.size := by omega)); (try (have hz1 : w.heap.size + 1 < w'.heap.size := by omega)); (try (have hz2 : w.heap.size + 1 + 1 < w'.heap.size := by omega)); (try (have hz3 : w.heap.size + 1 + 1 + 1 < w'.heap.size := by omega))) | (go_at_call 72; refine (isTime_any _ _).mono ?_; rintro e w' ⟨rfl, rfl⟩) | (go_at_call 99; refine (implUp_any _ _ _ (by omega) (by omega) (by omega) (by omega)).mono ?_; rintro e w' ⟨rfl, rfl⟩))
    go_ret2
    exact ⟨rfl, by repeat (first | exact Below.refl _ _ | refine Below.drew ?_ | refine Below.alloc ?_ (by first | (simp; done) | (simp; omega) | omega) _ | refine Below.setCell ?_ (by first | (simp; done) | (simp; omega) | omega) _ | refine Below.trans ?_ (Below.mono (by assumption) (by first | (simp; done) | (simp; omega) | omega)))⟩
set_option maxHeartbeats 1000000 in
theorem turned_dn (n d x tuu fr : Int) (w : World) (ho : okD n d = true) (ht : okT x = true) (h1 : 0 ≤ x * tuu) (h2 : x * tuu ≤ 4000000000000000000) (h3 : 0 < fr) (h4 : fr ≤ 4000000000000000000) :
    Calls Tryd.prog 97 #[.agg #[.int .i64 n, .int .i64 d], .int .i64 x, .int .i64 tuu, .int .i64 fr, .func (.func 112) #[] #[]] w fun e w' => e = .returned (.tuple #[.int .i64 (sel (okT (dnI (x * tuu) fr)) (dnI (x * tuu) fr)), .bool (okT (dnI (x * tuu) fr))]) ∧ Below w.heap.size w w' := by
  cases hr : okT (dnI (x * tuu) fr)
  · rw [sel_f rfl]
    go_enter Tryd.func97, Tryd.ntmps97
    go_wp2_with (first | (go_at_call 110; refine (okd_any _ _ _).mono ?_; rintro e w' ⟨rfl, hb⟩; obtain ⟨hc, hf⟩ := bcell hb; (first | have hB := Below.trans (Below.trans hB (by repeat (first | exact Below.refl _ _ | refine Below.drew ?_ | refine Below.alloc ?_ (by first | (simp; done) | (simp; omega) | omega) _ | refine Below.setCell ?_ (by first | (simp; done) | (simp; omega) | omega) _ | refine Below.trans ?_ (Below.mono (by assumption) (by first | (simp; done) | (simp; omega) | omega))))) (Below.mono hb (by first | (simp; done) | (simp; omega) | omega)) | have hB := hb); obtain ⟨hC, hF⟩ := bcell hB; have hz := hb.size; (try simp at hz); (try (have hz0 : w.heap.size < w'.heap.size := by omega)); (try (have hz1 : w.heap.size + 1 < w'.heap.size := by omega)); (try (have hz2 : w.heap.size + 1 + 1 < w'.heap.size := by omega)); (try (have hz3 : w.heap.size + 1 + 1 + 1 < w'.heap.size := by omega))) | (go_at_call 72; refine (isTime_any _ _).mono ?_; rintro e w' ⟨rfl, rfl⟩) | (go_at_call 112; refine (implDown_any _ _ _ (by omega) (by omega) (by omega) (by omega)).mono ?_; rintro e w' ⟨rfl, rfl⟩))
    go_ret2
    exact ⟨rfl, by repeat (first | exact Below.refl _ _ | refine Below.drew ?_ | refine Below.alloc ?_ (by first | (simp; done) | (simp; omega) | omega) _ | refine Below.setCell ?_ (by first | (simp; done) | (simp; omega) | omega) _ | refine Below.trans ?_ (Below.mono (by assumption) (by first | (simp; done) | (simp; omega) | omega)))⟩
  · rw [sel_t rfl]
    go_enter Tryd.func97, Tryd.ntmps97
    go_wp2_with (first | (go_at_call 110; refine (okd_any _ _ _).mono ?_; rintro e w' ⟨rfl, hb⟩; obtain ⟨hc, hf⟩ := bcell hb; (first | have hB := Below.trans (Below.trans hB (by repeat (first | exact Below.refl _ _ | refine Below.drew ?_ | refine Below.alloc ?_ (by first | (simp; done) | (simp; omega) | omega) _ | refine Below.setCell ?_ (by first | (simp; done) | (simp; omega) | omega) _ | refine Below.trans ?_ (Below.mono (by assumption) (by first | (simp; done) | (simp; omega) | omega))))) (Below.mono hb (by first | (simp; done) | (simp; omega) | omega)) | have hB := hb); obtain ⟨hC, hF⟩ := bcell hB; have hz := hb.size; (try simp at hz); (try (have hz0 : w.heap.size < w'.heap.size := by omega)); (try (have hz1 : w.heap.size + 1 < w'.heap.size := by omega)); (try (have hz2 : w.heap.size + 1 + 1 < w'.heap.size := by omega)); (try (have hz3 : w.heap.size + 1 + 1 + 1 < w'.heap.size := by omega))) | (go_at_call 72; refine (isTime_any _ _).mono ?_; rintro e w' ⟨rfl, rfl⟩) | (go_at_call 112; refine (implDown_any _ _ _ (by omega) (by omega) (by omega) (by omega)).mono ?_; rintro e w' ⟨rfl, rfl⟩))
    go_ret2
    exact ⟨rfl, by repeat (first | exact Below.refl _ _ | refine Below.drew ?_ | refine Below.alloc ?_ (by first | (simp; done) | (simp; omega) | omega) _ | refine Below.setCell ?_ (by first | (simp; done) | (simp; omega) | omega) _ | refine Below.trans ?_ (Below.mono (by assumption) (by first | (simp; done) | (simp; omega) | omega)))⟩
set_option maxHeartbeats 1000000 in
theorem specLeastTime_any (n d x : Int) (w : World) :
    Calls Tryd.prog 16 #[.agg #[.int .i64 n, .int .i64 d], .int .i64 x] w fun e w' => e = .returned (.tuple #[.int .i64 (sel (rB n d x (upI (x * d) (d + n))) (upI (x * d) (d + n))), .bool (rB n d x (upI (x * d) (d + n)))]) ∧ Below w.heap.size w w' := by
  cases ho : okD n d
  · rw [rB_d ho, sel_f rfl]
    go_enter Tryd.func16, Tryd.ntmps16
    go_wp2_with (first | (go_at_call 50; refine (specDriftOk_any _ _ _).mono ?_; rintro e w' ⟨rfl, hb⟩; obtain ⟨hc, hf⟩ := bcell hb; (first | have hB := Below.trans (Below.trans hB (by repeat (first | exact Below.refl _ _ | refine Below.drew ?_ | refine Below.alloc ?_ (by first | (simp; done) | (simp; omega) | omega) _ | refine Below.setCell ?_ (by first | (simp; done) | (simp; omega) | omega) _ | refine Below.trans ?_ (Below.mono (by assumption) (by first | (simp; done) | (simp; omega) | omega))))) (Below.mono hb (by first | (simp; done) | (simp; omega) | omega)) | have hB := hb); obtain ⟨hC, hF⟩ := bcell hB; have hz := hb.size; (try simp at hz); (try (have hz0 : w.heap.size < w'.heap.size := by omega)); (try (have hz1 : w.heap.size + 1 < w'.heap.size := by omega)); (try (have hz2 : w.heap.size + 1 + 1 < w'.heap.size := by omega)); (try (have hz3 : w.heap.size + 1 + 1 + 1 < w'.heap.size := by omega))) | (go_at_call 59; refine (l2Time_any _ _).mono ?_; rintro e w' ⟨rfl, rfl⟩))
    go_ret2
    exact ⟨rfl, by repeat (first | exact Below.refl _ _ | refine Below.drew ?_ | refine Below.alloc ?_ (by first | (simp; done) | (simp; omega) | omega) _ | refine Below.setCell ?_ (by first | (simp; done) | (simp; omega) | omega) _ | refine Below.trans ?_ (Below.mono (by assumption) (by first | (simp; done) | (simp; omega) | omega)))⟩
  cases ht : okT x
  · rw [rB_t ht, sel_f rfl]
    go_enter Tryd.func16, Tryd.ntmps16
    go_wp2_with (first | (go_at_call 50; refine (specDriftOk_any _ _ _).mono ?_; rintro e w' ⟨rfl, hb⟩; obtain ⟨hc, hf⟩ := bcell hb; (first | have hB := Below.trans (Below.trans hB (by repeat (first | exact Below.refl _ _ | refine Below.drew ?_ | refine Below.alloc ?_ (by first | (simp; done) | (simp; omega) | omega) _ | refine Below.setCell ?_ (by first | (simp; done) | (simp; omega) | omega) _ | refine Below.trans ?_ (Below.mono (by assumption) (by first | (simp; done) | (simp; omega) | omega))))) (Below.mono hb (by first | (simp; done) | (simp; omega) | omega)) | have hB := hb); obtain ⟨hC, hF⟩ := bcell hB; have hz := hb.size; (try simp at hz); (try (have hz0 : w.heap.size < w'.heap.size := by omega)); (try (have hz1 : w.heap.size + 1 < w'.heap.size := by omega)); (try (have hz2 : w.heap.size + 1 + 1 < w'.heap.size := by omega)); (try (have hz3 : w.heap.size + 1 + 1 + 1 < w'.heap.size := by omega))) | (go_at_call 59; refine (l2Time_any _ _).mono ?_; rintro e w' ⟨rfl, rfl⟩))
    go_ret2
    exact ⟨rfl, by repeat (first | exact Below.refl _ _ | refine Below.drew ?_ | refine Below.alloc ?_ (by first | (simp; done) | (simp; omega) | omega) _ | refine Below.setCell ?_ (by first | (simp; done) | (simp; omega) | omega) _ | refine Below.trans ?_ (Below.mono (by assumption) (by first | (simp; done) | (simp; omega) | omega)))⟩
  rw [rB_r ho ht]
  have ⟨d1, d2, d3, d4⟩ := okD_t ho
  have ⟨t1, t2⟩ := okT_t ht
  have ⟨m1, m2⟩ := mul_bd (x := x) (y := d) (X := 1000000000000) (Y := 2000000) (by omega) (by omega) (by omega) (by omega)
  have ⟨v1, v2⟩ := upI_bd (x := x * d) (n := d + n) m1 (by omega)
  go_enter Tryd.func16, Tryd.ntmps16
  go_wp2_with (first | (go_at_call 50; refine (specDriftOk_any _ _ _).mono ?_; rintro e w' ⟨rfl, hb⟩; obtain ⟨hc, hf⟩ := bcell hb; (first | have hB := Below.trans (Below.trans hB (by repeat (first | exact Below.refl _ _ | refine Below.drew ?_ | refine Below.alloc ?_ (by first | (simp; done) | (simp; omega) | omega) _ | refine Below.setCell ?_ (by first | (simp; done) | (simp; omega) | omega) _ | refine Below.trans ?_ (Below.mono (by assumption) (by first | (simp; done) | (simp; omega) | omega))))) (Below.mono hb (by first | (simp; done) | (simp; omega) | omega)) | have hB := hb); obtain ⟨hC, hF⟩ := bcell hB; have hz := hb.size; (try simp at hz); (try (have hz0 : w.heap.size < w'.heap.size := by omega)); (try (have hz1 : w.heap.size + 1 < w'.heap.size := by omega)); (try (have hz2 : w.heap.size + 1 + 1 < w'.heap.size := by omega)); (try (have hz3 : w.heap.size + 1 + 1 + 1 < w'.heap.size := by omega))) | (go_at_call 59; refine (l2Time_any _ _).mono ?_; rintro e w' ⟨rfl, rfl⟩) | (go_at_call 62; refine (l1Up_any _ _ _ (by omega) (by omega) (by omega) (by omega)).mono ?_; rintro e w' ⟨rfl, rfl⟩) | (go_at_call 60; refine (l2Told_any _ _ (by first | assumption | (simp only [← dnI]; assumption) | omega)).mono ?_; rintro e w' ⟨rfl, rfl⟩))
  go_ret2
  exact ⟨rfl, by repeat (first | exact Below.refl _ _ | refine Below.drew ?_ | refine Below.alloc ?_ (by first | (simp; done) | (simp; omega) | omega) _ | refine Below.setCell ?_ (by first | (simp; done) | (simp; omega) | omega) _ | refine Below.trans ?_ (Below.mono (by assumption) (by first | (simp; done) | (simp; omega) | omega)))⟩
set_option maxHeartbeats 2000000 in
theorem implLeastTime_any (n d x : Int) (w : World) :
    Calls Tryd.prog 73 #[.agg #[.int .i64 n, .int .i64 d], .int .i64 x] w fun e w' => e = .returned (.tuple #[.int .i64 (sel (rB n d x (upI (x * d) (d + n))) (upI (x * d) (d + n))), .bool (rB n d x (upI (x * d) (d + n)))]) ∧ Below w.heap.size w w' := by
  cases hg : okD n d && okT x
  · rw [show rB n d x (upI (x * d) (d + n)) = false by simp [rB, hg], sel_f rfl]
    go_enter Tryd.func73, Tryd.ntmps73
    go_wp2_with fail
    go_region_held (fun w' => w'.cell? ⟨w.heap.size, 0, none⟩ = some (.int .i64 n) ∧ w'.cell? ⟨w.heap.size, 1, none⟩ = some (.int .i64 d)) (simp (maxDischargeDepth := 6) [go_sem, *]) (first | (go_at_call 98; refine (fastest_wrap _ _ _).mono ?_; rintro e w' ⟨rfl, hb⟩; obtain ⟨hc, hf⟩ := bcell hb; (first | have hB := Below.trans (Below.trans hB (by repeat (first | exact Below.refl _ _ | refine Below.drew ?_ | refine Below.alloc ?_ (by first | (simp; done) | (simp; omega) | omega) _ | refine Below.setCell ?_ (by first | (simp; done) | (simp; omega) | omega) _ | refine Below.trans ?_ (Below.mono (by assumption) (by first | (simp; done) | (simp; omega) | omega))))) (Below.mono hb (by first | (simp; done) | (simp; omega) | omega)) | have hB := hb); obtain ⟨hC, hF⟩ := bcell hB; have hz := hb.size; (try simp at hz); (try (have hz0 : w.heap.size < w'.heap.size := by omega)); (try (have hz1 : w.heap.size + 1 < w'.heap.size := by omega)); (try (have hz2 : w.heap.size + 1 + 1 < w'.heap.size := by omega)); (try (have hz3 : w.heap.size + 1 + 1 + 1 < w'.heap.size := by omega))) | (go_at_call 97; refine (turned_f _ _ _ _ _ _ _ hg).mono ?_; rintro e w' ⟨rfl, hb⟩; obtain ⟨hc, hf⟩ := bcell hb; (first | have hB := Below.trans (Below.trans hB (by repeat (first | exact Below.refl _ _ | refine Below.drew ?_ | refine Below.alloc ?_ (by first | (simp; done) | (simp; omega) | omega) _ | refine Below.setCell ?_ (by first | (simp; done) | (simp; omega) | omega) _ | refine Below.trans ?_ (Below.mono (by assumption) (by first | (simp; done) | (simp; omega) | omega))))) (Below.mono hb (by first | (simp; done) | (simp; omega) | omega)) | have hB := hb); obtain ⟨hC, hF⟩ := bcell hB; have hz := hb.size; (try simp at hz); (try (have hz0 : w.heap.size < w'.heap.size := by omega)); (try (have hz1 : w.heap.size + 1 < w'.heap.size := by omega)); (try (have hz2 : w.heap.size + 1 + 1 < w'.heap.size := by omega)); (try (have hz3 : w.heap.size + 1 + 1 + 1 < w'.heap.size := by omega))))
    all_goals go_wp2
    all_goals go_ret2
    all_goals exact ⟨rfl, by repeat (first | exact Below.refl _ _ | refine Below.drew ?_ | refine Below.alloc ?_ (by first | (simp; done) | (simp; omega) | omega) _ | refine Below.setCell ?_ (by first | (simp; done) | (simp; omega) | omega) _ | refine Below.trans ?_ (Below.mono (by assumption) (by first | (simp; done) | (simp; omega) | omega)))⟩
  have ho : okD n d = true := by simp at hg; exact hg.1
  have ht : okT x = true := by simp at hg; exact hg.2
  rw [rB_r ho ht]
  have ⟨d1, d2, d3, d4⟩ := okD_t ho
  have ⟨t1, t2⟩ := okT_t ht
  have ⟨m1, m2⟩ := mul_bd (x := x) (y := d) (X := 1000000000000) (Y := 2000000) (by omega) (by omega) (by omega) (by omega)
  go_enter Tryd.func73, Tryd.ntmps73
  go_wp2_with fail
  go_region_held (fun w' => w'.cell? ⟨w.heap.size, 0, none⟩ = some (.int .i64 n) ∧ w'.cell? ⟨w.heap.size, 1, none⟩ = some (.int .i64 d)) (simp (maxDischargeDepth := 6) [go_sem, *]) (first | (go_at_call 98; refine (fastest_any _ _ _ ho).mono ?_; rintro e w' ⟨rfl, hb⟩; obtain ⟨hc, hf⟩ := bcell hb; (first | have hB := Below.trans (Below.trans hB (by repeat (first | exact Below.refl _ _ | refine Below.drew ?_ | refine Below.alloc ?_ (by first | (simp; done) | (simp; omega) | omega) _ | refine Below.setCell ?_ (by first | (simp; done) | (simp; omega) | omega) _ | refine Below.trans ?_ (Below.mono (by assumption) (by first | (simp; done) | (simp; omega) | omega))))) (Below.mono hb (by first | (simp; done) | (simp; omega) | omega)) | have hB := hb); obtain ⟨hC, hF⟩ := bcell hB; have hz := hb.size; (try simp at hz); (try (have hz0 : w.heap.size < w'.heap.size := by omega)); (try (have hz1 : w.heap.size + 1 < w'.heap.size := by omega)); (try (have hz2 : w.heap.size + 1 + 1 < w'.heap.size := by omega)); (try (have hz3 : w.heap.size + 1 + 1 + 1 < w'.heap.size := by omega))) | (go_at_call 97; refine (turned_up _ _ _ _ _ _ ho ht (by omega) (by omega) (by omega) (by omega)).mono ?_; rintro e w' ⟨rfl, hb⟩; obtain ⟨hc, hf⟩ := bcell hb; (first | have hB := Below.trans (Below.trans hB (by repeat (first | exact Below.refl _ _ | refine Below.drew ?_ | refine Below.alloc ?_ (by first | (simp; done) | (simp; omega) | omega) _ | refine Below.setCell ?_ (by first | (simp; done) | (simp; omega) | omega) _ | refine Below.trans ?_ (Below.mono (by assumption) (by first | (simp; done) | (simp; omega) | omega))))) (Below.mono hb (by first | (simp; done) | (simp; omega) | omega)) | have hB := hb); obtain ⟨hC, hF⟩ := bcell hB; have hz := hb.size; (try simp at hz); (try (have hz0 : w.heap.size < w'.heap.size := by omega)); (try (have hz1 : w.heap.size + 1 < w'.heap.size := by omega)); (try (have hz2 : w.heap.size + 1 + 1 < w'.heap.size := by omega)); (try (have hz3 : w.heap.size + 1 + 1 + 1 < w'.heap.size := by omega))))
  all_goals go_wp2
  all_goals go_ret2
  all_goals exact ⟨rfl, by repeat (first | exact Below.refl _ _ | refine Below.drew ?_ | refine Below.alloc ?_ (by first | (simp; done) | (simp; omega) | omega) _ | refine Below.setCell ?_ (by first | (simp; done) | (simp; omega) | omega) _ | refine Below.trans ?_ (Below.mono (by assumption) (by first | (simp; done) | (simp; omega) | omega)))⟩
set_option maxHeartbeats 1000000 in
theorem specMostTime_any (n d x : Int) (w : World) :
    Calls Tryd.prog 15 #[.agg #[.int .i64 n, .int .i64 d], .int .i64 x] w fun e w' => e = .returned (.tuple #[.int .i64 (sel (rB n d x (dnI (x * d) (d - n))) (dnI (x * d) (d - n))), .bool (rB n d x (dnI (x * d) (d - n)))]) ∧ Below w.heap.size w w' := by
  cases ho : okD n d
  · rw [rB_d ho, sel_f rfl]
    go_enter Tryd.func15, Tryd.ntmps15
    go_wp2_with (first | (go_at_call 50; refine (specDriftOk_any _ _ _).mono ?_; rintro e w' ⟨rfl, hb⟩; obtain ⟨hc, hf⟩ := bcell hb; (first | have hB := Below.trans (Below.trans hB (by repeat (first | exact Below.refl _ _ | refine Below.drew ?_ | refine Below.alloc ?_ (by first | (simp; done) | (simp; omega) | omega) _ | refine Below.setCell ?_ (by first | (simp; done) | (simp; omega) | omega) _ | refine Below.trans ?_ (Below.mono (by assumption) (by first | (simp; done) | (simp; omega) | omega))))) (Below.mono hb (by first | (simp; done) | (simp; omega) | omega)) | have hB := hb); obtain ⟨hC, hF⟩ := bcell hB; have hz := hb.size; (try simp at hz); (try (have hz0 : w.heap.size < w'.heap.size := by omega)); (try (have hz1 : w.heap.size + 1 < w'.heap.size := by omega)); (try (have hz2 : w.heap.size + 1 + 1 < w'.heap.size := by omega)); (try (have hz3 : w.heap.size + 1 + 1 + 1 < w'.heap.size := by omega))) | (go_at_call 59; refine (l2Time_any _ _).mono ?_; rintro e w' ⟨rfl, rfl⟩))
    go_ret2
    exact ⟨rfl, by repeat (first | exact Below.refl _ _ | refine Below.drew ?_ | refine Below.alloc ?_ (by first | (simp; done) | (simp; omega) | omega) _ | refine Below.setCell ?_ (by first | (simp; done) | (simp; omega) | omega) _ | refine Below.trans ?_ (Below.mono (by assumption) (by first | (simp; done) | (simp; omega) | omega)))⟩
  cases ht : okT x
  · rw [rB_t ht, sel_f rfl]
    go_enter Tryd.func15, Tryd.ntmps15
    go_wp2_with (first | (go_at_call 50; refine (specDriftOk_any _ _ _).mono ?_; rintro e w' ⟨rfl, hb⟩; obtain ⟨hc, hf⟩ := bcell hb; (first | have hB := Below.trans (Below.trans hB (by repeat (first | exact Below.refl _ _ | refine Below.drew ?_ | refine Below.alloc ?_ (by first | (simp; done) | (simp; omega) | omega) _ | refine Below.setCell ?_ (by first | (simp; done) | (simp; omega) | omega) _ | refine Below.trans ?_ (Below.mono (by assumption) (by first | (simp; done) | (simp; omega) | omega))))) (Below.mono hb (by first | (simp; done) | (simp; omega) | omega)) | have hB := hb); obtain ⟨hC, hF⟩ := bcell hB; have hz := hb.size; (try simp at hz); (try (have hz0 : w.heap.size < w'.heap.size := by omega)); (try (have hz1 : w.heap.size + 1 < w'.heap.size := by omega)); (try (have hz2 : w.heap.size + 1 + 1 < w'.heap.size := by omega)); (try (have hz3 : w.heap.size + 1 + 1 + 1 < w'.heap.size := by omega))) | (go_at_call 59; refine (l2Time_any _ _).mono ?_; rintro e w' ⟨rfl, rfl⟩))
    go_ret2
    exact ⟨rfl, by repeat (first | exact Below.refl _ _ | refine Below.drew ?_ | refine Below.alloc ?_ (by first | (simp; done) | (simp; omega) | omega) _ | refine Below.setCell ?_ (by first | (simp; done) | (simp; omega) | omega) _ | refine Below.trans ?_ (Below.mono (by assumption) (by first | (simp; done) | (simp; omega) | omega)))⟩
  rw [rB_r ho ht]
  have ⟨d1, d2, d3, d4⟩ := okD_t ho
  have ⟨t1, t2⟩ := okT_t ht
  have ⟨m1, m2⟩ := mul_bd (x := x) (y := d) (X := 1000000000000) (Y := 2000000) (by omega) (by omega) (by omega) (by omega)
  have ⟨v1, v2⟩ := dnI_bd (x := x * d) (n := d - n) m1 (by omega)
  go_enter Tryd.func15, Tryd.ntmps15
  go_wp2_with (first | (go_at_call 50; refine (specDriftOk_any _ _ _).mono ?_; rintro e w' ⟨rfl, hb⟩; obtain ⟨hc, hf⟩ := bcell hb; (first | have hB := Below.trans (Below.trans hB (by repeat (first | exact Below.refl _ _ | refine Below.drew ?_ | refine Below.alloc ?_ (by first | (simp; done) | (simp; omega) | omega) _ | refine Below.setCell ?_ (by first | (simp; done) | (simp; omega) | omega) _ | refine Below.trans ?_ (Below.mono (by assumption) (by first | (simp; done) | (simp; omega) | omega))))) (Below.mono hb (by first | (simp; done) | (simp; omega) | omega)) | have hB := hb); obtain ⟨hC, hF⟩ := bcell hB; have hz := hb.size; (try simp at hz); (try (have hz0 : w.heap.size < w'.heap.size := by omega)); (try (have hz1 : w.heap.size + 1 < w'.heap.size := by omega)); (try (have hz2 : w.heap.size + 1 + 1 < w'.heap.size := by omega)); (try (have hz3 : w.heap.size + 1 + 1 + 1 < w'.heap.size := by omega))) | (go_at_call 59; refine (l2Time_any _ _).mono ?_; rintro e w' ⟨rfl, rfl⟩) | (go_at_call 61; refine (l1Down_any _ _ _ (by omega) (by omega) (by omega) (by omega)).mono ?_; rintro e w' ⟨rfl, rfl⟩) | (go_at_call 60; refine (l2Told_any _ _ (by first | assumption | (simp only [← dnI]; assumption) | omega)).mono ?_; rintro e w' ⟨rfl, rfl⟩))
  go_ret2
  exact ⟨rfl, by repeat (first | exact Below.refl _ _ | refine Below.drew ?_ | refine Below.alloc ?_ (by first | (simp; done) | (simp; omega) | omega) _ | refine Below.setCell ?_ (by first | (simp; done) | (simp; omega) | omega) _ | refine Below.trans ?_ (Below.mono (by assumption) (by first | (simp; done) | (simp; omega) | omega)))⟩
set_option maxHeartbeats 2000000 in
theorem implMostTime_any (n d x : Int) (w : World) :
    Calls Tryd.prog 96 #[.agg #[.int .i64 n, .int .i64 d], .int .i64 x] w fun e w' => e = .returned (.tuple #[.int .i64 (sel (rB n d x (dnI (x * d) (d - n))) (dnI (x * d) (d - n))), .bool (rB n d x (dnI (x * d) (d - n)))]) ∧ Below w.heap.size w w' := by
  cases hg : okD n d && okT x
  · rw [show rB n d x (dnI (x * d) (d - n)) = false by simp [rB, hg], sel_f rfl]
    go_enter Tryd.func96, Tryd.ntmps96
    go_wp2_with fail
    go_region_held (fun w' => w'.cell? ⟨w.heap.size, 0, none⟩ = some (.int .i64 n) ∧ w'.cell? ⟨w.heap.size, 1, none⟩ = some (.int .i64 d)) (simp (maxDischargeDepth := 6) [go_sem, *]) (first | (go_at_call 111; refine (slowest_wrap _ _ _).mono ?_; rintro e w' ⟨rfl, hb⟩; obtain ⟨hc, hf⟩ := bcell hb; (first | have hB := Below.trans (Below.trans hB (by repeat (first | exact Below.refl _ _ | refine Below.drew ?_ | refine Below.alloc ?_ (by first | (simp; done) | (simp; omega) | omega) _ | refine Below.setCell ?_ (by first | (simp; done) | (simp; omega) | omega) _ | refine Below.trans ?_ (Below.mono (by assumption) (by first | (simp; done) | (simp; omega) | omega))))) (Below.mono hb (by first | (simp; done) | (simp; omega) | omega)) | have hB := hb); obtain ⟨hC, hF⟩ := bcell hB; have hz := hb.size; (try simp at hz); (try (have hz0 : w.heap.size < w'.heap.size := by omega)); (try (have hz1 : w.heap.size + 1 < w'.heap.size := by omega)); (try (have hz2 : w.heap.size + 1 + 1 < w'.heap.size := by omega)); (try (have hz3 : w.heap.size + 1 + 1 + 1 < w'.heap.size := by omega))) | (go_at_call 97; refine (turned_f _ _ _ _ _ _ _ hg).mono ?_; rintro e w' ⟨rfl, hb⟩; obtain ⟨hc, hf⟩ := bcell hb; (first | have hB := Below.trans (Below.trans hB (by repeat (first | exact Below.refl _ _ | refine Below.drew ?_ | refine Below.alloc ?_ (by first | (simp; done) | (simp; omega) | omega) _ | refine Below.setCell ?_ (by first | (simp; done) | (simp; omega) | omega) _ | refine Below.trans ?_ (Below.mono (by assumption) (by first | (simp; done) | (simp; omega) | omega))))) (Below.mono hb (by first | (simp; done) | (simp; omega) | omega)) | have hB := hb); obtain ⟨hC, hF⟩ := bcell hB; have hz := hb.size; (try simp at hz); (try (have hz0 : w.heap.size < w'.heap.size := by omega)); (try (have hz1 : w.heap.size + 1 < w'.heap.size := by omega)); (try (have hz2 : w.heap.size + 1 + 1 < w'.heap.size := by omega)); (try (have hz3 : w.heap.size + 1 + 1 + 1 < w'.heap.size := by omega))))
    all_goals go_wp2
    all_goals go_ret2
    all_goals exact ⟨rfl, by repeat (first | exact Below.refl _ _ | refine Below.drew ?_ | refine Below.alloc ?_ (by first | (simp; done) | (simp; omega) | omega) _ | refine Below.setCell ?_ (by first | (simp; done) | (simp; omega) | omega) _ | refine Below.trans ?_ (Below.mono (by assumption) (by first | (simp; done) | (simp; omega) | omega)))⟩
  have ho : okD n d = true := by simp at hg; exact hg.1
  have ht : okT x = true := by simp at hg; exact hg.2
  rw [rB_r ho ht]
  have ⟨d1, d2, d3, d4⟩ := okD_t ho
  have ⟨t1, t2⟩ := okT_t ht
  have ⟨m1, m2⟩ := mul_bd (x := x) (y := d) (X := 1000000000000) (Y := 2000000) (by omega) (by omega) (by omega) (by omega)
  go_enter Tryd.func96, Tryd.ntmps96
  go_wp2_with fail
  go_region_held (fun w' => w'.cell? ⟨w.heap.size, 0, none⟩ = some (.int .i64 n) ∧ w'.cell? ⟨w.heap.size, 1, none⟩ = some (.int .i64 d)) (simp (maxDischargeDepth := 6) [go_sem, *]) (first | (go_at_call 111; refine (slowest_any _ _ _ ho).mono ?_; rintro e w' ⟨rfl, hb⟩; obtain ⟨hc, hf⟩ := bcell hb; (first | have hB := Below.trans (Below.trans hB (by repeat (first | exact Below.refl _ _ | refine Below.drew ?_ | refine Below.alloc ?_ (by first | (simp; done) | (simp; omega) | omega) _ | refine Below.setCell ?_ (by first | (simp; done) | (simp; omega) | omega) _ | refine Below.trans ?_ (Below.mono (by assumption) (by first | (simp; done) | (simp; omega) | omega))))) (Below.mono hb (by first | (simp; done) | (simp; omega) | omega)) | have hB := hb); obtain ⟨hC, hF⟩ := bcell hB; have hz := hb.size; (try simp at hz); (try (have hz0 : w.heap.size < w'.heap.size := by omega)); (try (have hz1 : w.heap.size + 1 < w'.heap.size := by omega)); (try (have hz2 : w.heap.size + 1 + 1 < w'.heap.size := by omega)); (try (have hz3 : w.heap.size + 1 + 1 + 1 < w'.heap.size := by omega))) | (go_at_call 97; refine (turned_dn _ _ _ _ _ _ ho ht (by omega) (by omega) (by omega) (by omega)).mono ?_; rintro e w' ⟨rfl, hb⟩; obtain ⟨hc, hf⟩ := bcell hb; (first | have hB := Below.trans (Below.trans hB (by repeat (first | exact Below.refl _ _ | refine Below.drew ?_ | refine Below.alloc ?_ (by first | (simp; done) | (simp; omega) | omega) _ | refine Below.setCell ?_ (by first | (simp; done) | (simp; omega) | omega) _ | refine Below.trans ?_ (Below.mono (by assumption) (by first | (simp; done) | (simp; omega) | omega))))) (Below.mono hb (by first | (simp; done) | (simp; omega) | omega)) | have hB := hb); obtain ⟨hC, hF⟩ := bcell hB; have hz := hb.size; (try simp at hz); (try (have hz0 : w.heap.size < w'.heap.size := by omega)); (try (have hz1 : w.heap.size + 1 < w'.heap.size := by omega)); (try (have hz2 : w.heap.size + 1 + 1 < w'.heap.size := by omega)); (try (have hz3 : w.heap.size + 1 + 1 + 1 < w'.heap.size := by omega))))
  all_goals go_wp2
  all_goals go_ret2
  all_goals exact ⟨rfl, by repeat (first | exact Below.refl _ _ | refine Below.drew ?_ | refine Below.alloc ?_ (by first | (simp; done) | (simp; omega) | omega) _ | refine Below.setCell ?_ (by first | (simp; done) | (simp; omega) | omega) _ | refine Below.trans ?_ (Below.mono (by assumption) (by first | (simp; done) | (simp; omega) | omega)))⟩
end Go.Proofs.YtcakhfobkbgfoaaDoor
namespace Go.Proofs.YtcakhfobkbgfoaaDoor
open Go.RowKit
set_option linter.unusedVariables false
def nearI (lo hi t : Int) : Int := match okI lo hi with | true => imn (imx t lo) hi | false => 0
theorem nearI_t {lo hi t : Int} (h : okI lo hi = true) : nearI lo hi t = imn (imx t lo) hi := by rw [nearI, h]
theorem nearI_f {lo hi t : Int} (h : okI lo hi = false) : nearI lo hi t = 0 := by rw [nearI, h]
def withinI (al ah bl bh : Int) : Bool := okII al ah bl bh && decide (bl ≤ al ∧ ah ≤ bh)
end Go.Proofs.YtcakhfobkbgfoaaDoor
