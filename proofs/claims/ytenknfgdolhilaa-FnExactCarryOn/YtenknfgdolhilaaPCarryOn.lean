/- For every local interval, drift and count the program answers CarryOn as the specification does, every field; no condition. -/
import Derived.Test.YtenknfgdolhilaaRows
import Derived.Test.YtenknfgdolhilaaQ5
import Derived.WalkKit
import Derived.ProofKit
import Derived.OpenShut
import Derived.ShutString
import Derived.ChangeOld
import Derived.ChangeSame
import Derived.Below
import Derived.Lib.SmallJoins
import Derived.Deep.SlicePairs
import Derived.Deep.Slices
import Derived.Deep.Strs
namespace Go.Proofs.Ytenknfgdolhilaa
open Go.ChangeShapes Go.WideShapes Go.ChangeAt Go.RowKit Go.Joins Go.Deep
open Go.ChangeMaps (open_string shut_string)
set_option linter.unusedVariables false
namespace FnExactCarryOnRow
theorem own : ownKnob Try.prog.godebug = none := by kernel_rfl
theorem laidOut : laidOutB Try.prog = true := by kernel_rfl
set_option maxRecDepth 100000 in
theorem lifted (os : Os) (started : os.Started) (H : Type) (enc : TypeId × Value → H) :
    ReturnsInHanded {} Try.checked os 4 .any (Rows.fnExactCarryOnSpec.pre6 enc Try.prog Try.f4 Rows.fnExactCarryOnRow.domain false) (Rows.fnExactCarryOnSpec.post enc Try.prog Try.f4 false true false false) := by
  refine returnsInHanded_of_change (C := Try.checked) own started (by kernel_rfl) Try.func4
    (ChangeSpec.witness6 (enc := enc) (C := Try.checked) false ⟨#[], #[.agg #[.bool false, .int .i64 0, .int .i64 0, .int .i64 0], .agg #[.int .i64 0, .int .i64 0], .int .i64 0], []⟩ 8 (by kernel_rfl) (by kernel_rfl) (by kernel_rfl) (by kernel_rfl)) ?_
  intro W base args ds gs before hval0 hW hcnd _
  have hval : ∀ (j : Nat) t v, Try.f4.params[j]? = some t → args[j]? = some v → Value.okWide Try.prog W .any base t v := hval0
  have hW' := hW
  obtain ⟨p, q, hA0, hV, rfl, hfz, hnd⟩ := hW
  have hA : DataW.TrodAll enc Try.prog W 0 (fun _ => true) true Try.f4.params.toList args.toList ds p := hA0
  rw [Try.params4] at hA hval
  obtain ⟨v0, vs0, d0, ds0, p0, q0, hargs, rfl, rfl, h0, r0⟩ := trodAll_cons hA
  obtain ⟨v1, vs1, d1, ds1, p1, q1, rfl, rfl, rfl, h1, r1⟩ := trodAll_cons r0
  obtain ⟨v2, vs2, d2, ds2, p2, q2, rfl, rfl, rfl, h2, r2⟩ := trodAll_cons r1
  obtain ⟨rfl, rfl, rfl⟩ := trodAll_nil r2
  obtain rfl : args = #[v0, v1, v2] := by cases args; simp_all
  obtain ⟨rfl, rfl⟩ := trodVars_none hV
  have k0 := h0
  have lt0 : ∀ x ∈ p0, x.block < W.heap.size := by obtain ⟨m, hm⟩ := k0; exact DataW.trod_lt m _ _ _ hm
  have cd0 : Try.prog.cellsOf 23 = 2 := by kernel_rfl
  have ci0 : Try.prog.cellsOf 3 = 1 := by kernel_rfl
  have cb0 : Try.prog.cellsOf 4 = 1 := by kernel_rfl
  obtain ⟨cs0, rfl, hsz0⟩ := okWide_struct Try.underlying25 (hval 0 25 v0 rfl rfl)
  obtain ⟨xa0, xb0, xc0, xd0, rfl⟩ := array4 (hsz0.trans (show Try.prog.cellsOf 25 = 4 by kernel_rfl))
  obtain ⟨fu0, hf0⟩ := h0
  obtain ⟨ya0, yb0, yc0, nn0, _, _, ta0, tb0, tc0⟩ := trod_struct3 Try.underlying25 hf0
  simp [Value.cells, cd0, ci0, cb0] at ta0 tb0 tc0
  obtain ⟨za0, zb0, nm0, _, _, ua0, ub0⟩ := trod_struct2 Try.underlying23 tb0
  simp [ci0] at ua0 ub0
  obtain ⟨oa0, eoa0, _⟩ := DataW.trod_bool Try.underlying4 ta0
  simp at eoa0
  subst eoa0
  obtain ⟨ob0, eob0, _, wob0⟩ := DataW.trod_int Try.underlying3 ua0
  simp at eob0
  subst eob0
  obtain ⟨oc0, eoc0, _, woc0⟩ := DataW.trod_int Try.underlying3 ub0
  simp at eoc0
  subst eoc0
  obtain ⟨od0, eod0, _, wod0⟩ := DataW.trod_int Try.underlying3 tc0
  simp at eod0
  subst eod0
  have k1 := h1
  have lt1 : ∀ x ∈ p1, x.block < W.heap.size := by obtain ⟨m, hm⟩ := k1; exact DataW.trod_lt m _ _ _ hm
  obtain ⟨c1, e1, y1, z1, m1, rfl, g1, gp1, hy1, hz1⟩ := open_agg2 Try.underlying33 (by kernel_rfl) (show Try.prog.cellsOf 33 = 2 by kernel_rfl) (hval 1 33 v1 rfl rfl) h1
  obtain ⟨a1, ea1, ya1, wa1⟩ := DataW.trod_int Try.underlying3 hy1
  obtain ⟨b1, eb1, yb1, wb1⟩ := DataW.trod_int Try.underlying3 hz1
  simp at ea1 eb1
  subst ea1 eb1
  obtain ⟨a2, rfl, rfl, rfl, w2⟩ := open_int Try.underlying3 (hval 2 3 v2 rfl rfl) h2
  clear hA0 hval0
  refine (lawCarryOn oa0 ob0 oc0 od0 a1 b1 a2 W wob0 woc0 wod0 wa1 wb1 w2).mono fun e W' ⟨he, bel⟩ => ?_
  subst he
  exact ⟨_, rfl, _, _, _, [], _, [], hW', trodAll_mk1 (shut_bool Try.underlying4 _), (trodAll_cons_mk (Below.trod laidOut (by kernel_rfl) (of_decide_eq_true (by kernel_rfl)) k0 bel lt0) (trodAll_cons_mk (Below.trod laidOut (by kernel_rfl) (of_decide_eq_true (by kernel_rfl)) k1 bel lt1) (trodAll_cons_mk (shut_int Try.underlying3 w2) trodAll_mk0))), rfl, bel.frame _, fun h => by cases h⟩
theorem over : Rows.fnExactCarryOnRow.holds Try.pinned (OpenSpec.ofChange Rows.fnExactCarryOnSpec) :=
  OpenClaim.holds_of_wide 4 Try.f4 rfl rfl rfl rfl rfl rfl rfl ⟨rfl, rfl, rfl, rfl, rfl⟩ rfl rfl rfl rfl rfl (by kernel_rfl) Try.func4 (by kernel_rfl)
    (of_decide_eq_true (by kernel_rfl)) (by unfold Func.isWrapper; first | (rw [if_pos (by decide +kernel)]; kernel_rfl) | (rw [if_neg (by decide +kernel)]; exact ⟨rfl, rfl⟩))
    (fun os started H enc _ => lifted os started H enc)
end FnExactCarryOnRow
theorem fnExactCarryOn_holds : Rows.FnExactCarryOnSaid := FnExactCarryOnRow.over
end Go.Proofs.Ytenknfgdolhilaa
