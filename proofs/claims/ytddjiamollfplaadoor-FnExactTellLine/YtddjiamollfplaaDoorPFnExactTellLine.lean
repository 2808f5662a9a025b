/- For whatever is told the program answers TellLine as the specification does; no condition; the library's table and the program's words stand as they are laid. -/
import Derived.Test.YtddjiamollfplaaDoorRows
import Derived.Test.YtddjiamollfplaaDoorCards
import Derived.Test.YtddjiamollfplaaDoorTie
import Derived.Test.YtddjiamollfplaaDoorF142
import Derived.Deep.DeepHandedRow
import Derived.OpenVars
import Derived.Test.YtddjiamollfplaaDoorL22TellLine
import Derived.WalkKit
import Derived.ProofKit
import Derived.OpenShut
import Derived.ShutString
import Derived.ChangeOld
import Derived.ChangeSame
import Derived.Below
import Derived.Lib.SmallJoins
import Derived.Deep.SlicePairs
import Derived.Deep.Slices
import Derived.Deep.Strs
namespace Go.Proofs.YtddjiamollfplaaDoor
open Go.ChangeShapes Go.WideShapes Go.ChangeAt Go.RowKit Go.Joins Go.Deep
open Go.ChangeMaps (open_string shut_string)
set_option linter.unusedVariables false
namespace FnExactTellLineRow
theorem own : ownKnob Tryd.prog.godebug = none := by kernel_rfl
theorem laidOut : laidOutB Tryd.prog = true := by kernel_rfl
theorem fields2 {H : Type} {enc : TypeId × Value → H} {P : Program} {w : World} {base : Nat} {sp : Nat → Bool} {held : Bool} {t : TypeId} {f0 f1 : Field} {fuel : Nat} {cs : List Value} {x : DataW H × List MemPlace} (ht : P.underlying t = some (.struct #[f0, f1])) (h : DataW.trod enc P w base sp held fuel t cs = some x) :
    ∃ y0 y1 n, DataW.trod enc P w base sp held n f0.type ((cs.drop f0.offset).take (P.cellsOf f0.type)) = some y0 ∧ DataW.trod enc P w base sp held n f1.type ((cs.drop f1.offset).take (P.cellsOf f1.type)) = some y1 := by
  obtain ⟨xs, n, _, rfl, hl, hlen, hf⟩ := DataW.trod_struct ht h
  match xs, hlen with
  | [y0, y1], _ => exact ⟨y0, y1, n, by simpa using hf 0 f0 rfl, by simpa using hf 1 f1 rfl⟩
theorem fields8 {H : Type} {enc : TypeId × Value → H} {P : Program} {w : World} {base : Nat} {sp : Nat → Bool} {held : Bool} {t : TypeId} {f0 f1 f2 f3 f4 f5 f6 f7 : Field} {fuel : Nat} {cs : List Value} {x : DataW H × List MemPlace} (ht : P.underlying t = some (.struct #[f0, f1, f2, f3, f4, f5, f6, f7])) (h : DataW.trod enc P w base sp held fuel t cs = some x) :
    ∃ y0 y1 y2 y3 y4 y5 y6 y7 n, DataW.trod enc P w base sp held n f0.type ((cs.drop f0.offset).take (P.cellsOf f0.type)) = some y0 ∧ DataW.trod enc P w base sp held n f1.type ((cs.drop f1.offset).take (P.cellsOf f1.type)) = some y1 ∧ DataW.trod enc P w base sp held n f2.type ((cs.drop f2.offset).take (P.cellsOf f2.type)) = some y2 ∧ DataW.trod enc P w base sp held n f3.type ((cs.drop f3.offset).take (P.cellsOf f3.type)) = some y3 ∧ DataW.trod enc P w base sp held n f4.type ((cs.drop f4.offset).take (P.cellsOf f4.type)) = some y4 ∧ DataW.trod enc P w base sp held n f5.type ((cs.drop f5.offset).take (P.cellsOf f5.type)) = some y5 ∧ DataW.trod enc P w base sp held n f6.type ((cs.drop f6.offset).take (P.cellsOf f6.type)) = some y6 ∧ DataW.trod enc P w base sp held n f7.type ((cs.drop f7.offset).take (P.cellsOf f7.type)) = some y7 := by
  obtain ⟨xs, n, _, rfl, hl, hlen, hf⟩ := DataW.trod_struct ht h
  match xs, hlen with
  | [y0, y1, y2, y3, y4, y5, y6, y7], _ => exact ⟨y0, y1, y2, y3, y4, y5, y6, y7, n, by simpa using hf 0 f0 rfl, by simpa using hf 1 f1 rfl, by simpa using hf 2 f2 rfl, by simpa using hf 3 f3 rfl, by simpa using hf 4 f4 rfl, by simpa using hf 5 f5 rfl, by simpa using hf 6 f6 rfl, by simpa using hf 7 f7 rfl⟩
theorem array10 {α : Type} {cs : Array α} (h : cs.size = 10) : ∃ c0 c1 c2 c3 c4 c5 c6 c7 c8 c9, cs = #[c0, c1, c2, c3, c4, c5, c6, c7, c8, c9] := by
  obtain ⟨l⟩ := cs
  match l, h with
  | [c0, c1, c2, c3, c4, c5, c6, c7, c8, c9], _ => exact ⟨c0, c1, c2, c3, c4, c5, c6, c7, c8, c9, rfl⟩
set_option maxRecDepth 100000 in
theorem laid_met (os : Os) (args : Array Value) : laidMetH Tryd.prog Rows.fnExactTellLineRow.laid ((laidWorld os).forCall (fun _ _ => 0) ⟨#[], args, []⟩).memory :=
  laidMetH_of_parts (laidMet_of_run' 8 (by kernel_rfl) (by kernel_rfl)) (by kernel_rfl)
set_option maxRecDepth 100000 in
theorem lifted (os : Os) (started : os.Started) (H : Type) (enc : TypeId × Value → H) (F : Stop.Interp) :
    ReturnsInHanded {} Tryd.checked os 11 .any ((OpenSpec.ofChange Rows.fnExactTellLineSpec).preRow enc Tryd.prog Tryd.f11 Rows.fnExactTellLineRow.domain false Rows.fnExactTellLineRow.laid) (((OpenSpec.ofChange Rows.fnExactTellLineSpec).at F).post enc Tryd.prog Tryd.f11 false true false false) := by
  refine returnsInHanded_of_row (C := Tryd.checked) (s := OpenSpec.ofChange Rows.fnExactTellLineSpec) own started (by kernel_rfl) Tryd.func11
    (witness_row_at (enc := enc) (C := Tryd.checked) false (laidWorld os) #[.agg #[.int .i64 0, .int .i64 0, .int .i64 0, .int .i64 0, .bool false, .bool false, .int .i64 0, .int .i64 0, .int .i64 0, .int .i64 0]] rfl (by kernel_rfl) (by kernel_rfl) (by kernel_rfl)
      (OpenSpec.preRow_of_B rfl 8 (by kernel_rfl) (by kernel_rfl) (laid_met os _))) ?_
  intro W base args ds gs before hval0 hW _ _ _ hL _ _
  have hval : ∀ (j : Nat) t v, Tryd.f11.params[j]? = some t → args[j]? = some v → Value.okWide Tryd.prog W .any base t v := hval0
  have hW' := hW
  obtain ⟨p, q, hA0, hV0, rfl, hfz, hnd⟩ := hW
  have hA : DataW.TrodAll enc Tryd.prog W 0 (fun _ => true) true Tryd.f11.params.toList args.toList ds p := hA0
  rw [Tryd.params11] at hA hval
  obtain ⟨v0, vs0, d0, ds0, p0, q0, hargs, rfl, rfl, h0, r0⟩ := trodAll_cons hA
  obtain ⟨rfl, rfl, rfl⟩ := trodAll_nil r0
  obtain rfl : args = #[v0] := by cases args; simp_all
  have hV : DataW.TrodVars enc Tryd.prog W (fun _ => true) ["loop.example/g00072/impl.opWords"] gs q := hV0
  obtain ⟨gv0, rfl⟩ := vars1 hV
  have E0 := t10_at hL (by kernel_rfl)
  have E1 := opw_at hL (by kernel_rfl)
  have k0 := h0
  have lt0 : ∀ x ∈ p0, x.block < W.heap.size := by obtain ⟨m, hm⟩ := k0; exact DataW.trod_lt m _ _ _ hm
  have ct0_0 : Tryd.prog.cellsOf 63 = 10 := by kernel_rfl
  have ct1_0 : Tryd.prog.cellsOf 57 = 2 := by kernel_rfl
  have ct2_0 : Tryd.prog.cellsOf 3 = 1 := by kernel_rfl
  have ct3_0 : Tryd.prog.cellsOf 4 = 1 := by kernel_rfl
  obtain ⟨cs0, rfl, hsz0⟩ := okWide_struct Tryd.underlying63 (hval 0 63 v0 rfl rfl)
  obtain ⟨z0_0, z1_0, z2_0, z3_0, z4_0, z5_0, z6_0, z7_0, z8_0, z9_0, rfl⟩ := array10 (hsz0.trans ct0_0)
  obtain ⟨fu0, hf0⟩ := h0
  obtain ⟨_, _, _, _, _, _, _, _, nn1_0, t1_0_0, t1_1_0, t1_2_0, t1_3_0, t1_4_0, t1_5_0, t1_6_0, t1_7_0⟩ := fields8 Tryd.underlying63 hf0
  simp [Value.cells, ct2_0, ct3_0, ct1_0] at t1_0_0 t1_1_0 t1_2_0 t1_3_0 t1_4_0 t1_5_0 t1_6_0 t1_7_0
  obtain ⟨tk0, etk0, _, wtk0⟩ := DataW.trod_int Tryd.underlying3 t1_0_0
  simp at etk0
  subst etk0
  obtain ⟨tn0, etn0, _, wtn0⟩ := DataW.trod_int Tryd.underlying3 t1_1_0
  simp at etn0
  subst etn0
  obtain ⟨tc0, etc0, _, wtc0⟩ := DataW.trod_int Tryd.underlying3 t1_2_0
  simp at etc0
  subst etc0
  obtain ⟨tv0, etv0, _, wtv0⟩ := DataW.trod_int Tryd.underlying3 t1_3_0
  simp at etv0
  subst etv0
  obtain ⟨td0, etd0, _⟩ := DataW.trod_bool Tryd.underlying4 t1_4_0
  simp at etd0
  subst etd0
  obtain ⟨tw0, etw0, _⟩ := DataW.trod_bool Tryd.underlying4 t1_5_0
  simp at etw0
  subst etw0
  obtain ⟨_, _, nn2_0, t2_0_0, t2_1_0⟩ := fields2 Tryd.underlying57 t1_6_0
  simp [ct2_0] at t2_0_0 t2_1_0
  obtain ⟨ta0, eta0, _, wta0⟩ := DataW.trod_int Tryd.underlying3 t2_0_0
  simp at eta0
  subst eta0
  obtain ⟨tb0, etb0, _, wtb0⟩ := DataW.trod_int Tryd.underlying3 t2_1_0
  simp at etb0
  subst etb0
  obtain ⟨_, _, nn3_0, t3_0_0, t3_1_0⟩ := fields2 Tryd.underlying57 t1_7_0
  simp [ct2_0] at t3_0_0 t3_1_0
  obtain ⟨tx0, etx0, _, wtx0⟩ := DataW.trod_int Tryd.underlying3 t3_0_0
  simp at etx0
  subst etx0
  obtain ⟨ty0, ety0, _, wty0⟩ := DataW.trod_int Tryd.underlying3 t3_1_0
  simp at ety0
  subst ety0
  clear hA0 hval0 hL
  refine (walkTellLine tk0 tn0 tc0 tv0 td0 tw0 ta0 tb0 tx0 ty0 W ⟨E0, E1⟩ wtk0 wtn0 wtc0 wtv0 wta0 wtb0 wtx0 wty0).mono fun e W' ⟨he, bel⟩ => ?_
  subst he
  exact ⟨_, rfl, _, _, _, [], _, _, hW', trodAll_mk1 (shut_bool Tryd.underlying4 _), (trodAll_cons_mk (Below.trod laidOut (by kernel_rfl) (of_decide_eq_true (by kernel_rfl)) k0 bel lt0) trodAll_mk0), Below.trodVars laidOut bel (by kernel_rfl) hV, bel.frame _, fun h => by cases h⟩
theorem over : Rows.fnExactTellLineRow.holds Tryd.pinned (OpenSpec.ofChange Rows.fnExactTellLineSpec) :=
  OpenClaim.holds_of_cond 11 Tryd.f11 rfl rfl rfl rfl rfl rfl rfl ⟨rfl, rfl, rfl, rfl, rfl⟩ rfl rfl rfl rfl rfl (by kernel_rfl) Tryd.func11 (by kernel_rfl)
    (of_decide_eq_true (by kernel_rfl)) (by unfold Func.isWrapper; first | (rw [if_pos (by decide +kernel)]; kernel_rfl) | (rw [if_neg (by decide +kernel)]; exact ⟨rfl, rfl⟩))
    (fun os started H enc _ F => by rw [OpenClaim.pre_eq_preRow]; exact lifted os started H enc F)
theorem wants : (#[63].all fun t => !Tryd.prog.wantsStandIn t) = true := by kernel_rfl
theorem plain (f : FuncId) (fn : Func) (hf : Tryd.pinned.checked.prog.funcNamed "loop.example/g00072/laws.FnExactTellLine" = some f) (hfn : Tryd.pinned.checked.prog.funcs[f]? = some fn) :
    true = Tryd.pinned.checked.prog.looks [] ∧ ∀ (j : Nat) t, fn.params[j]? = some t → Tryd.pinned.checked.prog.wantsStandIn t = false := by
  obtain rfl : f = 11 := Option.some.inj ((show Tryd.prog.funcNamed "loop.example/g00072/laws.FnExactTellLine" = some 11 by kernel_rfl).symm.trans hf) |>.symm
  obtain rfl : fn = Tryd.f11 := (Option.some.inj (Tryd.func11.symm.trans hfn)).symm
  refine ⟨by kernel_rfl, fun j t ht => ?_⟩
  rw [Tryd.params11] at ht
  have h := Array.all_eq_true'.1 wants t (Array.mem_of_getElem? ht)
  have h2 : Tryd.prog.wantsStandIn t = false := by simpa using h
  exact h2
end FnExactTellLineRow
theorem fnExactTellLine_holds : Rows.FnExactTellLineCardSaid :=
  Claim7.holds_tied_plain_at .later [] _ _ _ _ FnExactTellLineRow.over (fun _ h => by cases h) (by kernel_rfl) (fun _ h => by cases h) fnExactTellLine_row_tie rfl ⟨rfl, rfl⟩ (by kernel_rfl) rfl FnExactTellLineRow.plain (by kernel_rfl)
end Go.Proofs.YtddjiamollfplaaDoor

