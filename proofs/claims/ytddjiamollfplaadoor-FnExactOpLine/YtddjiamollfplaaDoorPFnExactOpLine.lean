/- For every op the program answers OpLine as the specification does, and changes nothing of it; no condition; the library's tables and the words of ops stand as they are laid. -/
import Derived.Test.YtddjiamollfplaaDoorRows
import Derived.Test.YtddjiamollfplaaDoorCards
import Derived.Test.YtddjiamollfplaaDoorTie
import Derived.Test.YtddjiamollfplaaDoorF142
import Derived.Deep.DeepHandedRow
import Derived.OpenVars
import Derived.Test.YtddjiamollfplaaDoorL21OpLine
import Derived.WalkKit
import Derived.ProofKit
import Derived.OpenShut
import Derived.ShutString
import Derived.ChangeOld
import Derived.ChangeSame
import Derived.Below
import Derived.Lib.SmallJoins
import Derived.Deep.SlicePairs
import Derived.Deep.Slices
import Derived.Deep.Strs
namespace Go.Proofs.YtddjiamollfplaaDoor
open Go.ChangeShapes Go.WideShapes Go.ChangeAt Go.RowKit Go.Joins Go.Deep
open Go.ChangeMaps (open_string shut_string)
set_option linter.unusedVariables false
namespace FnExactOpLineRow
theorem own : ownKnob Tryd.prog.godebug = none := by kernel_rfl
theorem laidOut : laidOutB Tryd.prog = true := by kernel_rfl
def ivOf (v : Value) : Int := match v with | .int _ z => z | _ => 0
theorem add_at (b off n : Nat) : (⟨b, off, none⟩ : Addr).add n = ⟨b, off + n, none⟩ := by
  unfold Addr.add
  split
  · next h => subst h; rfl
  · rfl
theorem fields7 {H : Type} {enc : TypeId × Value → H} {P : Program} {w : World} {base : Nat} {sp : Nat → Bool} {held : Bool} {t : TypeId} {f0 f1 f2 f3 f4 f5 f6 : Field} {fuel : Nat} {cs : List Value} {x : DataW H × List MemPlace} (ht : P.underlying t = some (.struct #[f0, f1, f2, f3, f4, f5, f6])) (h : DataW.trod enc P w base sp held fuel t cs = some x) :
    ∃ y0 y1 y2 y3 y4 y5 y6 n, DataW.trod enc P w base sp held n f0.type ((cs.drop f0.offset).take (P.cellsOf f0.type)) = some y0 ∧ DataW.trod enc P w base sp held n f1.type ((cs.drop f1.offset).take (P.cellsOf f1.type)) = some y1 ∧ DataW.trod enc P w base sp held n f2.type ((cs.drop f2.offset).take (P.cellsOf f2.type)) = some y2 ∧ DataW.trod enc P w base sp held n f3.type ((cs.drop f3.offset).take (P.cellsOf f3.type)) = some y3 ∧ DataW.trod enc P w base sp held n f4.type ((cs.drop f4.offset).take (P.cellsOf f4.type)) = some y4 ∧ DataW.trod enc P w base sp held n f5.type ((cs.drop f5.offset).take (P.cellsOf f5.type)) = some y5 ∧ DataW.trod enc P w base sp held n f6.type ((cs.drop f6.offset).take (P.cellsOf f6.type)) = some y6 := by
  obtain ⟨xs, n, _, rfl, hl, hlen, hf⟩ := DataW.trod_struct ht h
  match xs, hlen with
  | [y0, y1, y2, y3, y4, y5, y6], _ => exact ⟨y0, y1, y2, y3, y4, y5, y6, n, by simpa using hf 0 f0 rfl, by simpa using hf 1 f1 rfl, by simpa using hf 2 f2 rfl, by simpa using hf 3 f3 rfl, by simpa using hf 4 f4 rfl, by simpa using hf 5 f5 rfl, by simpa using hf 6 f6 rfl⟩
theorem array7 {α : Type} {cs : Array α} (h : cs.size = 7) : ∃ c0 c1 c2 c3 c4 c5 c6, cs = #[c0, c1, c2, c3, c4, c5, c6] := by
  obtain ⟨l⟩ := cs
  match l, h with
  | [c0, c1, c2, c3, c4, c5, c6], _ => exact ⟨c0, c1, c2, c3, c4, c5, c6, rfl⟩
set_option maxRecDepth 100000 in
theorem laid_met (os : Os) (args : Array Value) : laidMetH Tryd.prog Rows.fnExactOpLineRow.laid ((laidWorld os).forCall (fun _ _ => 0) ⟨#[], args, []⟩).memory :=
  laidMetH_of_parts (laidMet_of_run' 8 (by kernel_rfl) (by kernel_rfl)) (by kernel_rfl)
set_option maxRecDepth 100000 in
theorem lifted (os : Os) (started : os.Started) (H : Type) (enc : TypeId × Value → H) (F : Stop.Interp) :
    ReturnsInHanded {} Tryd.checked os 6 .any ((OpenSpec.ofChange Rows.fnExactOpLineSpec).preRow enc Tryd.prog Tryd.f6 Rows.fnExactOpLineRow.domain false Rows.fnExactOpLineRow.laid) (((OpenSpec.ofChange Rows.fnExactOpLineSpec).at F).post enc Tryd.prog Tryd.f6 false true false false) := by
  refine returnsInHanded_of_row (C := Tryd.checked) (s := OpenSpec.ofChange Rows.fnExactOpLineSpec) own started (by kernel_rfl) Tryd.func6
    (witness_row_at (enc := enc) (C := Tryd.checked) false (laidWorld os) #[.agg #[.int .i64 0, .int .i64 0, .int .i64 0, .int .i64 0, .int .i64 0, .string ⟨#[]⟩, .slice none 0 0]] rfl (by kernel_rfl) (by kernel_rfl) (by kernel_rfl)
      (OpenSpec.preRow_of_B rfl 8 (by kernel_rfl) (by kernel_rfl) (laid_met os _))) ?_
  intro W base args ds gs before hval0 hW _ _ _ hL _ _
  have hval : ∀ (j : Nat) t v, Tryd.f6.params[j]? = some t → args[j]? = some v → Value.okWide Tryd.prog W .any base t v := hval0
  have hW' := hW
  obtain ⟨p, q, hA0, hV0, rfl, hfz, hnd⟩ := hW
  have hA : DataW.TrodAll enc Tryd.prog W 0 (fun _ => true) true Tryd.f6.params.toList args.toList ds p := hA0
  rw [Tryd.params6] at hA hval
  obtain ⟨v0, vs0, d0, ds0, p0, q0, hargs, rfl, rfl, h0, r0⟩ := trodAll_cons hA
  obtain ⟨rfl, rfl, rfl⟩ := trodAll_nil r0
  obtain rfl : args = #[v0] := by cases args; simp_all
  have hV : DataW.TrodVars enc Tryd.prog W (fun _ => true) ["loop.example/g00072/impl.opWords"] gs q := hV0
  obtain ⟨gv0, rfl⟩ := vars1 hV
  have E0 := t10_at hL (by kernel_rfl)
  have E1 := opw_at hL (by kernel_rfl)
  have k0 := h0
  have lt0 : ∀ x ∈ p0, x.block < W.heap.size := by obtain ⟨m, hm⟩ := k0; exact DataW.trod_lt m _ _ _ hm
  have ct0_0 : Tryd.prog.cellsOf 36 = 7 := by kernel_rfl
  have ct1_0 : Tryd.prog.cellsOf 3 = 1 := by kernel_rfl
  have ct2_0 : Tryd.prog.cellsOf 9 = 1 := by kernel_rfl
  have ct3_0 : Tryd.prog.cellsOf 34 = 1 := by kernel_rfl
  obtain ⟨cs0, rfl, hsz0⟩ := okWide_struct Tryd.underlying36 (hval 0 36 v0 rfl rfl)
  obtain ⟨z0_0, z1_0, z2_0, z3_0, z4_0, z5_0, z6_0, rfl⟩ := array7 (hsz0.trans ct0_0)
  obtain ⟨fu0, hf0⟩ := h0
  obtain ⟨_, _, _, _, _, _, _, nn1_0, t1_0_0, t1_1_0, t1_2_0, t1_3_0, t1_4_0, t1_5_0, t1_6_0⟩ := fields7 Tryd.underlying36 hf0
  simp [Value.cells, ct1_0, ct2_0, ct3_0] at t1_0_0 t1_1_0 t1_2_0 t1_3_0 t1_4_0 t1_5_0 t1_6_0
  obtain ⟨kk0, ekk0, _, wkk0⟩ := DataW.trod_int Tryd.underlying3 t1_0_0
  simp at ekk0
  subst ekk0
  obtain ⟨nd0, end0, _, wnd0⟩ := DataW.trod_int Tryd.underlying3 t1_1_0
  simp at end0
  subst end0
  obtain ⟨tt0, ett0, _, wtt0⟩ := DataW.trod_int Tryd.underlying3 t1_2_0
  simp at ett0
  subst ett0
  obtain ⟨aa0, eaa0, _, waa0⟩ := DataW.trod_int Tryd.underlying3 t1_3_0
  simp at eaa0
  subst eaa0
  obtain ⟨bb0, ebb0, _, wbb0⟩ := DataW.trod_int Tryd.underlying3 t1_4_0
  simp at ebb0
  subst ebb0
  obtain ⟨tx0, etx0, _, htx0⟩ := DataW.trod_string Tryd.underlying9 t1_5_0
  simp at etx0
  subst etx0
  obtain ⟨aP0, nP0, cP0, rfl⟩ : ∃ a l c, z6_0 = .slice a l c := by
    rcases open_slice Tryd.underlying34 t1_6_0 with ⟨hcs, _⟩ | ⟨x, l, c, m, nn, D, Pl, hcs, _⟩
    · simp at hcs; exact ⟨_, _, _, hcs⟩
    · simp at hcs; exact ⟨_, _, _, hcs⟩
  have keyP0 : nP0 ≤ maxLen ∧ ∃ M : Nat → Int, SrcC W aP0 nP0 (itG M) := by
    rcases open_slice Tryd.underlying34 t1_6_0 with ⟨hcs, _⟩ | ⟨x, l, c, m, nn, D, Pl, hcs, _, hl, hm, hmm, _, hx⟩
    · simp at hcs
      obtain ⟨rfl, rfl, rfl⟩ := hcs
      exact ⟨by simp [maxLen], fun _ => 0, .inl rfl⟩
    · simp at hcs
      obtain ⟨rfl, rfl, rfl⟩ := hcs
      have hlm : nP0 ≤ m := by rw [hmm]; split <;> omega
      have ce : Tryd.prog.cellsOf 3 = 1 := by kernel_rfl
      have each : ∀ i, i < m → ∃ q : Int, W.cell? (x.add i) = some (.int .i64 q) := by
        intro i hi
        obtain ⟨cs', h1, h2⟩ := hx i hi
        rw [ce] at h1
        obtain ⟨_, hlen, hcell⟩ := World.cells?_some h1
        match cs', hlen, h2, hcell with
        | [c0], _, h2, hcell =>
          obtain ⟨m0, em0, _, _⟩ := DataW.trod_int Tryd.underlying3 h2
          simp at em0
          subst em0
          refine ⟨m0, ?_⟩
          have e := hcell 0 (by omega)
          rw [add_add, Nat.mul_one, Nat.add_zero] at e
          rw [e]; rfl
      obtain ⟨M, hM⟩ := choose_lt each
      refine ⟨Nat.le_trans hl hm, M, ?_⟩
      by_cases hz : nP0 = 0
      · exact .inl hz
      · obtain ⟨b, off, spot⟩ := x
        have h00 := hM 0 (by omega)
        have hspot : spot = none := by
          have := World.cell?_spot h00
          simpa [Addr.add] using this
        subst hspot
        have hblk : b < W.heap.size := by
          have := World.block_lt_of_cell? W _ h00
          simpa [Addr.add] using this
        refine .inr ⟨b, off, rfl, hblk, fun j hj => ?_⟩
        have e := hM j (by omega)
        rw [add_at] at e
        exact e
  obtain ⟨hmaxP0, fP0, hsrcP0⟩ := keyP0
  clear hA0 hval0 hL
  refine (lawOpLine kk0 nd0 tt0 aa0 bb0 tx0 aP0 nP0 cP0 fP0 W ⟨E0, E1⟩ htx0 hmaxP0 hsrcP0).mono fun e W' ⟨he, bel⟩ => ?_
  subst he
  exact ⟨_, rfl, _, _, _, [], _, _, hW', trodAll_mk1 (shut_bool Tryd.underlying4 _), (trodAll_cons_mk (Below.trod laidOut (by kernel_rfl) (of_decide_eq_true (by kernel_rfl)) k0 bel lt0) trodAll_mk0), Below.trodVars laidOut bel (by kernel_rfl) hV, bel.frame _, fun h => by cases h⟩
set_option maxRecDepth 100000 in
set_option maxHeartbeats 16000000 in
theorem closed : joinedFacts Tryd.prog 6 Tryd.f6 Rows.fnExactOpLineSpec Rows.fnExactOpLineRow = true := by
  unfold joinedFacts
  repeat rw [Bool.and_eq_true]
  repeat' apply And.intro
  all_goals as_aux_lemma => kernel_rfl
theorem over : Rows.fnExactOpLineRow.holds Tryd.pinned (OpenSpec.ofChange Rows.fnExactOpLineSpec) :=
  OpenClaim.holds_of_cond 6 Tryd.f6 rfl rfl rfl rfl rfl rfl rfl ⟨rfl, rfl, rfl, rfl, rfl⟩ rfl rfl rfl rfl rfl (by kernel_rfl) Tryd.func6 (by kernel_rfl)
    (of_decide_eq_true (by kernel_rfl)) (by unfold Func.isWrapper; first | (rw [if_pos (by decide +kernel)]; kernel_rfl) | (rw [if_neg (by decide +kernel)]; exact ⟨rfl, rfl⟩))
    (fun os started H enc _ F => by rw [OpenClaim.pre_eq_preRow]; exact lifted os started H enc F)
theorem wants : (#[36].all fun t => !Tryd.prog.wantsStandIn t) = true := by kernel_rfl
theorem plain (f : FuncId) (fn : Func) (hf : Tryd.pinned.checked.prog.funcNamed "loop.example/g00072/laws.FnExactOpLine" = some f) (hfn : Tryd.pinned.checked.prog.funcs[f]? = some fn) :
    true = Tryd.pinned.checked.prog.looks [] ∧ ∀ (j : Nat) t, fn.params[j]? = some t → Tryd.pinned.checked.prog.wantsStandIn t = false := by
  obtain rfl : f = 6 := Option.some.inj ((show Tryd.prog.funcNamed "loop.example/g00072/laws.FnExactOpLine" = some 6 by kernel_rfl).symm.trans hf) |>.symm
  obtain rfl : fn = Tryd.f6 := (Option.some.inj (Tryd.func6.symm.trans hfn)).symm
  refine ⟨by kernel_rfl, fun j t ht => ?_⟩
  rw [Tryd.params6] at ht
  have h := Array.all_eq_true'.1 wants t (Array.mem_of_getElem? ht)
  have h2 : Tryd.prog.wantsStandIn t = false := by simpa using h
  exact h2
end FnExactOpLineRow
theorem fnExactOpLine_holds : Rows.FnExactOpLineCardSaid :=
  Claim7.holds_tied_plain_at .later [] _ _ _ _ FnExactOpLineRow.over (fun _ h => by cases h) (by kernel_rfl) (fun _ h => by cases h) fnExactOpLine_row_tie rfl ⟨rfl, rfl⟩ (by kernel_rfl) rfl FnExactOpLineRow.plain (by kernel_rfl)
end Go.Proofs.YtddjiamollfplaaDoor

