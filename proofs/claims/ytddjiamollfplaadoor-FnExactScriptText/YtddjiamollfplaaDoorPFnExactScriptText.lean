/- For every list of ops the program answers ScriptText as the specification does, and changes nothing of it; no condition; the library's tables and the words of ops stand as they are laid. -/
import Derived.Test.YtddjiamollfplaaDoorRows
import Derived.Test.YtddjiamollfplaaDoorCards
import Derived.Test.YtddjiamollfplaaDoorTie
import Derived.Test.YtddjiamollfplaaDoorF142
import Derived.Deep.DeepHandedRow
import Derived.OpenVars
import Derived.Test.YtddjiamollfplaaDoorL21ScriptText
import Derived.WalkKit
import Derived.ProofKit
import Derived.OpenShut
import Derived.ShutString
import Derived.ChangeOld
import Derived.ChangeSame
import Derived.Below
import Derived.Lib.SmallJoins
import Derived.Deep.SlicePairs
import Derived.Deep.Slices
import Derived.Deep.Strs
namespace Go.Proofs.YtddjiamollfplaaDoor
open Go.ChangeShapes Go.WideShapes Go.ChangeAt Go.RowKit Go.Joins Go.Deep
open Go.ChangeMaps (open_string shut_string)
set_option linter.unusedVariables false
namespace FnExactScriptTextRow
theorem own : ownKnob Tryd.prog.godebug = none := by kernel_rfl
theorem laidOut : laidOutB Tryd.prog = true := by kernel_rfl
def ivOf (v : Value) : Int := match v with | .int _ z => z | _ => 0
theorem add_at (b off n : Nat) : (⟨b, off, none⟩ : Addr).add n = ⟨b, off + n, none⟩ := by
  unfold Addr.add
  split
  · next h => subst h; rfl
  · rfl
theorem fields7 {H : Type} {enc : TypeId × Value → H} {P : Program} {w : World} {base : Nat} {sp : Nat → Bool} {held : Bool} {t : TypeId} {f0 f1 f2 f3 f4 f5 f6 : Field} {fuel : Nat} {cs : List Value} {x : DataW H × List MemPlace} (ht : P.underlying t = some (.struct #[f0, f1, f2, f3, f4, f5, f6])) (h : DataW.trod enc P w base sp held fuel t cs = some x) :
    ∃ y0 y1 y2 y3 y4 y5 y6 n, DataW.trod enc P w base sp held n f0.type ((cs.drop f0.offset).take (P.cellsOf f0.type)) = some y0 ∧ DataW.trod enc P w base sp held n f1.type ((cs.drop f1.offset).take (P.cellsOf f1.type)) = some y1 ∧ DataW.trod enc P w base sp held n f2.type ((cs.drop f2.offset).take (P.cellsOf f2.type)) = some y2 ∧ DataW.trod enc P w base sp held n f3.type ((cs.drop f3.offset).take (P.cellsOf f3.type)) = some y3 ∧ DataW.trod enc P w base sp held n f4.type ((cs.drop f4.offset).take (P.cellsOf f4.type)) = some y4 ∧ DataW.trod enc P w base sp held n f5.type ((cs.drop f5.offset).take (P.cellsOf f5.type)) = some y5 ∧ DataW.trod enc P w base sp held n f6.type ((cs.drop f6.offset).take (P.cellsOf f6.type)) = some y6 := by
  obtain ⟨xs, n, _, rfl, hl, hlen, hf⟩ := DataW.trod_struct ht h
  match xs, hlen with
  | [y0, y1, y2, y3, y4, y5, y6], _ => exact ⟨y0, y1, y2, y3, y4, y5, y6, n, by simpa using hf 0 f0 rfl, by simpa using hf 1 f1 rfl, by simpa using hf 2 f2 rfl, by simpa using hf 3 f3 rfl, by simpa using hf 4 f4 rfl, by simpa using hf 5 f5 rfl, by simpa using hf 6 f6 rfl⟩
def zOp : OpD := ⟨0, 0, 0, 0, 0, ⟨#[]⟩, 0, fun _ => 0⟩
theorem op_id {W : World} {A : Array Value} {q : OpD} (h : OdW W A q) : A[0]? = some (.int .i64 q.k) := by
  obtain ⟨p, c, e, _⟩ := h
  rw [e]; rfl
theorem op_row {H : Type} {enc : TypeId × Value → H} {W : World} {base : Nat} {sp : Nat → Bool} {held : Bool} {fu : Nat} {y : DataW H × List MemPlace} (cs : List Value) (hl : cs.length = 7) (h : DataW.trod enc Tryd.prog W base sp held fu 36 cs = some y) : ∃ (A : Array Value) (q : OpD), cs = A.toList ∧ OdW W A q := by
  have ct0_N : Tryd.prog.cellsOf 36 = 7 := by kernel_rfl
  have ct1_N : Tryd.prog.cellsOf 3 = 1 := by kernel_rfl
  have ct2_N : Tryd.prog.cellsOf 9 = 1 := by kernel_rfl
  have ct3_N : Tryd.prog.cellsOf 34 = 1 := by kernel_rfl
  match cs, hl, h with
  | [z0_N, z1_N, z2_N, z3_N, z4_N, z5_N, z6_N], _, hfN =>
    obtain ⟨_, _, _, _, _, _, _, nn1_N, t1_0_N, t1_1_N, t1_2_N, t1_3_N, t1_4_N, t1_5_N, t1_6_N⟩ := fields7 Tryd.underlying36 hfN
    simp [ct1_N, ct2_N, ct3_N] at t1_0_N t1_1_N t1_2_N t1_3_N t1_4_N t1_5_N t1_6_N
    obtain ⟨kkN, ekkN, _, wkkN⟩ := DataW.trod_int Tryd.underlying3 t1_0_N
    simp at ekkN
    subst ekkN
    obtain ⟨ndN, endN, _, wndN⟩ := DataW.trod_int Tryd.underlying3 t1_1_N
    simp at endN
    subst endN
    obtain ⟨ttN, ettN, _, wttN⟩ := DataW.trod_int Tryd.underlying3 t1_2_N
    simp at ettN
    subst ettN
    obtain ⟨aaN, eaaN, _, waaN⟩ := DataW.trod_int Tryd.underlying3 t1_3_N
    simp at eaaN
    subst eaaN
    obtain ⟨bbN, ebbN, _, wbbN⟩ := DataW.trod_int Tryd.underlying3 t1_4_N
    simp at ebbN
    subst ebbN
    obtain ⟨txN, etxN, _, htxN⟩ := DataW.trod_string Tryd.underlying9 t1_5_N
    simp at etxN
    subst etxN
    obtain ⟨aPN, nPN, cPN, rfl⟩ : ∃ a l c, z6_N = .slice a l c := by
      rcases open_slice Tryd.underlying34 t1_6_N with ⟨hcs, _⟩ | ⟨x, l, c, m, nn, D, Pl, hcs, _⟩
      · simp at hcs; exact ⟨_, _, _, hcs⟩
      · simp at hcs; exact ⟨_, _, _, hcs⟩
    have keyPN : nPN ≤ maxLen ∧ ∃ M : Nat → Int, SrcC W aPN nPN (itG M) := by
      rcases open_slice Tryd.underlying34 t1_6_N with ⟨hcs, _⟩ | ⟨x, l, c, m, nn, D, Pl, hcs, _, hl, hm, hmm, _, hx⟩
      · simp at hcs
        obtain ⟨rfl, rfl, rfl⟩ := hcs
        exact ⟨by simp [maxLen], fun _ => 0, .inl rfl⟩
      · simp at hcs
        obtain ⟨rfl, rfl, rfl⟩ := hcs
        have hlm : nPN ≤ m := by rw [hmm]; split <;> omega
        have ce : Tryd.prog.cellsOf 3 = 1 := by kernel_rfl
        have each : ∀ i, i < m → ∃ q : Int, W.cell? (x.add i) = some (.int .i64 q) := by
          intro i hi
          obtain ⟨cs', h1, h2⟩ := hx i hi
          rw [ce] at h1
          obtain ⟨_, hlen, hcell⟩ := World.cells?_some h1
          match cs', hlen, h2, hcell with
          | [c0], _, h2, hcell =>
            obtain ⟨m0, em0, _, _⟩ := DataW.trod_int Tryd.underlying3 h2
            simp at em0
            subst em0
            refine ⟨m0, ?_⟩
            have e := hcell 0 (by omega)
            rw [add_add, Nat.mul_one, Nat.add_zero] at e
            rw [e]; rfl
        obtain ⟨M, hM⟩ := choose_lt each
        refine ⟨Nat.le_trans hl hm, M, ?_⟩
        by_cases hz : nPN = 0
        · exact .inl hz
        · obtain ⟨b, off, spot⟩ := x
          have h00 := hM 0 (by omega)
          have hspot : spot = none := by
            have := World.cell?_spot h00
            simpa [Addr.add] using this
          subst hspot
          have hblk : b < W.heap.size := by
            have := World.block_lt_of_cell? W _ h00
            simpa [Addr.add] using this
          refine .inr ⟨b, off, rfl, hblk, fun j hj => ?_⟩
          have e := hM j (by omega)
          rw [add_at] at e
          exact e
    obtain ⟨hmaxPN, fPN, hsrcPN⟩ := keyPN
    exact ⟨opV ⟨kkN, ndN, ttN, aaN, bbN, txN, nPN, fPN⟩ aPN cPN, _, rfl, ⟨aPN, cPN, rfl, ⟨htxN, hmaxPN⟩, hsrcPN⟩⟩
set_option maxRecDepth 100000 in
theorem laid_met (os : Os) (args : Array Value) : laidMetH Tryd.prog Rows.fnExactScriptTextRow.laid ((laidWorld os).forCall (fun _ _ => 0) ⟨#[], args, []⟩).memory :=
  laidMetH_of_parts (laidMet_of_run' 8 (by kernel_rfl) (by kernel_rfl)) (by kernel_rfl)
set_option maxRecDepth 100000 in
theorem lifted (os : Os) (started : os.Started) (H : Type) (enc : TypeId × Value → H) (F : Stop.Interp) :
    ReturnsInHanded {} Tryd.checked os 8 .any ((OpenSpec.ofChange Rows.fnExactScriptTextSpec).preRow enc Tryd.prog Tryd.f8 Rows.fnExactScriptTextRow.domain false Rows.fnExactScriptTextRow.laid) (((OpenSpec.ofChange Rows.fnExactScriptTextSpec).at F).post enc Tryd.prog Tryd.f8 false true false false) := by
  refine returnsInHanded_of_row (C := Tryd.checked) (s := OpenSpec.ofChange Rows.fnExactScriptTextSpec) own started (by kernel_rfl) Tryd.func8
    (witness_row_at (enc := enc) (C := Tryd.checked) false (laidWorld os) #[.slice none 0 0] rfl (by kernel_rfl) (by kernel_rfl) (by kernel_rfl)
      (OpenSpec.preRow_of_B rfl 8 (by kernel_rfl) (by kernel_rfl) (laid_met os _))) ?_
  intro W base args ds gs before hval0 hW _ _ _ hL _ _
  have hval : ∀ (j : Nat) t v, Tryd.f8.params[j]? = some t → args[j]? = some v → Value.okWide Tryd.prog W .any base t v := hval0
  have hW' := hW
  obtain ⟨p, q, hA0, hV0, rfl, hfz, hnd⟩ := hW
  have hA : DataW.TrodAll enc Tryd.prog W 0 (fun _ => true) true Tryd.f8.params.toList args.toList ds p := hA0
  rw [Tryd.params8] at hA hval
  obtain ⟨v0, vs0, d0, ds0, p0, q0, hargs, rfl, rfl, h0, r0⟩ := trodAll_cons hA
  obtain ⟨rfl, rfl, rfl⟩ := trodAll_nil r0
  obtain rfl : args = #[v0] := by cases args; simp_all
  have hV : DataW.TrodVars enc Tryd.prog W (fun _ => true) ["loop.example/g00072/impl.opWords"] gs q := hV0
  obtain ⟨gv0, rfl⟩ := vars1 hV
  have E0 := t10_at hL (by kernel_rfl)
  have E1 := opw_at hL (by kernel_rfl)
  have k0 := h0
  have lt0 : ∀ x ∈ p0, x.block < W.heap.size := by obtain ⟨m, hm⟩ := k0; exact DataW.trod_lt m _ _ _ hm
  obtain ⟨a0, len0, cap0, rfl⟩ := okWide_slice Tryd.underlying46 (hval 0 46 v0 rfl rfl)
  obtain ⟨fuel0, hfu0⟩ := h0
  have key0 : len0 ≤ maxLen ∧ ∃ XM : Nat → OpD, RwP OdW W a0 len0 XM := by
    rcases open_slice Tryd.underlying46 hfu0 with ⟨hcs, _⟩ | ⟨x, l, c, m, nn, D, Pl, hcs, _, hl, hm, hmm, _, hx⟩
    · simp [Value.cells] at hcs
      obtain ⟨rfl, rfl, rfl⟩ := hcs
      exact ⟨by simp [maxLen], fun _ => zOp, .inl rfl⟩
    · simp [Value.cells] at hcs
      obtain ⟨rfl, rfl, rfl⟩ := hcs
      have hlm : len0 ≤ m := by rw [hmm]; split <;> omega
      have ce : Tryd.prog.cellsOf 36 = 7 := by kernel_rfl
      have each : ∀ i, i < m → ∃ q : Array Value × OpD, (∀ j u, q.1[j]? = some u → W.cell? (x.add (i * 7 + j)) = some u) ∧ OdW W q.1 q.2 := by
        intro i hi
        obtain ⟨cs', h1, h2⟩ := hx i hi
        rw [ce] at h1
        obtain ⟨_, hlen, hcell⟩ := World.cells?_some h1
        obtain ⟨A, q, e, hn⟩ := op_row cs' hlen h2
        refine ⟨(A, q), fun j u hj => ?_, hn⟩
        have hj : A[j]? = some u := hj
        have hA : A.toList.length = 7 := by rw [← e]; exact hlen
        have hjl : j < 7 := by have := (Array.getElem?_eq_some_iff.1 hj).1; simp at hA; omega
        have e2 := hcell j hjl
        rw [add_add] at e2
        rw [e2, e]
        simpa using hj
      haveI : Inhabited (Array Value × OpD) := ⟨(#[], zOp)⟩
      obtain ⟨M, hM⟩ := choose_lt each
      refine ⟨Nat.le_trans hl hm, fun i => (M i).2, ?_⟩
      by_cases hz : len0 = 0
      · exact .inl hz
      · obtain ⟨b, off, spot⟩ := x
        have h00 := (hM 0 (by omega)).1 0 _ (op_id (hM 0 (by omega)).2)
        have hspot : spot = none := by
          have := World.cell?_spot h00
          simpa [Addr.add] using this
        subst hspot
        have hblk : b < W.heap.size := by
          have := World.block_lt_of_cell? W _ h00
          simpa [Addr.add] using this
        refine .inr ⟨b, off, fun i => (M i).1, rfl, ⟨hblk, fun i hi j u hj => ?_⟩, fun i hi => (hM i (by omega)).2⟩
        have e := (hM i (by omega)).1 j u hj
        rw [add_at, ← Nat.add_assoc] at e
        exact e
  obtain ⟨hmax0, f0, hsrc0⟩ := key0
  clear hA0 hval0 hL
  refine (lawScriptText a0 len0 cap0 f0 W ⟨E0, E1⟩ hmax0 hsrc0).mono fun e W' ⟨he, bel⟩ => ?_
  subst he
  exact ⟨_, rfl, _, _, _, [], _, _, hW', trodAll_mk1 (shut_bool Tryd.underlying4 _), (trodAll_cons_mk (Below.trod laidOut (by kernel_rfl) (of_decide_eq_true (by kernel_rfl)) k0 bel lt0) trodAll_mk0), Below.trodVars laidOut bel (by kernel_rfl) hV, bel.frame _, fun h => by cases h⟩
set_option maxRecDepth 100000 in
set_option maxHeartbeats 16000000 in
theorem closed : joinedFacts Tryd.prog 8 Tryd.f8 Rows.fnExactScriptTextSpec Rows.fnExactScriptTextRow = true := by
  unfold joinedFacts
  repeat rw [Bool.and_eq_true]
  repeat' apply And.intro
  all_goals as_aux_lemma => kernel_rfl
theorem over : Rows.fnExactScriptTextRow.holds Tryd.pinned (OpenSpec.ofChange Rows.fnExactScriptTextSpec) :=
  OpenClaim.holds_of_cond 8 Tryd.f8 rfl rfl rfl rfl rfl rfl rfl ⟨rfl, rfl, rfl, rfl, rfl⟩ rfl rfl rfl rfl rfl (by kernel_rfl) Tryd.func8 (by kernel_rfl)
    (of_decide_eq_true (by kernel_rfl)) (by unfold Func.isWrapper; first | (rw [if_pos (by decide +kernel)]; kernel_rfl) | (rw [if_neg (by decide +kernel)]; exact ⟨rfl, rfl⟩))
    (fun os started H enc _ F => by rw [OpenClaim.pre_eq_preRow]; exact lifted os started H enc F)
theorem wants : (#[46].all fun t => !Tryd.prog.wantsStandIn t) = true := by kernel_rfl
theorem plain (f : FuncId) (fn : Func) (hf : Tryd.pinned.checked.prog.funcNamed "loop.example/g00072/laws.FnExactScriptText" = some f) (hfn : Tryd.pinned.checked.prog.funcs[f]? = some fn) :
    true = Tryd.pinned.checked.prog.looks [] ∧ ∀ (j : Nat) t, fn.params[j]? = some t → Tryd.pinned.checked.prog.wantsStandIn t = false := by
  obtain rfl : f = 8 := Option.some.inj ((show Tryd.prog.funcNamed "loop.example/g00072/laws.FnExactScriptText" = some 8 by kernel_rfl).symm.trans hf) |>.symm
  obtain rfl : fn = Tryd.f8 := (Option.some.inj (Tryd.func8.symm.trans hfn)).symm
  refine ⟨by kernel_rfl, fun j t ht => ?_⟩
  rw [Tryd.params8] at ht
  have h := Array.all_eq_true'.1 wants t (Array.mem_of_getElem? ht)
  have h2 : Tryd.prog.wantsStandIn t = false := by simpa using h
  exact h2
end FnExactScriptTextRow
theorem fnExactScriptText_holds : Rows.FnExactScriptTextCardSaid :=
  Claim7.holds_tied_plain_at .later [] _ _ _ _ FnExactScriptTextRow.over (fun _ h => by cases h) (by kernel_rfl) (fun _ h => by cases h) fnExactScriptText_row_tie rfl ⟨rfl, rfl⟩ (by kernel_rfl) rfl FnExactScriptTextRow.plain (by kernel_rfl)
end Go.Proofs.YtddjiamollfplaaDoor

