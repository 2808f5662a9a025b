/- For every interval, drift, plan and all numbers the program answers GateAsk as the specification does, and changes nothing of the plan; no condition. -/
import Derived.Test.YtcakhfobkbgfoaaDoorRows
import Derived.Test.YtcakhfobkbgfoaaDoorCards
import Derived.Test.YtcakhfobkbgfoaaDoorTie
import Derived.Test.YtcakhfobkbgfoaaDoorF142
import Derived.Deep.DeepHandedRow
import Derived.OpenVars
import Derived.Test.YtcakhfobkbgfoaaDoorL143
import Derived.WalkKit
import Derived.ProofKit
import Derived.OpenShut
import Derived.ShutString
import Derived.ChangeOld
import Derived.ChangeSame
import Derived.Below
import Derived.Lib.SmallJoins
import Derived.Deep.SlicePairs
import Derived.Deep.Slices
import Derived.Deep.Strs
namespace Go.Proofs.YtcakhfobkbgfoaaDoor
open Go.ChangeShapes Go.WideShapes Go.ChangeAt Go.RowKit Go.Joins Go.Deep
open Go.ChangeMaps (open_string shut_string)
set_option linter.unusedVariables false
namespace FnExactGateAskRow
theorem own : ownKnob Tryd.prog.godebug = none := by kernel_rfl
theorem laidOut : laidOutB Tryd.prog = true := by kernel_rfl
def ivOf (v : Value) : Int := match v with | .int _ z => z | _ => 0
theorem add_at (b off n : Nat) : (⟨b, off, none⟩ : Addr).add n = ⟨b, off + n, none⟩ := by
  unfold Addr.add
  split
  · next h => subst h; rfl
  · rfl
theorem fields2 {H : Type} {enc : TypeId × Value → H} {P : Program} {w : World} {base : Nat} {sp : Nat → Bool} {held : Bool} {t : TypeId} {f0 f1 : Field} {fuel : Nat} {cs : List Value} {x : DataW H × List MemPlace} (ht : P.underlying t = some (.struct #[f0, f1])) (h : DataW.trod enc P w base sp held fuel t cs = some x) :
    ∃ y0 y1 n, DataW.trod enc P w base sp held n f0.type ((cs.drop f0.offset).take (P.cellsOf f0.type)) = some y0 ∧ DataW.trod enc P w base sp held n f1.type ((cs.drop f1.offset).take (P.cellsOf f1.type)) = some y1 := by
  obtain ⟨xs, n, _, rfl, hl, hlen, hf⟩ := DataW.trod_struct ht h
  match xs, hlen with
  | [y0, y1], _ => exact ⟨y0, y1, n, by simpa using hf 0 f0 rfl, by simpa using hf 1 f1 rfl⟩
theorem fields3 {H : Type} {enc : TypeId × Value → H} {P : Program} {w : World} {base : Nat} {sp : Nat → Bool} {held : Bool} {t : TypeId} {f0 f1 f2 : Field} {fuel : Nat} {cs : List Value} {x : DataW H × List MemPlace} (ht : P.underlying t = some (.struct #[f0, f1, f2])) (h : DataW.trod enc P w base sp held fuel t cs = some x) :
    ∃ y0 y1 y2 n, DataW.trod enc P w base sp held n f0.type ((cs.drop f0.offset).take (P.cellsOf f0.type)) = some y0 ∧ DataW.trod enc P w base sp held n f1.type ((cs.drop f1.offset).take (P.cellsOf f1.type)) = some y1 ∧ DataW.trod enc P w base sp held n f2.type ((cs.drop f2.offset).take (P.cellsOf f2.type)) = some y2 := by
  obtain ⟨xs, n, _, rfl, hl, hlen, hf⟩ := DataW.trod_struct ht h
  match xs, hlen with
  | [y0, y1, y2], _ => exact ⟨y0, y1, y2, n, by simpa using hf 0 f0 rfl, by simpa using hf 1 f1 rfl, by simpa using hf 2 f2 rfl⟩
theorem array3 {α : Type} {cs : Array α} (h : cs.size = 3) : ∃ c0 c1 c2, cs = #[c0, c1, c2] := by
  obtain ⟨l⟩ := cs
  match l, h with
  | [c0, c1, c2], _ => exact ⟨c0, c1, c2, rfl⟩
set_option maxRecDepth 100000 in
theorem laid_met (os : Os) (args : Array Value) : laidMetH Tryd.prog Rows.fnExactGateAskRow.laid ((laidWorld os).forCall (fun _ _ => 0) ⟨#[], args, []⟩).memory :=
  laidMetH_of_parts (laidMet_of_run' 8 (by kernel_rfl) (by kernel_rfl)) (by kernel_rfl)
set_option maxRecDepth 100000 in
theorem lifted (os : Os) (started : os.Started) (H : Type) (enc : TypeId × Value → H) (F : Stop.Interp) :
    ReturnsInHanded {} Tryd.checked os 6 .any ((OpenSpec.ofChange Rows.fnExactGateAskSpec).preRow enc Tryd.prog Tryd.f6 Rows.fnExactGateAskRow.domain false Rows.fnExactGateAskRow.laid) (((OpenSpec.ofChange Rows.fnExactGateAskSpec).at F).post enc Tryd.prog Tryd.f6 false true false false) := by
  refine returnsInHanded_of_row (C := Tryd.checked) (s := OpenSpec.ofChange Rows.fnExactGateAskSpec) own started (by kernel_rfl) Tryd.func6
    (witness_row_at (enc := enc) (C := Tryd.checked) false (laidWorld os) #[.agg #[.int .i64 0, .int .i64 0], .bool false, .agg #[.int .i64 0, .int .i64 0], .int .i64 0, .agg #[.int .i64 0, .int .i64 0, .slice none 0 0], .int .i64 0] rfl (by kernel_rfl) (by kernel_rfl) (by kernel_rfl)
      (OpenSpec.preRow_of_B rfl 8 (by kernel_rfl) (by kernel_rfl) (laid_met os _))) ?_
  intro W base args ds gs before hval0 hW _ _ _ hL _ _
  have hval : ∀ (j : Nat) t v, Tryd.f6.params[j]? = some t → args[j]? = some v → Value.okWide Tryd.prog W .any base t v := hval0
  have hW' := hW
  obtain ⟨p, q, hA0, hV0, rfl, hfz, hnd⟩ := hW
  have hA : DataW.TrodAll enc Tryd.prog W 0 (fun _ => true) true Tryd.f6.params.toList args.toList ds p := hA0
  rw [Tryd.params6] at hA hval
  obtain ⟨v0, vs0, d0, ds0, p0, q0, hargs, rfl, rfl, h0, r0⟩ := trodAll_cons hA
  obtain ⟨v1, vs1, d1, ds1, p1, q1, rfl, rfl, rfl, h1, r1⟩ := trodAll_cons r0
  obtain ⟨v2, vs2, d2, ds2, p2, q2, rfl, rfl, rfl, h2, r2⟩ := trodAll_cons r1
  obtain ⟨v3, vs3, d3, ds3, p3, q3, rfl, rfl, rfl, h3, r3⟩ := trodAll_cons r2
  obtain ⟨v4, vs4, d4, ds4, p4, q4, rfl, rfl, rfl, h4, r4⟩ := trodAll_cons r3
  obtain ⟨v5, vs5, d5, ds5, p5, q5, rfl, rfl, rfl, h5, r5⟩ := trodAll_cons r4
  obtain ⟨rfl, rfl, rfl⟩ := trodAll_nil r5
  obtain rfl : args = #[v0, v1, v2, v3, v4, v5] := by cases args; simp_all
  have hV : DataW.TrodVars enc Tryd.prog W (fun _ => true) ["loop.example/g00072/impl.errNoIval", "loop.example/g00072/impl.errNoPlan", "loop.example/g00072/impl.errNoNode", "loop.example/g00072/impl.errNoDrift", "loop.example/g00072/impl.errNoLong", "loop.example/g00072/impl.errUnknown", "loop.example/g00072/impl.errOutside", "loop.example/g00072/impl.errBeyond"] gs q := hV0
  obtain ⟨gv0, gv1, gv2, gv3, gv4, gv5, gv6, gv7, rfl⟩ := vars8 hV
  have E0 := errorType_at hL (by kernel_rfl)
  have E1 := errNoIval_er hL (by kernel_rfl)
  have E2 := errNoDrift_er hL (by kernel_rfl)
  have E3 := errNoLong_er hL (by kernel_rfl)
  have E4 := errNoPlan_er hL (by kernel_rfl)
  have E5 := errNoNode_er hL (by kernel_rfl)
  have E6 := errUnknown_er hL (by kernel_rfl)
  have E7 := errBeyond_er hL (by kernel_rfl)
  have E8 := errOutside_er hL (by kernel_rfl)
  have k0 := h0
  have lt0 : ∀ x ∈ p0, x.block < W.heap.size := by obtain ⟨m, hm⟩ := k0; exact DataW.trod_lt m _ _ _ hm
  obtain ⟨c0, e0, y0, z0, m0, rfl, g0, gp0, hy0, hz0⟩ := open_agg2 Tryd.underlying45 (by kernel_rfl) (show Tryd.prog.cellsOf 45 = 2 by kernel_rfl) (hval 0 45 v0 rfl rfl) h0
  obtain ⟨a0, ea0, ya0, wa0⟩ := DataW.trod_int Tryd.underlying3 hy0
  obtain ⟨b0, eb0, yb0, wb0⟩ := DataW.trod_int Tryd.underlying3 hz0
  simp at ea0 eb0
  subst ea0 eb0
  obtain ⟨bo1, rfl, rfl, rfl⟩ := open_bool Tryd.underlying4 (hval 1 4 v1 rfl rfl) h1
  have k2 := h2
  have lt2 : ∀ x ∈ p2, x.block < W.heap.size := by obtain ⟨m, hm⟩ := k2; exact DataW.trod_lt m _ _ _ hm
  obtain ⟨c2, e2, y2, z2, m2, rfl, g2, gp2, hy2, hz2⟩ := open_agg2 Tryd.underlying46 (by kernel_rfl) (show Tryd.prog.cellsOf 46 = 2 by kernel_rfl) (hval 2 46 v2 rfl rfl) h2
  obtain ⟨a2, ea2, ya2, wa2⟩ := DataW.trod_int Tryd.underlying3 hy2
  obtain ⟨b2, eb2, yb2, wb2⟩ := DataW.trod_int Tryd.underlying3 hz2
  simp at ea2 eb2
  subst ea2 eb2
  obtain ⟨a3, rfl, rfl, rfl, w3⟩ := open_int Tryd.underlying3 (hval 3 3 v3 rfl rfl) h3
  have k4 := h4
  have lt4 : ∀ x ∈ p4, x.block < W.heap.size := by obtain ⟨m, hm⟩ := k4; exact DataW.trod_lt m _ _ _ hm
  have ci4 : Tryd.prog.cellsOf 3 = 1 := by kernel_rfl
  have cl4 : Tryd.prog.cellsOf 51 = 1 := by kernel_rfl
  obtain ⟨cs4, rfl, hsz4⟩ := okWide_struct Tryd.underlying53 (hval 4 53 v4 rfl rfl)
  obtain ⟨xa4, xc4, xb4, rfl⟩ := array3 (hsz4.trans (show Tryd.prog.cellsOf 53 = 3 by kernel_rfl))
  obtain ⟨fu4, hf4⟩ := h4
  obtain ⟨y04, y14, y24, nn4, t04, t14, t24⟩ := fields3 Tryd.underlying53 hf4
  simp [Value.cells, ci4, cl4] at t04 t14 t24
  obtain ⟨ep4, eep4, _, wep4⟩ := DataW.trod_int Tryd.underlying3 t04
  simp at eep4
  subst eep4
  obtain ⟨us4, eus4, _, wus4⟩ := DataW.trod_int Tryd.underlying3 t14
  simp at eus4
  subst eus4
  obtain ⟨a4, len4, cap4, rfl⟩ : ∃ a l c, xb4 = .slice a l c := by
    rcases open_slice Tryd.underlying51 t24 with ⟨hcs, _⟩ | ⟨x, l, c, m, nn, D, Pl, hcs, _⟩
    · simp at hcs; exact ⟨_, _, _, hcs⟩
    · simp at hcs; exact ⟨_, _, _, hcs⟩
  have key4 : len4 ≤ maxLen ∧ ∃ M : Nat → SlT, SrcC W a4 (len4 * 2) (MFSlot M) ∧ ∀ i, i < len4 → (Lit.int .i64 ((M i).1)).wf = true := by
    rcases open_slice Tryd.underlying51 t24 with ⟨hcs, _⟩ | ⟨x, l, c, m, nn, D, Pl, hcs, _, hl, hm, hmm, _, hx⟩
    · simp at hcs
      obtain ⟨rfl, rfl, rfl⟩ := hcs
      exact ⟨by simp [maxLen], fun _ => zSl, .inl (by omega), fun i hi => absurd hi (Nat.not_lt_zero _)⟩
    · simp at hcs
      obtain ⟨rfl, rfl, rfl⟩ := hcs
      have hlm : len4 ≤ m := by rw [hmm]; split <;> omega
      have ce : Tryd.prog.cellsOf 142 = 2 := by kernel_rfl
      have ci : Tryd.prog.cellsOf 3 = 1 := by kernel_rfl
      have each : ∀ i, i < m → ∃ q : SlT, (∀ j, j < 2 → W.cell? (x.add (i * 2 + j)) = some (MCSlot q j)) ∧ (Lit.int .i64 (q.1)).wf = true := by
        intro i hi
        obtain ⟨cs', h1, h2⟩ := hx i hi
        rw [ce] at h1
        obtain ⟨_, hlen, hcell⟩ := World.cells?_some h1
        match cs', hlen, h2, hcell with
        | [c0, c1], _, h2, hcell =>
          obtain ⟨y0, y1, nf, t0, t1⟩ := fields2 Tryd.underlying142 h2
          simp [ci] at t0 t1
          obtain ⟨m0, em0, _, wm0⟩ := DataW.trod_int Tryd.underlying3 t0
          simp at em0
          subst em0
          obtain ⟨m1, em1, _, wm1⟩ := DataW.trod_int Tryd.underlying3 t1
          simp at em1
          subst em1
          refine ⟨(m0, m1), fun j hj => ?_, wm0⟩
          have e := hcell j (by omega)
          rw [add_add] at e
          rw [e]
          match j, hj with
          | 0, _ => rfl
          | 1, _ => rfl
      haveI : Inhabited SlT := ⟨zSl⟩
      obtain ⟨M, hM⟩ := choose_lt each
      refine ⟨Nat.le_trans hl hm, M, ?_, fun i hi => (hM i (by omega)).2⟩
      by_cases hz : len4 = 0
      · exact .inl (by omega)
      · obtain ⟨b, off, spot⟩ := x
        have h00 := (hM 0 (by omega)).1 0 (by decide)
        have hspot : spot = none := by
          have := World.cell?_spot h00
          simpa [Addr.add] using this
        subst hspot
        have hblk : b < W.heap.size := by
          have := World.block_lt_of_cell? W _ h00
          simpa [Addr.add] using this
        refine .inr ⟨b, off, rfl, hblk, fun j hj => ?_⟩
        have e := (hM (j / 2) (by omega)).1 (j % 2) (by omega)
        rw [show j / 2 * 2 + j % 2 = j by omega, add_at] at e
        exact e
  obtain ⟨hmax4, f4, hsrc4, hwf4⟩ := key4
  obtain ⟨a5, rfl, rfl, rfl, w5⟩ := open_int Tryd.underlying3 (hval 5 3 v5 rfl rfl) h5
  clear hA0 hval0 hL
  refine (lawGateAsk a0 b0 bo1 a2 b2 a3 ep4 us4 a4 len4 cap4 f4 a5 W ⟨E0, E1, E2, E3, E4, E5, E6, E7, E8⟩ wa0 wb0 wa2 wb2 w3 hmax4 hsrc4 hwf4 w5).mono fun e W' ⟨he, bel⟩ => ?_
  subst he
  exact ⟨_, rfl, _, _, _, [], _, _, hW', trodAll_mk1 (shut_bool Tryd.underlying4 _), (trodAll_cons_mk (Below.trod laidOut (by kernel_rfl) (of_decide_eq_true (by kernel_rfl)) k0 bel lt0) (trodAll_cons_mk (shut_bool Tryd.underlying4 bo1) (trodAll_cons_mk (Below.trod laidOut (by kernel_rfl) (of_decide_eq_true (by kernel_rfl)) k2 bel lt2) (trodAll_cons_mk (shut_int Tryd.underlying3 w3) (trodAll_cons_mk (Below.trod laidOut (by kernel_rfl) (of_decide_eq_true (by kernel_rfl)) k4 bel lt4) (trodAll_cons_mk (shut_int Tryd.underlying3 w5) trodAll_mk0)))))), Below.trodVars laidOut bel (by kernel_rfl) hV, bel.frame _, fun h => by cases h⟩
theorem over : Rows.fnExactGateAskRow.holds Tryd.pinned (OpenSpec.ofChange Rows.fnExactGateAskSpec) :=
  OpenClaim.holds_of_cond 6 Tryd.f6 rfl rfl rfl rfl rfl rfl rfl ⟨rfl, rfl, rfl, rfl, rfl⟩ rfl rfl rfl rfl rfl (by kernel_rfl) Tryd.func6 (by kernel_rfl)
    (of_decide_eq_true (by kernel_rfl)) (by unfold Func.isWrapper; first | (rw [if_pos (by decide +kernel)]; kernel_rfl) | (rw [if_neg (by decide +kernel)]; exact ⟨rfl, rfl⟩))
    (fun os started H enc _ F => by rw [OpenClaim.pre_eq_preRow]; exact lifted os started H enc F)
theorem wants : (#[45, 4, 46, 3, 53, 3].all fun t => !Tryd.prog.wantsStandIn t) = true := by kernel_rfl
theorem plain (f : FuncId) (fn : Func) (hf : Tryd.pinned.checked.prog.funcNamed "loop.example/g00072/laws.FnExactGateAsk" = some f) (hfn : Tryd.pinned.checked.prog.funcs[f]? = some fn) :
    true = Tryd.pinned.checked.prog.looks [] ∧ ∀ (j : Nat) t, fn.params[j]? = some t → Tryd.pinned.checked.prog.wantsStandIn t = false := by
  obtain rfl : f = 6 := Option.some.inj ((show Tryd.prog.funcNamed "loop.example/g00072/laws.FnExactGateAsk" = some 6 by kernel_rfl).symm.trans hf) |>.symm
  obtain rfl : fn = Tryd.f6 := (Option.some.inj (Tryd.func6.symm.trans hfn)).symm
  refine ⟨by kernel_rfl, fun j t ht => ?_⟩
  rw [Tryd.params6] at ht
  have h := Array.all_eq_true'.1 wants t (Array.mem_of_getElem? ht)
  have h2 : Tryd.prog.wantsStandIn t = false := by simpa using h
  exact h2
end FnExactGateAskRow
theorem fnExactGateAsk_holds : Rows.FnExactGateAskCardSaid :=
  Claim7.holds_tied_plain_at .later [] _ _ _ _ FnExactGateAskRow.over (fun _ h => by cases h) (by kernel_rfl) (fun _ h => by cases h) fnExactGateAsk_row_tie rfl ⟨rfl, rfl⟩ (by kernel_rfl) rfl FnExactGateAskRow.plain (by kernel_rfl)
end Go.Proofs.YtcakhfobkbgfoaaDoor

