/- For every list of what was heard and every plan the program answers HeardOwners as the specification does, every owner, in memory of its own, and changes nothing of the arguments; the library's tables of lowest bits stand as they are laid. -/
import Derived.Test.YtdahabbdhjgpdaaDoorRows
import Derived.Test.YtdahabbdhjgpdaaDoorCards
import Derived.Test.YtdahabbdhjgpdaaDoorTie
import Derived.Test.YtdahabbdhjgpdaaDoorF142
import Derived.Deep.DeepHandedRow
import Derived.OpenVars
import Derived.Test.YtdahabbdhjgpdaaDoorL16HeardOwners
import Derived.WalkKit
import Derived.ProofKit
import Derived.OpenShut
import Derived.ShutString
import Derived.ChangeOld
import Derived.ChangeSame
import Derived.Below
import Derived.Lib.SmallJoins
import Derived.Deep.SlicePairs
import Derived.Deep.Slices
import Derived.Deep.Strs
namespace Go.Proofs.YtdahabbdhjgpdaaDoor
open Go.ChangeShapes Go.WideShapes Go.ChangeAt Go.RowKit Go.Joins Go.Deep
open Go.ChangeMaps (open_string shut_string)
set_option linter.unusedVariables false
namespace FnExactHeardOwnersRow
theorem own : ownKnob Tryd.prog.godebug = none := by kernel_rfl
theorem laidOut : laidOutB Tryd.prog = true := by kernel_rfl
def ivOf (v : Value) : Int := match v with | .int _ z => z | _ => 0
theorem add_at (b off n : Nat) : (⟨b, off, none⟩ : Addr).add n = ⟨b, off + n, none⟩ := by
  unfold Addr.add
  split
  · next h => subst h; rfl
  · rfl
theorem fields2 {H : Type} {enc : TypeId × Value → H} {P : Program} {w : World} {base : Nat} {sp : Nat → Bool} {held : Bool} {t : TypeId} {f0 f1 : Field} {fuel : Nat} {cs : List Value} {x : DataW H × List MemPlace} (ht : P.underlying t = some (.struct #[f0, f1])) (h : DataW.trod enc P w base sp held fuel t cs = some x) :
    ∃ y0 y1 n, DataW.trod enc P w base sp held n f0.type ((cs.drop f0.offset).take (P.cellsOf f0.type)) = some y0 ∧ DataW.trod enc P w base sp held n f1.type ((cs.drop f1.offset).take (P.cellsOf f1.type)) = some y1 := by
  obtain ⟨xs, n, _, rfl, hl, hlen, hf⟩ := DataW.trod_struct ht h
  match xs, hlen with
  | [y0, y1], _ => exact ⟨y0, y1, n, by simpa using hf 0 f0 rfl, by simpa using hf 1 f1 rfl⟩
theorem fields3 {H : Type} {enc : TypeId × Value → H} {P : Program} {w : World} {base : Nat} {sp : Nat → Bool} {held : Bool} {t : TypeId} {f0 f1 f2 : Field} {fuel : Nat} {cs : List Value} {x : DataW H × List MemPlace} (ht : P.underlying t = some (.struct #[f0, f1, f2])) (h : DataW.trod enc P w base sp held fuel t cs = some x) :
    ∃ y0 y1 y2 n, DataW.trod enc P w base sp held n f0.type ((cs.drop f0.offset).take (P.cellsOf f0.type)) = some y0 ∧ DataW.trod enc P w base sp held n f1.type ((cs.drop f1.offset).take (P.cellsOf f1.type)) = some y1 ∧ DataW.trod enc P w base sp held n f2.type ((cs.drop f2.offset).take (P.cellsOf f2.type)) = some y2 := by
  obtain ⟨xs, n, _, rfl, hl, hlen, hf⟩ := DataW.trod_struct ht h
  match xs, hlen with
  | [y0, y1, y2], _ => exact ⟨y0, y1, y2, n, by simpa using hf 0 f0 rfl, by simpa using hf 1 f1 rfl, by simpa using hf 2 f2 rfl⟩
theorem array3 {α : Type} {cs : Array α} (h : cs.size = 3) : ∃ c0 c1 c2, cs = #[c0, c1, c2] := by
  obtain ⟨l⟩ := cs
  match l, h with
  | [c0, c1, c2], _ => exact ⟨c0, c1, c2, rfl⟩
set_option maxRecDepth 100000 in
theorem laid_met (os : Os) (args : Array Value) : laidMetH Tryd.prog Rows.fnExactHeardOwnersRow.laid ((laidWorld os).forCall (fun _ _ => 0) ⟨#[], args, []⟩).memory :=
  laidMetH_of_parts (laidMet_of_run' 8 (by kernel_rfl) (by kernel_rfl)) (by kernel_rfl)
set_option maxRecDepth 100000 in
theorem lifted (os : Os) (started : os.Started) (H : Type) (enc : TypeId × Value → H) (F : Stop.Interp) :
    ReturnsInHanded {} Tryd.checked os 7 .any ((OpenSpec.ofChange Rows.fnExactHeardOwnersSpec).preRow enc Tryd.prog Tryd.f7 Rows.fnExactHeardOwnersRow.domain false Rows.fnExactHeardOwnersRow.laid) (((OpenSpec.ofChange Rows.fnExactHeardOwnersSpec).at F).post enc Tryd.prog Tryd.f7 false true false false) := by
  refine returnsInHanded_of_row (C := Tryd.checked) (s := OpenSpec.ofChange Rows.fnExactHeardOwnersSpec) own started (by kernel_rfl) Tryd.func7
    (witness_row_at (enc := enc) (C := Tryd.checked) false (laidWorld os) #[.slice none 0 0, .agg #[.int .i64 0, .int .i64 0, .slice none 0 0]] rfl (by kernel_rfl) (by kernel_rfl) (by kernel_rfl)
      (OpenSpec.preRow_of_B rfl 8 (by kernel_rfl) (by kernel_rfl) (laid_met os _))) ?_
  intro W base args ds gs before hval0 hW _ _ _ hL _ _
  have hval : ∀ (j : Nat) t v, Tryd.f7.params[j]? = some t → args[j]? = some v → Value.okWide Tryd.prog W .any base t v := hval0
  have hW' := hW
  obtain ⟨p, q, hA0, hV0, rfl, hfz, hnd⟩ := hW
  have hA : DataW.TrodAll enc Tryd.prog W 0 (fun _ => true) true Tryd.f7.params.toList args.toList ds p := hA0
  rw [Tryd.params7] at hA hval
  obtain ⟨v0, vs0, d0, ds0, p0, q0, hargs, rfl, rfl, h0, r0⟩ := trodAll_cons hA
  obtain ⟨v1, vs1, d1, ds1, p1, q1, rfl, rfl, rfl, h1, r1⟩ := trodAll_cons r0
  obtain ⟨rfl, rfl, rfl⟩ := trodAll_nil r1
  obtain rfl : args = #[v0, v1] := by cases args; simp_all
  have hV : DataW.TrodVars enc Tryd.prog W (fun _ => true) [] gs q := hV0
  obtain ⟨rfl, rfl⟩ := trodVars_none hV
  have E0 := tb_at hL (by kernel_rfl)
  have k0 := h0
  have lt0 : ∀ x ∈ p0, x.block < W.heap.size := by obtain ⟨m, hm⟩ := k0; exact DataW.trod_lt m _ _ _ hm
  obtain ⟨a0, len0, cap0, rfl⟩ := okWide_slice Tryd.underlying46 (hval 0 46 v0 rfl rfl)
  obtain ⟨fuel0, hfu0⟩ := h0
  have key0 : len0 ≤ maxLen ∧ ∃ M : Nat → VT, SrcC W a0 (len0 * 2) (MFIval M) ∧ ∀ i, i < len0 → (Lit.int .i64 ((M i).1)).wf = true := by
    rcases open_slice Tryd.underlying46 hfu0 with ⟨hcs, _⟩ | ⟨x, l, c, m, nn, D, Pl, hcs, _, hl, hm, hmm, _, hx⟩
    · simp [Value.cells] at hcs
      obtain ⟨rfl, rfl, rfl⟩ := hcs
      exact ⟨by simp [maxLen], fun _ => zV, .inl (by omega), fun i hi => absurd hi (Nat.not_lt_zero _)⟩
    · simp [Value.cells] at hcs
      obtain ⟨rfl, rfl, rfl⟩ := hcs
      have hlm : len0 ≤ m := by rw [hmm]; split <;> omega
      have ce : Tryd.prog.cellsOf 97 = 2 := by kernel_rfl
      have ci : Tryd.prog.cellsOf 3 = 1 := by kernel_rfl
      have each : ∀ i, i < m → ∃ q : VT, (∀ j, j < 2 → W.cell? (x.add (i * 2 + j)) = some (MCIval q j)) ∧ (Lit.int .i64 (q.1)).wf = true := by
        intro i hi
        obtain ⟨cs', h1, h2⟩ := hx i hi
        rw [ce] at h1
        obtain ⟨_, hlen, hcell⟩ := World.cells?_some h1
        match cs', hlen, h2, hcell with
        | [c0, c1], _, h2, hcell =>
          obtain ⟨y0, y1, nf, t0, t1⟩ := fields2 Tryd.underlying97 h2
          simp [ci] at t0 t1
          obtain ⟨m0, em0, _, wm0⟩ := DataW.trod_int Tryd.underlying3 t0
          simp at em0
          subst em0
          obtain ⟨m1, em1, _, wm1⟩ := DataW.trod_int Tryd.underlying3 t1
          simp at em1
          subst em1
          refine ⟨(m0, m1), fun j hj => ?_, wm0⟩
          have e := hcell j (by omega)
          rw [add_add] at e
          rw [e]
          match j, hj with
          | 0, _ => rfl
          | 1, _ => rfl
      haveI : Inhabited VT := ⟨zV⟩
      obtain ⟨M, hM⟩ := choose_lt each
      refine ⟨Nat.le_trans hl hm, M, ?_, fun i hi => (hM i (by omega)).2⟩
      by_cases hz : len0 = 0
      · exact .inl (by omega)
      · obtain ⟨b, off, spot⟩ := x
        have h00 := (hM 0 (by omega)).1 0 (by decide)
        have hspot : spot = none := by
          have := World.cell?_spot h00
          simpa [Addr.add] using this
        subst hspot
        have hblk : b < W.heap.size := by
          have := World.block_lt_of_cell? W _ h00
          simpa [Addr.add] using this
        refine .inr ⟨b, off, rfl, hblk, fun j hj => ?_⟩
        have e := (hM (j / 2) (by omega)).1 (j % 2) (by omega)
        rw [show j / 2 * 2 + j % 2 = j by omega, add_at] at e
        exact e
  obtain ⟨hmax0, f0, hsrc0, hstr0⟩ := key0
  have k1 := h1
  have lt1 : ∀ x ∈ p1, x.block < W.heap.size := by obtain ⟨m, hm⟩ := k1; exact DataW.trod_lt m _ _ _ hm
  have ci1 : Tryd.prog.cellsOf 3 = 1 := by kernel_rfl
  have cl1 : Tryd.prog.cellsOf 47 = 1 := by kernel_rfl
  obtain ⟨cs1, rfl, hsz1⟩ := okWide_struct Tryd.underlying49 (hval 1 49 v1 rfl rfl)
  obtain ⟨xa1, xc1, xb1, rfl⟩ := array3 (hsz1.trans (show Tryd.prog.cellsOf 49 = 3 by kernel_rfl))
  obtain ⟨fu1, hf1⟩ := h1
  obtain ⟨y01, y11, y21, nn1, t01, t11, t21⟩ := fields3 Tryd.underlying49 hf1
  simp [Value.cells, ci1, cl1] at t01 t11 t21
  obtain ⟨ep1, eep1, _, wep1⟩ := DataW.trod_int Tryd.underlying3 t01
  simp at eep1
  subst eep1
  obtain ⟨us1, eus1, _, wus1⟩ := DataW.trod_int Tryd.underlying3 t11
  simp at eus1
  subst eus1
  obtain ⟨a1, len1, cap1, rfl⟩ : ∃ a l c, xb1 = .slice a l c := by
    rcases open_slice Tryd.underlying47 t21 with ⟨hcs, _⟩ | ⟨x, l, c, m, nn, D, Pl, hcs, _⟩
    · simp at hcs; exact ⟨_, _, _, hcs⟩
    · simp at hcs; exact ⟨_, _, _, hcs⟩
  have key1 : len1 ≤ maxLen ∧ ∃ M : Nat → SlT, SrcC W a1 (len1 * 2) (MFSlot M) ∧ ∀ i, i < len1 → (Lit.int .i64 ((M i).1)).wf = true := by
    rcases open_slice Tryd.underlying47 t21 with ⟨hcs, _⟩ | ⟨x, l, c, m, nn, D, Pl, hcs, _, hl, hm, hmm, _, hx⟩
    · simp at hcs
      obtain ⟨rfl, rfl, rfl⟩ := hcs
      exact ⟨by simp [maxLen], fun _ => zSl, .inl (by omega), fun i hi => absurd hi (Nat.not_lt_zero _)⟩
    · simp at hcs
      obtain ⟨rfl, rfl, rfl⟩ := hcs
      have hlm : len1 ≤ m := by rw [hmm]; split <;> omega
      have ce : Tryd.prog.cellsOf 116 = 2 := by kernel_rfl
      have ci : Tryd.prog.cellsOf 3 = 1 := by kernel_rfl
      have each : ∀ i, i < m → ∃ q : SlT, (∀ j, j < 2 → W.cell? (x.add (i * 2 + j)) = some (MCSlot q j)) ∧ (Lit.int .i64 (q.1)).wf = true := by
        intro i hi
        obtain ⟨cs', h1, h2⟩ := hx i hi
        rw [ce] at h1
        obtain ⟨_, hlen, hcell⟩ := World.cells?_some h1
        match cs', hlen, h2, hcell with
        | [c0, c1], _, h2, hcell =>
          obtain ⟨y0, y1, nf, t0, t1⟩ := fields2 Tryd.underlying116 h2
          simp [ci] at t0 t1
          obtain ⟨m0, em0, _, wm0⟩ := DataW.trod_int Tryd.underlying3 t0
          simp at em0
          subst em0
          obtain ⟨m1, em1, _, wm1⟩ := DataW.trod_int Tryd.underlying3 t1
          simp at em1
          subst em1
          refine ⟨(m0, m1), fun j hj => ?_, wm0⟩
          have e := hcell j (by omega)
          rw [add_add] at e
          rw [e]
          match j, hj with
          | 0, _ => rfl
          | 1, _ => rfl
      haveI : Inhabited SlT := ⟨zSl⟩
      obtain ⟨M, hM⟩ := choose_lt each
      refine ⟨Nat.le_trans hl hm, M, ?_, fun i hi => (hM i (by omega)).2⟩
      by_cases hz : len1 = 0
      · exact .inl (by omega)
      · obtain ⟨b, off, spot⟩ := x
        have h00 := (hM 0 (by omega)).1 0 (by decide)
        have hspot : spot = none := by
          have := World.cell?_spot h00
          simpa [Addr.add] using this
        subst hspot
        have hblk : b < W.heap.size := by
          have := World.block_lt_of_cell? W _ h00
          simpa [Addr.add] using this
        refine .inr ⟨b, off, rfl, hblk, fun j hj => ?_⟩
        have e := (hM (j / 2) (by omega)).1 (j % 2) (by omega)
        rw [show j / 2 * 2 + j % 2 = j by omega, add_at] at e
        exact e
  obtain ⟨hmax1, f1, hsrc1, hwf1⟩ := key1
  clear hA0 hval0 hL
  refine (lawHeardOwners a0 len0 cap0 f0 ep1 us1 a1 len1 cap1 f1 W E0 hmax0 hsrc0 hstr0 hmax1 hsrc1 hwf1).mono fun e W' ⟨he, bel⟩ => ?_
  subst he
  exact ⟨_, rfl, _, _, _, [], _, _, hW', trodAll_mk1 (shut_bool Tryd.underlying4 _), (trodAll_cons_mk (Below.trod laidOut (by kernel_rfl) (of_decide_eq_true (by kernel_rfl)) k0 bel lt0) (trodAll_cons_mk (Below.trod laidOut (by kernel_rfl) (of_decide_eq_true (by kernel_rfl)) k1 bel lt1) trodAll_mk0)), Below.trodVars laidOut bel (by kernel_rfl) hV, bel.frame _, fun h => by cases h⟩
theorem over : Rows.fnExactHeardOwnersRow.holds Tryd.pinned (OpenSpec.ofChange Rows.fnExactHeardOwnersSpec) :=
  OpenClaim.holds_of_cond 7 Tryd.f7 rfl rfl rfl rfl rfl rfl rfl ⟨rfl, rfl, rfl, rfl, rfl⟩ rfl rfl rfl rfl rfl (by kernel_rfl) Tryd.func7 (by kernel_rfl)
    (of_decide_eq_true (by kernel_rfl)) (by unfold Func.isWrapper; first | (rw [if_pos (by decide +kernel)]; kernel_rfl) | (rw [if_neg (by decide +kernel)]; exact ⟨rfl, rfl⟩))
    (fun os started H enc _ F => by rw [OpenClaim.pre_eq_preRow]; exact lifted os started H enc F)
theorem wants : (#[46, 49].all fun t => !Tryd.prog.wantsStandIn t) = true := by kernel_rfl
theorem plain (f : FuncId) (fn : Func) (hf : Tryd.pinned.checked.prog.funcNamed "loop.example/g00072/laws.FnExactHeardOwners" = some f) (hfn : Tryd.pinned.checked.prog.funcs[f]? = some fn) :
    false = Tryd.pinned.checked.prog.looks [] ∧ ∀ (j : Nat) t, fn.params[j]? = some t → Tryd.pinned.checked.prog.wantsStandIn t = false := by
  obtain rfl : f = 7 := Option.some.inj ((show Tryd.prog.funcNamed "loop.example/g00072/laws.FnExactHeardOwners" = some 7 by kernel_rfl).symm.trans hf) |>.symm
  obtain rfl : fn = Tryd.f7 := (Option.some.inj (Tryd.func7.symm.trans hfn)).symm
  refine ⟨by kernel_rfl, fun j t ht => ?_⟩
  rw [Tryd.params7] at ht
  have h := Array.all_eq_true'.1 wants t (Array.mem_of_getElem? ht)
  have h2 : Tryd.prog.wantsStandIn t = false := by simpa using h
  exact h2
end FnExactHeardOwnersRow
theorem fnExactHeardOwners_holds : Rows.FnExactHeardOwnersCardSaid :=
  Claim7.holds_tied_plain_at .later [] _ _ _ _ FnExactHeardOwnersRow.over (fun _ h => by cases h) (by kernel_rfl) (fun _ h => by cases h) fnExactHeardOwners_row_tie rfl ⟨rfl, rfl⟩ (by kernel_rfl) rfl FnExactHeardOwnersRow.plain (by kernel_rfl)
end Go.Proofs.YtdahabbdhjgpdaaDoor

