/- For every list of what was heard, plan, message and count the program answers Hear as the specification does, every field, in memory of its own, and changes nothing of the arguments; no condition. -/
import Derived.Test.YtdahabbdhjgpdaaRows
import Derived.Test.YtdahabbdhjgpdaaL16Hear
import Derived.WalkKit
import Derived.ProofKit
import Derived.OpenShut
import Derived.ShutString
import Derived.ChangeOld
import Derived.ChangeSame
import Derived.Below
import Derived.Lib.SmallJoins
import Derived.Deep.SlicePairs
import Derived.Deep.Slices
import Derived.Deep.Strs
namespace Go.Proofs.Ytdahabbdhjgpdaa
open Go.ChangeShapes Go.WideShapes Go.ChangeAt Go.RowKit Go.Joins Go.Deep
open Go.ChangeMaps (open_string shut_string)
set_option linter.unusedVariables false
namespace FnExactHearRow
theorem own : ownKnob Try.prog.godebug = none := by kernel_rfl
theorem laidOut : laidOutB Try.prog = true := by kernel_rfl
def ivOf (v : Value) : Int := match v with | .int _ z => z | _ => 0
theorem add_at (b off n : Nat) : (⟨b, off, none⟩ : Addr).add n = ⟨b, off + n, none⟩ := by
  unfold Addr.add
  split
  · next h => subst h; rfl
  · rfl
theorem array8 {α : Type} {cs : Array α} (h : cs.size = 8) : ∃ c0 c1 c2 c3 c4 c5 c6 c7, cs = #[c0, c1, c2, c3, c4, c5, c6, c7] := by
  obtain ⟨l⟩ := cs
  match l, h with
  | [c0, c1, c2, c3, c4, c5, c6, c7], _ => exact ⟨c0, c1, c2, c3, c4, c5, c6, c7, rfl⟩
theorem struct7 {H : Type} {enc : TypeId × Value → H} {P : Program} {w : World} {base : Nat} {sp : Nat → Bool} {held : Bool} {t : TypeId} {f0 f1 f2 f3 f4 f5 f6 : Field} {fuel : Nat} {cs : List Value} {x : DataW H × List MemPlace} (ht : P.underlying t = some (.struct #[f0, f1, f2, f3, f4, f5, f6])) (h : DataW.trod enc P w base sp held fuel t cs = some x) :
    ∃ y0 y1 y2 y3 y4 y5 y6 n, DataW.trod enc P w base sp held n f0.type ((cs.drop f0.offset).take (P.cellsOf f0.type)) = some y0 ∧ DataW.trod enc P w base sp held n f1.type ((cs.drop f1.offset).take (P.cellsOf f1.type)) = some y1 ∧
      DataW.trod enc P w base sp held n f2.type ((cs.drop f2.offset).take (P.cellsOf f2.type)) = some y2 ∧ DataW.trod enc P w base sp held n f3.type ((cs.drop f3.offset).take (P.cellsOf f3.type)) = some y3 ∧
      DataW.trod enc P w base sp held n f4.type ((cs.drop f4.offset).take (P.cellsOf f4.type)) = some y4 ∧ DataW.trod enc P w base sp held n f5.type ((cs.drop f5.offset).take (P.cellsOf f5.type)) = some y5 ∧ DataW.trod enc P w base sp held n f6.type ((cs.drop f6.offset).take (P.cellsOf f6.type)) = some y6 := by
  obtain ⟨xs, n, _, rfl, hl, hlen, hf⟩ := DataW.trod_struct ht h
  match xs, hlen with
  | [y0, y1, y2, y3, y4, y5, y6], _ => exact ⟨y0, y1, y2, y3, y4, y5, y6, n, by simpa using hf 0 f0 rfl, by simpa using hf 1 f1 rfl, by simpa using hf 2 f2 rfl, by simpa using hf 3 f3 rfl, by simpa using hf 4 f4 rfl, by simpa using hf 5 f5 rfl, by simpa using hf 6 f6 rfl⟩
theorem fields2 {H : Type} {enc : TypeId × Value → H} {P : Program} {w : World} {base : Nat} {sp : Nat → Bool} {held : Bool} {t : TypeId} {f0 f1 : Field} {fuel : Nat} {cs : List Value} {x : DataW H × List MemPlace} (ht : P.underlying t = some (.struct #[f0, f1])) (h : DataW.trod enc P w base sp held fuel t cs = some x) :
    ∃ y0 y1 n, DataW.trod enc P w base sp held n f0.type ((cs.drop f0.offset).take (P.cellsOf f0.type)) = some y0 ∧ DataW.trod enc P w base sp held n f1.type ((cs.drop f1.offset).take (P.cellsOf f1.type)) = some y1 := by
  obtain ⟨xs, n, _, rfl, hl, hlen, hf⟩ := DataW.trod_struct ht h
  match xs, hlen with
  | [y0, y1], _ => exact ⟨y0, y1, n, by simpa using hf 0 f0 rfl, by simpa using hf 1 f1 rfl⟩
theorem fields3 {H : Type} {enc : TypeId × Value → H} {P : Program} {w : World} {base : Nat} {sp : Nat → Bool} {held : Bool} {t : TypeId} {f0 f1 f2 : Field} {fuel : Nat} {cs : List Value} {x : DataW H × List MemPlace} (ht : P.underlying t = some (.struct #[f0, f1, f2])) (h : DataW.trod enc P w base sp held fuel t cs = some x) :
    ∃ y0 y1 y2 n, DataW.trod enc P w base sp held n f0.type ((cs.drop f0.offset).take (P.cellsOf f0.type)) = some y0 ∧ DataW.trod enc P w base sp held n f1.type ((cs.drop f1.offset).take (P.cellsOf f1.type)) = some y1 ∧ DataW.trod enc P w base sp held n f2.type ((cs.drop f2.offset).take (P.cellsOf f2.type)) = some y2 := by
  obtain ⟨xs, n, _, rfl, hl, hlen, hf⟩ := DataW.trod_struct ht h
  match xs, hlen with
  | [y0, y1, y2], _ => exact ⟨y0, y1, y2, n, by simpa using hf 0 f0 rfl, by simpa using hf 1 f1 rfl, by simpa using hf 2 f2 rfl⟩
theorem array3 {α : Type} {cs : Array α} (h : cs.size = 3) : ∃ c0 c1 c2, cs = #[c0, c1, c2] := by
  obtain ⟨l⟩ := cs
  match l, h with
  | [c0, c1, c2], _ => exact ⟨c0, c1, c2, rfl⟩
set_option maxRecDepth 100000 in
theorem lifted (os : Os) (started : os.Started) (H : Type) (enc : TypeId × Value → H) :
    ReturnsInHanded {} Try.checked os 4 .any (Rows.fnExactHearSpec.pre6 enc Try.prog Try.f4 Rows.fnExactHearRow.domain false) (Rows.fnExactHearSpec.post enc Try.prog Try.f4 false true false false) := by
  refine returnsInHanded_of_change (C := Try.checked) own started (by kernel_rfl) Try.func4
    (ChangeSpec.witness6 (enc := enc) (C := Try.checked) false ⟨#[], #[.slice none 0 0, .agg #[.int .i64 0, .int .i64 0, .slice none 0 0], .agg #[.int .i64 0, .int .i64 0, .int .i64 0, .int .i64 0, .int .i64 0, .int .i64 0, .int .i64 0, .string ⟨#[]⟩], .int .i64 0], []⟩ 8 (by kernel_rfl) (by kernel_rfl) (by kernel_rfl) (by kernel_rfl)) ?_
  intro W base args ds gs before hval0 hW hcnd _
  have hval : ∀ (j : Nat) t v, Try.f4.params[j]? = some t → args[j]? = some v → Value.okWide Try.prog W .any base t v := hval0
  have hW' := hW
  obtain ⟨p, q, hA0, hV, rfl, hfz, hnd⟩ := hW
  have hA : DataW.TrodAll enc Try.prog W 0 (fun _ => true) true Try.f4.params.toList args.toList ds p := hA0
  rw [Try.params4] at hA hval
  obtain ⟨v0, vs0, d0, ds0, p0, q0, hargs, rfl, rfl, h0, r0⟩ := trodAll_cons hA
  obtain ⟨v1, vs1, d1, ds1, p1, q1, rfl, rfl, rfl, h1, r1⟩ := trodAll_cons r0
  obtain ⟨v2, vs2, d2, ds2, p2, q2, rfl, rfl, rfl, h2, r2⟩ := trodAll_cons r1
  obtain ⟨v3, vs3, d3, ds3, p3, q3, rfl, rfl, rfl, h3, r3⟩ := trodAll_cons r2
  obtain ⟨rfl, rfl, rfl⟩ := trodAll_nil r3
  obtain rfl : args = #[v0, v1, v2, v3] := by cases args; simp_all
  obtain ⟨rfl, rfl⟩ := trodVars_none hV
  have k0 := h0
  have lt0 : ∀ x ∈ p0, x.block < W.heap.size := by obtain ⟨m, hm⟩ := k0; exact DataW.trod_lt m _ _ _ hm
  obtain ⟨a0, len0, cap0, rfl⟩ := okWide_slice Try.underlying22 (hval 0 22 v0 rfl rfl)
  obtain ⟨fuel0, hfu0⟩ := h0
  have key0 : len0 ≤ maxLen ∧ ∃ M : Nat → VT, SrcC W a0 (len0 * 2) (MFIval M) ∧ ∀ i, i < len0 → (Lit.int .i64 ((M i).1)).wf = true := by
    rcases open_slice Try.underlying22 hfu0 with ⟨hcs, _⟩ | ⟨x, l, c, m, nn, D, Pl, hcs, _, hl, hm, hmm, _, hx⟩
    · simp [Value.cells] at hcs
      obtain ⟨rfl, rfl, rfl⟩ := hcs
      exact ⟨by simp [maxLen], fun _ => zV, .inl (by omega), fun i hi => absurd hi (Nat.not_lt_zero _)⟩
    · simp [Value.cells] at hcs
      obtain ⟨rfl, rfl, rfl⟩ := hcs
      have hlm : len0 ≤ m := by rw [hmm]; split <;> omega
      have ce : Try.prog.cellsOf 57 = 2 := by kernel_rfl
      have ci : Try.prog.cellsOf 3 = 1 := by kernel_rfl
      have each : ∀ i, i < m → ∃ q : VT, (∀ j, j < 2 → W.cell? (x.add (i * 2 + j)) = some (MCIval q j)) ∧ (Lit.int .i64 (q.1)).wf = true := by
        intro i hi
        obtain ⟨cs', h1, h2⟩ := hx i hi
        rw [ce] at h1
        obtain ⟨_, hlen, hcell⟩ := World.cells?_some h1
        match cs', hlen, h2, hcell with
        | [c0, c1], _, h2, hcell =>
          obtain ⟨y0, y1, nf, t0, t1⟩ := fields2 Try.underlying57 h2
          simp [ci] at t0 t1
          obtain ⟨m0, em0, _, wm0⟩ := DataW.trod_int Try.underlying3 t0
          simp at em0
          subst em0
          obtain ⟨m1, em1, _, wm1⟩ := DataW.trod_int Try.underlying3 t1
          simp at em1
          subst em1
          refine ⟨(m0, m1), fun j hj => ?_, wm0⟩
          have e := hcell j (by omega)
          rw [add_add] at e
          rw [e]
          match j, hj with
          | 0, _ => rfl
          | 1, _ => rfl
      haveI : Inhabited VT := ⟨zV⟩
      obtain ⟨M, hM⟩ := choose_lt each
      refine ⟨Nat.le_trans hl hm, M, ?_, fun i hi => (hM i (by omega)).2⟩
      by_cases hz : len0 = 0
      · exact .inl (by omega)
      · obtain ⟨b, off, spot⟩ := x
        have h00 := (hM 0 (by omega)).1 0 (by decide)
        have hspot : spot = none := by
          have := World.cell?_spot h00
          simpa [Addr.add] using this
        subst hspot
        have hblk : b < W.heap.size := by
          have := World.block_lt_of_cell? W _ h00
          simpa [Addr.add] using this
        refine .inr ⟨b, off, rfl, hblk, fun j hj => ?_⟩
        have e := (hM (j / 2) (by omega)).1 (j % 2) (by omega)
        rw [show j / 2 * 2 + j % 2 = j by omega, add_at] at e
        exact e
  obtain ⟨hmax0, f0, hsrc0, hstr0⟩ := key0
  have k1 := h1
  have lt1 : ∀ x ∈ p1, x.block < W.heap.size := by obtain ⟨m, hm⟩ := k1; exact DataW.trod_lt m _ _ _ hm
  have ci1 : Try.prog.cellsOf 3 = 1 := by kernel_rfl
  have cl1 : Try.prog.cellsOf 29 = 1 := by kernel_rfl
  obtain ⟨cs1, rfl, hsz1⟩ := okWide_struct Try.underlying31 (hval 1 31 v1 rfl rfl)
  obtain ⟨xa1, xc1, xb1, rfl⟩ := array3 (hsz1.trans (show Try.prog.cellsOf 31 = 3 by kernel_rfl))
  obtain ⟨fu1, hf1⟩ := h1
  obtain ⟨y01, y11, y21, nn1, t01, t11, t21⟩ := fields3 Try.underlying31 hf1
  simp [Value.cells, ci1, cl1] at t01 t11 t21
  obtain ⟨ep1, eep1, _, wep1⟩ := DataW.trod_int Try.underlying3 t01
  simp at eep1
  subst eep1
  obtain ⟨us1, eus1, _, wus1⟩ := DataW.trod_int Try.underlying3 t11
  simp at eus1
  subst eus1
  obtain ⟨a1, len1, cap1, rfl⟩ : ∃ a l c, xb1 = .slice a l c := by
    rcases open_slice Try.underlying29 t21 with ⟨hcs, _⟩ | ⟨x, l, c, m, nn, D, Pl, hcs, _⟩
    · simp at hcs; exact ⟨_, _, _, hcs⟩
    · simp at hcs; exact ⟨_, _, _, hcs⟩
  have key1 : len1 ≤ maxLen ∧ ∃ M : Nat → SlT, SrcC W a1 (len1 * 2) (MFSlot M) ∧ ∀ i, i < len1 → (Lit.int .i64 ((M i).1)).wf = true := by
    rcases open_slice Try.underlying29 t21 with ⟨hcs, _⟩ | ⟨x, l, c, m, nn, D, Pl, hcs, _, hl, hm, hmm, _, hx⟩
    · simp at hcs
      obtain ⟨rfl, rfl, rfl⟩ := hcs
      exact ⟨by simp [maxLen], fun _ => zSl, .inl (by omega), fun i hi => absurd hi (Nat.not_lt_zero _)⟩
    · simp at hcs
      obtain ⟨rfl, rfl, rfl⟩ := hcs
      have hlm : len1 ≤ m := by rw [hmm]; split <;> omega
      have ce : Try.prog.cellsOf 73 = 2 := by kernel_rfl
      have ci : Try.prog.cellsOf 3 = 1 := by kernel_rfl
      have each : ∀ i, i < m → ∃ q : SlT, (∀ j, j < 2 → W.cell? (x.add (i * 2 + j)) = some (MCSlot q j)) ∧ (Lit.int .i64 (q.1)).wf = true := by
        intro i hi
        obtain ⟨cs', h1, h2⟩ := hx i hi
        rw [ce] at h1
        obtain ⟨_, hlen, hcell⟩ := World.cells?_some h1
        match cs', hlen, h2, hcell with
        | [c0, c1], _, h2, hcell =>
          obtain ⟨y0, y1, nf, t0, t1⟩ := fields2 Try.underlying73 h2
          simp [ci] at t0 t1
          obtain ⟨m0, em0, _, wm0⟩ := DataW.trod_int Try.underlying3 t0
          simp at em0
          subst em0
          obtain ⟨m1, em1, _, wm1⟩ := DataW.trod_int Try.underlying3 t1
          simp at em1
          subst em1
          refine ⟨(m0, m1), fun j hj => ?_, wm0⟩
          have e := hcell j (by omega)
          rw [add_add] at e
          rw [e]
          match j, hj with
          | 0, _ => rfl
          | 1, _ => rfl
      haveI : Inhabited SlT := ⟨zSl⟩
      obtain ⟨M, hM⟩ := choose_lt each
      refine ⟨Nat.le_trans hl hm, M, ?_, fun i hi => (hM i (by omega)).2⟩
      by_cases hz : len1 = 0
      · exact .inl (by omega)
      · obtain ⟨b, off, spot⟩ := x
        have h00 := (hM 0 (by omega)).1 0 (by decide)
        have hspot : spot = none := by
          have := World.cell?_spot h00
          simpa [Addr.add] using this
        subst hspot
        have hblk : b < W.heap.size := by
          have := World.block_lt_of_cell? W _ h00
          simpa [Addr.add] using this
        refine .inr ⟨b, off, rfl, hblk, fun j hj => ?_⟩
        have e := (hM (j / 2) (by omega)).1 (j % 2) (by omega)
        rw [show j / 2 * 2 + j % 2 = j by omega, add_at] at e
        exact e
  obtain ⟨hmax1, f1, hsrc1, hwf1⟩ := key1
  have k2 := h2
  have lt2 : ∀ x ∈ p2, x.block < W.heap.size := by obtain ⟨m, hm⟩ := k2; exact DataW.trod_lt m _ _ _ hm
  have cd2 : Try.prog.cellsOf 33 = 2 := by kernel_rfl
  have ci2 : Try.prog.cellsOf 3 = 1 := by kernel_rfl
  have cs2 : Try.prog.cellsOf 9 = 1 := by kernel_rfl
  obtain ⟨vs2, rfl, hsz2⟩ := okWide_struct Try.underlying35 (hval 2 35 v2 rfl rfl)
  obtain ⟨xa2, xb2, xc2, xd2, xe2, xf2, xg2, xs2, rfl⟩ := array8 (hsz2.trans (show Try.prog.cellsOf 35 = 8 by kernel_rfl))
  obtain ⟨fu2, hf2⟩ := h2
  obtain ⟨y02, y12, y22, y32, y42, y52, y62, nn2, t02, t12, t22, t32, t42, t52, t62⟩ := struct7 Try.underlying35 hf2
  simp [Value.cells, cd2, ci2, cs2] at t02 t12 t22 t32 t42 t52 t62
  obtain ⟨za2, zb2, nm2, _, _, ua2, ub2⟩ := trod_struct2 Try.underlying33 t42
  simp [ci2] at ua2 ub2
  obtain ⟨ma2, ema2, _, wma2⟩ := DataW.trod_int Try.underlying3 t02
  simp at ema2
  subst ema2
  obtain ⟨mb2, emb2, _, wmb2⟩ := DataW.trod_int Try.underlying3 t12
  simp at emb2
  subst emb2
  obtain ⟨mc2, emc2, _, wmc2⟩ := DataW.trod_int Try.underlying3 t22
  simp at emc2
  subst emc2
  obtain ⟨md2, emd2, _, wmd2⟩ := DataW.trod_int Try.underlying3 t32
  simp at emd2
  subst emd2
  obtain ⟨me2, eme2, _, wme2⟩ := DataW.trod_int Try.underlying3 ua2
  simp at eme2
  subst eme2
  obtain ⟨mf2, emf2, _, wmf2⟩ := DataW.trod_int Try.underlying3 ub2
  simp at emf2
  subst emf2
  obtain ⟨mg2, emg2, _, wmg2⟩ := DataW.trod_int Try.underlying3 t52
  simp at emg2
  subst emg2
  obtain ⟨ms2, ems2, _, hms2⟩ := DataW.trod_string Try.underlying9 t62
  simp at ems2
  subst ems2
  obtain ⟨a3, rfl, rfl, rfl, w3⟩ := open_int Try.underlying3 (hval 3 3 v3 rfl rfl) h3
  clear hA0 hval0
  refine (lawHear a0 len0 cap0 f0 ep1 us1 a1 len1 cap1 f1 ma2 mb2 mc2 md2 me2 mf2 mg2 ms2 a3 W hmax0 hsrc0 hstr0 hmax1 hsrc1 hwf1 hms2 w3).mono fun e W' ⟨he, bel⟩ => ?_
  subst he
  exact ⟨_, rfl, _, _, _, [], _, [], hW', trodAll_mk1 (shut_bool Try.underlying4 _), (trodAll_cons_mk (Below.trod laidOut (by kernel_rfl) (of_decide_eq_true (by kernel_rfl)) k0 bel lt0) (trodAll_cons_mk (Below.trod laidOut (by kernel_rfl) (of_decide_eq_true (by kernel_rfl)) k1 bel lt1) (trodAll_cons_mk (Below.trod laidOut (by kernel_rfl) (of_decide_eq_true (by kernel_rfl)) k2 bel lt2) (trodAll_cons_mk (shut_int Try.underlying3 w3) trodAll_mk0)))), rfl, bel.frame _, fun h => by cases h⟩
theorem over : Rows.fnExactHearRow.holds Try.pinned (OpenSpec.ofChange Rows.fnExactHearSpec) :=
  OpenClaim.holds_of_wide 4 Try.f4 rfl rfl rfl rfl rfl rfl rfl ⟨rfl, rfl, rfl, rfl, rfl⟩ rfl rfl rfl rfl rfl (by kernel_rfl) Try.func4 (by kernel_rfl)
    (of_decide_eq_true (by kernel_rfl)) (by unfold Func.isWrapper; first | (rw [if_pos (by decide +kernel)]; kernel_rfl) | (rw [if_neg (by decide +kernel)]; exact ⟨rfl, rfl⟩))
    (fun os started H enc _ => lifted os started H enc)
end FnExactHearRow
theorem fnExactHear_holds : Rows.FnExactHearSaid := FnExactHearRow.over
end Go.Proofs.Ytdahabbdhjgpdaa
