/- For every node and count the program answers NodeCrash as the specification does, every field, in memory of its own, and changes nothing of the node; no condition. -/
import Derived.Test.YtlllbahfjihepaaGreatRows
import Derived.WalkKit
import Derived.ProofKit
import Derived.OpenShut
import Derived.ShutString
import Derived.ChangeOld
import Derived.ChangeSame
import Derived.Below
import Derived.Lib.SmallJoins
import Derived.Deep.SlicePairs
import Derived.Deep.Slices
import Derived.Deep.Strs
import Derived.Test.YtlllbahfjihepaaGreatM46
namespace Go.Proofs.YtlllbahfjihepaaGreat
open Go.ChangeShapes Go.WideShapes Go.ChangeAt Go.RowKit Go.Joins Go.Deep
open Go.ChangeMaps (open_string shut_string)
set_option linter.unusedVariables false
namespace FnExactNodeCrashRow
theorem own : ownKnob Tryz.prog.godebug = none := by kernel_rfl
theorem laidOut : laidOutB Tryz.prog = true := by kernel_rfl
def ivOf (v : Value) : Int := match v with | .int _ z => z | _ => 0
theorem add_at (b off n : Nat) : (⟨b, off, none⟩ : Addr).add n = ⟨b, off + n, none⟩ := by
  unfold Addr.add
  split
  · next h => subst h; rfl
  · rfl
theorem fields2 {H : Type} {enc : TypeId × Value → H} {P : Program} {w : World} {base : Nat} {sp : Nat → Bool} {held : Bool} {t : TypeId} {f0 f1 : Field} {fuel : Nat} {cs : List Value} {x : DataW H × List MemPlace} (ht : P.underlying t = some (.struct #[f0, f1])) (h : DataW.trod enc P w base sp held fuel t cs = some x) :
    ∃ y0 y1 n, DataW.trod enc P w base sp held n f0.type ((cs.drop f0.offset).take (P.cellsOf f0.type)) = some y0 ∧ DataW.trod enc P w base sp held n f1.type ((cs.drop f1.offset).take (P.cellsOf f1.type)) = some y1 := by
  obtain ⟨xs, n, _, rfl, hl, hlen, hf⟩ := DataW.trod_struct ht h
  match xs, hlen with
  | [y0, y1], _ => exact ⟨y0, y1, n, by simpa using hf 0 f0 rfl, by simpa using hf 1 f1 rfl⟩
theorem fields3 {H : Type} {enc : TypeId × Value → H} {P : Program} {w : World} {base : Nat} {sp : Nat → Bool} {held : Bool} {t : TypeId} {f0 f1 f2 : Field} {fuel : Nat} {cs : List Value} {x : DataW H × List MemPlace} (ht : P.underlying t = some (.struct #[f0, f1, f2])) (h : DataW.trod enc P w base sp held fuel t cs = some x) :
    ∃ y0 y1 y2 n, DataW.trod enc P w base sp held n f0.type ((cs.drop f0.offset).take (P.cellsOf f0.type)) = some y0 ∧ DataW.trod enc P w base sp held n f1.type ((cs.drop f1.offset).take (P.cellsOf f1.type)) = some y1 ∧ DataW.trod enc P w base sp held n f2.type ((cs.drop f2.offset).take (P.cellsOf f2.type)) = some y2 := by
  obtain ⟨xs, n, _, rfl, hl, hlen, hf⟩ := DataW.trod_struct ht h
  match xs, hlen with
  | [y0, y1, y2], _ => exact ⟨y0, y1, y2, n, by simpa using hf 0 f0 rfl, by simpa using hf 1 f1 rfl, by simpa using hf 2 f2 rfl⟩
theorem fields4 {H : Type} {enc : TypeId × Value → H} {P : Program} {w : World} {base : Nat} {sp : Nat → Bool} {held : Bool} {t : TypeId} {f0 f1 f2 f3 : Field} {fuel : Nat} {cs : List Value} {x : DataW H × List MemPlace} (ht : P.underlying t = some (.struct #[f0, f1, f2, f3])) (h : DataW.trod enc P w base sp held fuel t cs = some x) :
    ∃ y0 y1 y2 y3 n, DataW.trod enc P w base sp held n f0.type ((cs.drop f0.offset).take (P.cellsOf f0.type)) = some y0 ∧ DataW.trod enc P w base sp held n f1.type ((cs.drop f1.offset).take (P.cellsOf f1.type)) = some y1 ∧ DataW.trod enc P w base sp held n f2.type ((cs.drop f2.offset).take (P.cellsOf f2.type)) = some y2 ∧ DataW.trod enc P w base sp held n f3.type ((cs.drop f3.offset).take (P.cellsOf f3.type)) = some y3 := by
  obtain ⟨xs, n, _, rfl, hl, hlen, hf⟩ := DataW.trod_struct ht h
  match xs, hlen with
  | [y0, y1, y2, y3], _ => exact ⟨y0, y1, y2, y3, n, by simpa using hf 0 f0 rfl, by simpa using hf 1 f1 rfl, by simpa using hf 2 f2 rfl, by simpa using hf 3 f3 rfl⟩
theorem fields8 {H : Type} {enc : TypeId × Value → H} {P : Program} {w : World} {base : Nat} {sp : Nat → Bool} {held : Bool} {t : TypeId} {f0 f1 f2 f3 f4 f5 f6 f7 : Field} {fuel : Nat} {cs : List Value} {x : DataW H × List MemPlace} (ht : P.underlying t = some (.struct #[f0, f1, f2, f3, f4, f5, f6, f7])) (h : DataW.trod enc P w base sp held fuel t cs = some x) :
    ∃ y0 y1 y2 y3 y4 y5 y6 y7 n, DataW.trod enc P w base sp held n f0.type ((cs.drop f0.offset).take (P.cellsOf f0.type)) = some y0 ∧ DataW.trod enc P w base sp held n f1.type ((cs.drop f1.offset).take (P.cellsOf f1.type)) = some y1 ∧ DataW.trod enc P w base sp held n f2.type ((cs.drop f2.offset).take (P.cellsOf f2.type)) = some y2 ∧ DataW.trod enc P w base sp held n f3.type ((cs.drop f3.offset).take (P.cellsOf f3.type)) = some y3 ∧ DataW.trod enc P w base sp held n f4.type ((cs.drop f4.offset).take (P.cellsOf f4.type)) = some y4 ∧ DataW.trod enc P w base sp held n f5.type ((cs.drop f5.offset).take (P.cellsOf f5.type)) = some y5 ∧ DataW.trod enc P w base sp held n f6.type ((cs.drop f6.offset).take (P.cellsOf f6.type)) = some y6 ∧ DataW.trod enc P w base sp held n f7.type ((cs.drop f7.offset).take (P.cellsOf f7.type)) = some y7 := by
  obtain ⟨xs, n, _, rfl, hl, hlen, hf⟩ := DataW.trod_struct ht h
  match xs, hlen with
  | [y0, y1, y2, y3, y4, y5, y6, y7], _ => exact ⟨y0, y1, y2, y3, y4, y5, y6, y7, n, by simpa using hf 0 f0 rfl, by simpa using hf 1 f1 rfl, by simpa using hf 2 f2 rfl, by simpa using hf 3 f3 rfl, by simpa using hf 4 f4 rfl, by simpa using hf 5 f5 rfl, by simpa using hf 6 f6 rfl, by simpa using hf 7 f7 rfl⟩
theorem array16 {α : Type} {cs : Array α} (h : cs.size = 16) : ∃ c0 c1 c2 c3 c4 c5 c6 c7 c8 c9 c10 c11 c12 c13 c14 c15, cs = #[c0, c1, c2, c3, c4, c5, c6, c7, c8, c9, c10, c11, c12, c13, c14, c15] := by
  obtain ⟨l⟩ := cs
  match l, h with
  | [c0, c1, c2, c3, c4, c5, c6, c7, c8, c9, c10, c11, c12, c13, c14, c15], _ => exact ⟨c0, c1, c2, c3, c4, c5, c6, c7, c8, c9, c10, c11, c12, c13, c14, c15, rfl⟩
set_option maxRecDepth 100000 in
theorem lifted (os : Os) (started : os.Started) (H : Type) (enc : TypeId × Value → H) :
    ReturnsInHanded {} Tryz.checked os 4 .any (Rows.fnExactNodeCrashSpec.pre6 enc Tryz.prog Tryz.f4 Rows.fnExactNodeCrashRow.domain false) (Rows.fnExactNodeCrashSpec.post enc Tryz.prog Tryz.f4 false true false false) := by
  refine returnsInHanded_of_change (C := Tryz.checked) own started (by kernel_rfl) Tryz.func4
    (ChangeSpec.witness6 (enc := enc) (C := Tryz.checked) false ⟨#[], #[.agg #[.int .i64 0, .int .i64 0, .int .i64 0, .int .i64 0, .bool false, .int .i64 0, .int .i64 0, .int .i64 0, .int .i64 0, .int .i64 0, .slice none 0 0, .slice none 0 0, .bool false, .int .i64 0, .slice none 0 0, .int .i64 0], .int .i64 0], []⟩ 8 (by kernel_rfl) (by kernel_rfl) (by kernel_rfl) (by kernel_rfl)) ?_
  intro W base args ds gs before hval0 hW hcnd _
  have hval : ∀ (j : Nat) t v, Tryz.f4.params[j]? = some t → args[j]? = some v → Value.okWide Tryz.prog W .any base t v := hval0
  have hW' := hW
  obtain ⟨p, q, hA0, hV, rfl, hfz, hnd⟩ := hW
  have hA : DataW.TrodAll enc Tryz.prog W 0 (fun _ => true) true Tryz.f4.params.toList args.toList ds p := hA0
  rw [Tryz.params4] at hA hval
  obtain ⟨v0, vs0, d0, ds0, p0, q0, hargs, rfl, rfl, h0, r0⟩ := trodAll_cons hA
  obtain ⟨v1, vs1, d1, ds1, p1, q1, rfl, rfl, rfl, h1, r1⟩ := trodAll_cons r0
  obtain ⟨rfl, rfl, rfl⟩ := trodAll_nil r1
  obtain rfl : args = #[v0, v1] := by cases args; simp_all
  obtain ⟨rfl, rfl⟩ := trodVars_none hV
  have k0 := h0
  have lt0 : ∀ x ∈ p0, x.block < W.heap.size := by obtain ⟨m, hm⟩ := k0; exact DataW.trod_lt m _ _ _ hm
  have ct0_0 : Tryz.prog.cellsOf 36 = 16 := by kernel_rfl
  have ct1_0 : Tryz.prog.cellsOf 23 = 3 := by kernel_rfl
  have ct2_0 : Tryz.prog.cellsOf 27 = 4 := by kernel_rfl
  have ct3_0 : Tryz.prog.cellsOf 25 = 2 := by kernel_rfl
  have ct4_0 : Tryz.prog.cellsOf 30 = 3 := by kernel_rfl
  have ct5_0 : Tryz.prog.cellsOf 33 = 2 := by kernel_rfl
  have ct6_0 : Tryz.prog.cellsOf 3 = 1 := by kernel_rfl
  have ct7_0 : Tryz.prog.cellsOf 4 = 1 := by kernel_rfl
  have ct8_0 : Tryz.prog.cellsOf 28 = 1 := by kernel_rfl
  have ct9_0 : Tryz.prog.cellsOf 31 = 1 := by kernel_rfl
  have ct10_0 : Tryz.prog.cellsOf 34 = 1 := by kernel_rfl
  obtain ⟨cs0, rfl, hsz0⟩ := okWide_struct Tryz.underlying36 (hval 0 36 v0 rfl rfl)
  obtain ⟨z0_0, z1_0, z2_0, z3_0, z4_0, z5_0, z6_0, z7_0, z8_0, z9_0, z10_0, z11_0, z12_0, z13_0, z14_0, z15_0, rfl⟩ := array16 (hsz0.trans ct0_0)
  obtain ⟨fu0, hf0⟩ := h0
  obtain ⟨_, _, _, _, _, _, _, _, nn1_0, t1_0_0, t1_1_0, t1_2_0, t1_3_0, t1_4_0, t1_5_0, t1_6_0, t1_7_0⟩ := fields8 Tryz.underlying36 hf0
  simp [Value.cells, ct6_0, ct1_0, ct2_0, ct4_0, ct9_0, ct5_0, ct10_0] at t1_0_0 t1_1_0 t1_2_0 t1_3_0 t1_4_0 t1_5_0 t1_6_0 t1_7_0
  obtain ⟨ni0, eni0, _, wni0⟩ := DataW.trod_int Tryz.underlying3 t1_0_0
  simp at eni0
  subst eni0
  obtain ⟨_, _, _, nn2_0, t2_0_0, t2_1_0, t2_2_0⟩ := fields3 Tryz.underlying23 t1_1_0
  simp [ct6_0] at t2_0_0 t2_1_0 t2_2_0
  obtain ⟨mo0, emo0, _, wmo0⟩ := DataW.trod_int Tryz.underlying3 t2_0_0
  simp at emo0
  subst emo0
  obtain ⟨ep0, eep0, _, wep0⟩ := DataW.trod_int Tryz.underlying3 t2_1_0
  simp at eep0
  subst eep0
  obtain ⟨si0, esi0, _, wsi0⟩ := DataW.trod_int Tryz.underlying3 t2_2_0
  simp at esi0
  subst esi0
  obtain ⟨_, _, _, nn3_0, t3_0_0, t3_1_0, t3_2_0⟩ := fields3 Tryz.underlying27 t1_2_0
  simp [ct7_0, ct3_0, ct6_0] at t3_0_0 t3_1_0 t3_2_0
  obtain ⟨kn0, ekn0, _⟩ := DataW.trod_bool Tryz.underlying4 t3_0_0
  simp at ekn0
  subst ekn0
  obtain ⟨_, _, nn4_0, t4_0_0, t4_1_0⟩ := fields2 Tryz.underlying25 t3_1_0
  simp [ct6_0] at t4_0_0 t4_1_0
  obtain ⟨lo0, elo0, _, wlo0⟩ := DataW.trod_int Tryz.underlying3 t4_0_0
  simp at elo0
  subst elo0
  obtain ⟨hi0, ehi0, _, whi0⟩ := DataW.trod_int Tryz.underlying3 t4_1_0
  simp at ehi0
  subst ehi0
  obtain ⟨la0, ela0, _, wla0⟩ := DataW.trod_int Tryz.underlying3 t3_2_0
  simp at ela0
  subst ela0
  obtain ⟨_, _, _, nn5_0, t5_0_0, t5_1_0, t5_2_0⟩ := fields3 Tryz.underlying30 t1_3_0
  simp [ct6_0, ct8_0] at t5_0_0 t5_1_0 t5_2_0
  obtain ⟨te0, ete0, _, wte0⟩ := DataW.trod_int Tryz.underlying3 t5_0_0
  simp at ete0
  subst ete0
  obtain ⟨us0, eus0, _, wus0⟩ := DataW.trod_int Tryz.underlying3 t5_1_0
  simp at eus0
  subst eus0
  obtain ⟨aA0, nA0, cA0, rfl⟩ : ∃ a l c, z10_0 = .slice a l c := by
    rcases open_slice Tryz.underlying28 t5_2_0 with ⟨hcs, _⟩ | ⟨x, l, c, m, nn, D, Pl, hcs, _⟩
    · simp at hcs; exact ⟨_, _, _, hcs⟩
    · simp at hcs; exact ⟨_, _, _, hcs⟩
  have keyA0 : nA0 ≤ maxLen ∧ ∃ M : Nat → KT, SrcC W aA0 (nA0 * 4) (MFAsk M) ∧ ∀ i, i < nA0 → (Lit.int .i64 ((M i).1)).wf = true := by
    rcases open_slice Tryz.underlying28 t5_2_0 with ⟨hcs, _⟩ | ⟨x, l, c, m, nn, D, Pl, hcs, _, hl, hm, hmm, _, hx⟩
    · simp at hcs
      obtain ⟨rfl, rfl, rfl⟩ := hcs
      exact ⟨by simp [maxLen], fun _ => zK, .inl (by omega), fun i hi => absurd hi (Nat.not_lt_zero _)⟩
    · simp at hcs
      obtain ⟨rfl, rfl, rfl⟩ := hcs
      have hlm : nA0 ≤ m := by rw [hmm]; split <;> omega
      have ce : Tryz.prog.cellsOf 121 = 4 := by kernel_rfl
      have ci : Tryz.prog.cellsOf 3 = 1 := by kernel_rfl
      have each : ∀ i, i < m → ∃ q : KT, (∀ j, j < 4 → W.cell? (x.add (i * 4 + j)) = some (MCAsk q j)) ∧ (Lit.int .i64 (q.1)).wf = true := by
        intro i hi
        obtain ⟨cs', h1, h2⟩ := hx i hi
        rw [ce] at h1
        obtain ⟨_, hlen, hcell⟩ := World.cells?_some h1
        match cs', hlen, h2, hcell with
        | [c0, c1, c2, c3], _, h2, hcell =>
          obtain ⟨y0, y1, y2, y3, nf, t0, t1, t2, t3⟩ := fields4 Tryz.underlying121 h2
          simp [ci] at t0 t1 t2 t3
          obtain ⟨m0, em0, _, wm0⟩ := DataW.trod_int Tryz.underlying3 t0
          simp at em0
          subst em0
          obtain ⟨m1, em1, _, wm1⟩ := DataW.trod_int Tryz.underlying3 t1
          simp at em1
          subst em1
          obtain ⟨m2, em2, _, wm2⟩ := DataW.trod_int Tryz.underlying3 t2
          simp at em2
          subst em2
          obtain ⟨m3, em3, _, wm3⟩ := DataW.trod_int Tryz.underlying3 t3
          simp at em3
          subst em3
          refine ⟨(m0, m1, m2, m3), fun j hj => ?_, wm0⟩
          have e := hcell j (by omega)
          rw [add_add] at e
          rw [e]
          match j, hj with
          | 0, _ => rfl
          | 1, _ => rfl
          | 2, _ => rfl
          | 3, _ => rfl
      haveI : Inhabited KT := ⟨zK⟩
      obtain ⟨M, hM⟩ := choose_lt each
      refine ⟨Nat.le_trans hl hm, M, ?_, fun i hi => (hM i (by omega)).2⟩
      by_cases hz : nA0 = 0
      · exact .inl (by omega)
      · obtain ⟨b, off, spot⟩ := x
        have h00 := (hM 0 (by omega)).1 0 (by decide)
        have hspot : spot = none := by
          have := World.cell?_spot h00
          simpa [Addr.add] using this
        subst hspot
        have hblk : b < W.heap.size := by
          have := World.block_lt_of_cell? W _ h00
          simpa [Addr.add] using this
        refine .inr ⟨b, off, rfl, hblk, fun j hj => ?_⟩
        have e := (hM (j / 4) (by omega)).1 (j % 4) (by omega)
        rw [show j / 4 * 4 + j % 4 = j by omega, add_at] at e
        exact e
  obtain ⟨hmaxA0, fA0, hsrcA0, hwfA0⟩ := keyA0
  obtain ⟨aQ0, nQ0, cQ0, rfl⟩ : ∃ a l c, z11_0 = .slice a l c := by
    rcases open_slice Tryz.underlying31 t1_4_0 with ⟨hcs, _⟩ | ⟨x, l, c, m, nn, D, Pl, hcs, _⟩
    · simp at hcs; exact ⟨_, _, _, hcs⟩
    · simp at hcs; exact ⟨_, _, _, hcs⟩
  have keyQ0 : nQ0 ≤ maxLen ∧ ∃ M : Nat → PT, SrcC W aQ0 (nQ0 * 5) (MFPeer M) ∧ ∀ i, i < nQ0 → (Lit.int .i64 ((M i).1)).wf = true := by
    rcases open_slice Tryz.underlying31 t1_4_0 with ⟨hcs, _⟩ | ⟨x, l, c, m, nn, D, Pl, hcs, _, hl, hm, hmm, _, hx⟩
    · simp at hcs
      obtain ⟨rfl, rfl, rfl⟩ := hcs
      exact ⟨by simp [maxLen], fun _ => zP, .inl (by omega), fun i hi => absurd hi (Nat.not_lt_zero _)⟩
    · simp at hcs
      obtain ⟨rfl, rfl, rfl⟩ := hcs
      have hlm : nQ0 ≤ m := by rw [hmm]; split <;> omega
      have ce : Tryz.prog.cellsOf 97 = 5 := by kernel_rfl
      have ci : Tryz.prog.cellsOf 3 = 1 := by kernel_rfl
      have cb : Tryz.prog.cellsOf 4 = 1 := by kernel_rfl
      have cd : Tryz.prog.cellsOf 25 = 2 := by kernel_rfl
      have each : ∀ i, i < m → ∃ q : PT, (∀ j, j < 5 → W.cell? (x.add (i * 5 + j)) = some (MCPeer q j)) ∧ (Lit.int .i64 (q.1)).wf = true := by
        intro i hi
        obtain ⟨cs', h1, h2⟩ := hx i hi
        rw [ce] at h1
        obtain ⟨_, hlen, hcell⟩ := World.cells?_some h1
        match cs', hlen, h2, hcell with
        | [c0, c1, c2, c3, c4], _, h2, hcell =>
          obtain ⟨y0, y1, y2, y3, nf, t0, t1, t2, t3⟩ := fields4 Tryz.underlying97 h2
          simp [ci, cb, cd] at t0 t1 t2 t3
          obtain ⟨m0, em0, _, wm0⟩ := DataW.trod_int Tryz.underlying3 t0
          simp at em0
          subst em0
          obtain ⟨za, zb, nm, _, _, ua, ub⟩ := trod_struct2 Tryz.underlying25 t1
          simp [ci] at ua ub
          obtain ⟨m1, em1, _, wm1⟩ := DataW.trod_int Tryz.underlying3 ua
          simp at em1
          subst em1
          obtain ⟨m2, em2, _, wm2⟩ := DataW.trod_int Tryz.underlying3 ub
          simp at em2
          subst em2
          obtain ⟨m3, em3, _, wm3⟩ := DataW.trod_int Tryz.underlying3 t2
          simp at em3
          subst em3
          obtain ⟨m4, em4, _⟩ := DataW.trod_bool Tryz.underlying4 t3
          simp at em4
          subst em4
          refine ⟨(m0, m1, m2, m3, m4), fun j hj => ?_, wm0⟩
          have e := hcell j (by omega)
          rw [add_add] at e
          rw [e]
          match j, hj with
          | 0, _ => rfl
          | 1, _ => rfl
          | 2, _ => rfl
          | 3, _ => rfl
          | 4, _ => rfl
      haveI : Inhabited PT := ⟨zP⟩
      obtain ⟨M, hM⟩ := choose_lt each
      refine ⟨Nat.le_trans hl hm, M, ?_, fun i hi => (hM i (by omega)).2⟩
      by_cases hz : nQ0 = 0
      · exact .inl (by omega)
      · obtain ⟨b, off, spot⟩ := x
        have h00 := (hM 0 (by omega)).1 0 (by decide)
        have hspot : spot = none := by
          have := World.cell?_spot h00
          simpa [Addr.add] using this
        subst hspot
        have hblk : b < W.heap.size := by
          have := World.block_lt_of_cell? W _ h00
          simpa [Addr.add] using this
        refine .inr ⟨b, off, rfl, hblk, fun j hj => ?_⟩
        have e := (hM (j / 5) (by omega)).1 (j % 5) (by omega)
        rw [show j / 5 * 5 + j % 5 = j by omega, add_at] at e
        exact e
  obtain ⟨hmaxQ0, fQ0, hsrcQ0, hwfQ0⟩ := keyQ0
  obtain ⟨_, _, nn6_0, t6_0_0, t6_1_0⟩ := fields2 Tryz.underlying33 t1_5_0
  simp [ct7_0, ct6_0] at t6_0_0 t6_1_0
  obtain ⟨hs0, ehs0, _⟩ := DataW.trod_bool Tryz.underlying4 t6_0_0
  simp at ehs0
  subst ehs0
  obtain ⟨ls0, els0, _, wls0⟩ := DataW.trod_int Tryz.underlying3 t6_1_0
  simp at els0
  subst els0
  obtain ⟨aH0, nH0, cH0, rfl⟩ : ∃ a l c, z14_0 = .slice a l c := by
    rcases open_slice Tryz.underlying34 t1_6_0 with ⟨hcs, _⟩ | ⟨x, l, c, m, nn, D, Pl, hcs, _⟩
    · simp at hcs; exact ⟨_, _, _, hcs⟩
    · simp at hcs; exact ⟨_, _, _, hcs⟩
  have keyH0 : nH0 ≤ maxLen ∧ ∃ M : Nat → VT, SrcC W aH0 (nH0 * 2) (MFIval M) ∧ ∀ i, i < nH0 → (Lit.int .i64 ((M i).1)).wf = true := by
    rcases open_slice Tryz.underlying34 t1_6_0 with ⟨hcs, _⟩ | ⟨x, l, c, m, nn, D, Pl, hcs, _, hl, hm, hmm, _, hx⟩
    · simp at hcs
      obtain ⟨rfl, rfl, rfl⟩ := hcs
      exact ⟨by simp [maxLen], fun _ => zV, .inl (by omega), fun i hi => absurd hi (Nat.not_lt_zero _)⟩
    · simp at hcs
      obtain ⟨rfl, rfl, rfl⟩ := hcs
      have hlm : nH0 ≤ m := by rw [hmm]; split <;> omega
      have ce : Tryz.prog.cellsOf 101 = 2 := by kernel_rfl
      have ci : Tryz.prog.cellsOf 3 = 1 := by kernel_rfl
      have each : ∀ i, i < m → ∃ q : VT, (∀ j, j < 2 → W.cell? (x.add (i * 2 + j)) = some (MCIval q j)) ∧ (Lit.int .i64 (q.1)).wf = true := by
        intro i hi
        obtain ⟨cs', h1, h2⟩ := hx i hi
        rw [ce] at h1
        obtain ⟨_, hlen, hcell⟩ := World.cells?_some h1
        match cs', hlen, h2, hcell with
        | [c0, c1], _, h2, hcell =>
          obtain ⟨y0, y1, nf, t0, t1⟩ := fields2 Tryz.underlying101 h2
          simp [ci] at t0 t1
          obtain ⟨m0, em0, _, wm0⟩ := DataW.trod_int Tryz.underlying3 t0
          simp at em0
          subst em0
          obtain ⟨m1, em1, _, wm1⟩ := DataW.trod_int Tryz.underlying3 t1
          simp at em1
          subst em1
          refine ⟨(m0, m1), fun j hj => ?_, wm0⟩
          have e := hcell j (by omega)
          rw [add_add] at e
          rw [e]
          match j, hj with
          | 0, _ => rfl
          | 1, _ => rfl
      haveI : Inhabited VT := ⟨zV⟩
      obtain ⟨M, hM⟩ := choose_lt each
      refine ⟨Nat.le_trans hl hm, M, ?_, fun i hi => (hM i (by omega)).2⟩
      by_cases hz : nH0 = 0
      · exact .inl (by omega)
      · obtain ⟨b, off, spot⟩ := x
        have h00 := (hM 0 (by omega)).1 0 (by decide)
        have hspot : spot = none := by
          have := World.cell?_spot h00
          simpa [Addr.add] using this
        subst hspot
        have hblk : b < W.heap.size := by
          have := World.block_lt_of_cell? W _ h00
          simpa [Addr.add] using this
        refine .inr ⟨b, off, rfl, hblk, fun j hj => ?_⟩
        have e := (hM (j / 2) (by omega)).1 (j % 2) (by omega)
        rw [show j / 2 * 2 + j % 2 = j by omega, add_at] at e
        exact e
  obtain ⟨hmaxH0, fH0, hsrcH0, hwfH0⟩ := keyH0
  obtain ⟨se0, ese0, _, wse0⟩ := DataW.trod_int Tryz.underlying3 t1_7_0
  simp at ese0
  subst ese0
  obtain ⟨a1, rfl, rfl, rfl, w1⟩ := open_int Tryz.underlying3 (hval 1 3 v1 rfl rfl) h1
  clear hA0 hval0
  refine (walkNodeCrash _ ⟨ni0, mo0, ep0, si0, kn0, lo0, hi0, la0, te0, us0, fA0, nA0, fQ0, nQ0, hs0, ls0, fH0, nH0, se0⟩ a1 W ⟨aA0, cA0, aQ0, cQ0, aH0, cH0, rfl, ⟨hmaxA0, hmaxQ0, hmaxH0⟩, hsrcA0, hsrcQ0, hsrcH0⟩ hwfA0 w1).mono fun e W' ⟨he, bel⟩ => ?_
  subst he
  exact ⟨_, rfl, _, _, _, [], _, [], hW', trodAll_mk1 (shut_bool Tryz.underlying4 _), (trodAll_cons_mk (Below.trod laidOut (by kernel_rfl) (of_decide_eq_true (by kernel_rfl)) k0 bel lt0) (trodAll_cons_mk (shut_int Tryz.underlying3 w1) trodAll_mk0)), rfl, bel.frame _, fun h => by cases h⟩
theorem over : Rows.fnExactNodeCrashRow.holds Tryz.pinned (OpenSpec.ofChange Rows.fnExactNodeCrashSpec) :=
  OpenClaim.holds_of_wide 4 Tryz.f4 rfl rfl rfl rfl rfl rfl rfl ⟨rfl, rfl, rfl, rfl, rfl⟩ rfl rfl rfl rfl rfl (by kernel_rfl) Tryz.func4 (by kernel_rfl)
    (of_decide_eq_true (by kernel_rfl)) (by unfold Func.isWrapper; first | (rw [if_pos (by decide +kernel)]; kernel_rfl) | (rw [if_neg (by decide +kernel)]; exact ⟨rfl, rfl⟩))
    (fun os started H enc _ => lifted os started H enc)
end FnExactNodeCrashRow
theorem fnExactNodeCrash_holds : Rows.FnExactNodeCrashSaid := FnExactNodeCrashRow.over
end Go.Proofs.YtlllbahfjihepaaGreat
