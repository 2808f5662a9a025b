/- For every configuration and every row of truths the program answers NewWorld as the specification does, every field, in memory of its own, and changes nothing of what it is handed; no condition. -/
import Derived.Test.YtddijpjgkifngaaGreatRows
import Derived.WalkKit
import Derived.WalkSpells
import Derived.WalkLawsBesides
import Derived.Deep.QuietTactic
import Derived.BigQuiet
import Derived.Deep.OwnRows
import Derived.Deep.RegionHeld
import Derived.Laws.BytesArg
import Derived.Deep.RegionHeld3
import Derived.Deep.DeepCutAuto
import Derived.WalkSmall
import Derived.Deep.DeepAppendRoom
import Derived.Laws.OwnMore
import Derived.Maps.OwnSet
import Derived.WalkMore
import Derived.ScopeJumps
import Derived.Lib.MinMax
import Derived.Lib.SmallJoins
import Derived.Laws.Tables
import Derived.ProofKit
import Derived.OpenShut
import Derived.ShutString
import Derived.ChangeOld
import Derived.ChangeSame
import Derived.Below
import Derived.Deep.SlicePairs
import Derived.Deep.Slices
import Derived.Deep.Strs
import Derived.Test.YtddijpjgkifngaaGreatMN1
import Derived.Test.YtddijpjgkifngaaGreatMN2
import Derived.Test.YtddijpjgkifngaaGreatMN6
import Derived.Test.YtddijpjgkifngaaGreatMN7
import Derived.Test.YtddijpjgkifngaaGreatMN14
import Derived.Test.YtddijpjgkifngaaGreatMN19
import Derived.Test.YtddijpjgkifngaaGreatMN22
import Derived.Test.YtddijpjgkifngaaGreatMN25
import Derived.Test.YtddijpjgkifngaaGreatMN29
import Derived.Test.YtddijpjgkifngaaGreatMN46
namespace Go.Proofs.YtddijpjgkifngaaGreat
open Go.ChangeShapes Go.WideShapes Go.ChangeAt Go.RowKit Go.Joins Go.Deep
open Go.ChangeMaps (open_string shut_string)
set_option linter.unusedVariables false
namespace FnExactNewWorldRow
theorem own : ownKnob Tryz.prog.godebug = none := by kernel_rfl
theorem laidOut : laidOutB Tryz.prog = true := by kernel_rfl
def ivOf (v : Value) : Int := match v with | .int _ z => z | _ => 0
theorem add_at (b off n : Nat) : (⟨b, off, none⟩ : Addr).add n = ⟨b, off + n, none⟩ := by
 unfold Addr.add
 split
 ·next h => subst h; rfl
 ·rfl
theorem fields2 {H : Type} {enc : TypeId × Value → H} {P : Program} {w : World} {base : Nat} {sp : Nat → Bool} {held : Bool} {t : TypeId} {f0 f1 : Field} {fuel : Nat} {cs : List Value} {x : DataW H × List MemPlace} (ht : P.underlying t = some (.struct #[f0, f1])) (h : DataW.trod enc P w base sp held fuel t cs = some x) :
 ∃ y0 y1 n, DataW.trod enc P w base sp held n f0.type ((cs.drop f0.offset).take (P.cellsOf f0.type)) = some y0 ∧ DataW.trod enc P w base sp held n f1.type ((cs.drop f1.offset).take (P.cellsOf f1.type)) = some y1 := by
 obtain ⟨xs, n, _, rfl, hl, hlen, hf⟩ := DataW.trod_struct ht h
 match xs, hlen with
 | [y0, y1], _ => exact ⟨y0, y1, n, by simpa using hf 0 f0 rfl, by simpa using hf 1 f1 rfl⟩
theorem fields3 {H : Type} {enc : TypeId × Value → H} {P : Program} {w : World} {base : Nat} {sp : Nat → Bool} {held : Bool} {t : TypeId} {f0 f1 f2 : Field} {fuel : Nat} {cs : List Value} {x : DataW H × List MemPlace} (ht : P.underlying t = some (.struct #[f0, f1, f2])) (h : DataW.trod enc P w base sp held fuel t cs = some x) :
 ∃ y0 y1 y2 n, DataW.trod enc P w base sp held n f0.type ((cs.drop f0.offset).take (P.cellsOf f0.type)) = some y0 ∧ DataW.trod enc P w base sp held n f1.type ((cs.drop f1.offset).take (P.cellsOf f1.type)) = some y1 ∧ DataW.trod enc P w base sp held n f2.type ((cs.drop f2.offset).take (P.cellsOf f2.type)) = some y2 := by
 obtain ⟨xs, n, _, rfl, hl, hlen, hf⟩ := DataW.trod_struct ht h
 match xs, hlen with
 | [y0, y1, y2], _ => exact ⟨y0, y1, y2, n, by simpa using hf 0 f0 rfl, by simpa using hf 1 f1 rfl, by simpa using hf 2 f2 rfl⟩
theorem fields8 {H : Type} {enc : TypeId × Value → H} {P : Program} {w : World} {base : Nat} {sp : Nat → Bool} {held : Bool} {t : TypeId} {f0 f1 f2 f3 f4 f5 f6 f7 : Field} {fuel : Nat} {cs : List Value} {x : DataW H × List MemPlace} (ht : P.underlying t = some (.struct #[f0, f1, f2, f3, f4, f5, f6, f7])) (h : DataW.trod enc P w base sp held fuel t cs = some x) :
 ∃ y0 y1 y2 y3 y4 y5 y6 y7 n, DataW.trod enc P w base sp held n f0.type ((cs.drop f0.offset).take (P.cellsOf f0.type)) = some y0 ∧ DataW.trod enc P w base sp held n f1.type ((cs.drop f1.offset).take (P.cellsOf f1.type)) = some y1 ∧ DataW.trod enc P w base sp held n f2.type ((cs.drop f2.offset).take (P.cellsOf f2.type)) = some y2 ∧ DataW.trod enc P w base sp held n f3.type ((cs.drop f3.offset).take (P.cellsOf f3.type)) = some y3 ∧ DataW.trod enc P w base sp held n f4.type ((cs.drop f4.offset).take (P.cellsOf f4.type)) = some y4 ∧ DataW.trod enc P w base sp held n f5.type ((cs.drop f5.offset).take (P.cellsOf f5.type)) = some y5 ∧ DataW.trod enc P w base sp held n f6.type ((cs.drop f6.offset).take (P.cellsOf f6.type)) = some y6 ∧ DataW.trod enc P w base sp held n f7.type ((cs.drop f7.offset).take (P.cellsOf f7.type)) = some y7 := by
 obtain ⟨xs, n, _, rfl, hl, hlen, hf⟩ := DataW.trod_struct ht h
 match xs, hlen with
 | [y0, y1, y2, y3, y4, y5, y6, y7], _ => exact ⟨y0, y1, y2, y3, y4, y5, y6, y7, n, by simpa using hf 0 f0 rfl, by simpa using hf 1 f1 rfl, by simpa using hf 2 f2 rfl, by simpa using hf 3 f3 rfl, by simpa using hf 4 f4 rfl, by simpa using hf 5 f5 rfl, by simpa using hf 6 f6 rfl, by simpa using hf 7 f7 rfl⟩
theorem array11 {α : Type} {cs : Array α} (h : cs.size = 11) : ∃ c0 c1 c2 c3 c4 c5 c6 c7 c8 c9 c10, cs = #[c0, c1, c2, c3, c4, c5, c6, c7, c8, c9, c10] := by
 obtain ⟨l⟩ := cs
 match l, h with
 | [c0, c1, c2, c3, c4, c5, c6, c7, c8, c9, c10], _ => exact ⟨c0, c1, c2, c3, c4, c5, c6, c7, c8, c9, c10, rfl⟩
set_option maxRecDepth 100000 in
theorem lifted (os : Os) (started : os.Started) (H : Type) (enc : TypeId × Value → H) :
 ReturnsInHanded {} Tryz.checked os 4 .any (Rows.fnExactNewWorldSpec.pre6 enc Tryz.prog Tryz.f4 Rows.fnExactNewWorldRow.domain false) (Rows.fnExactNewWorldSpec.post enc Tryz.prog Tryz.f4 false true false false) := by
 refine returnsInHanded_of_change (C := Tryz.checked) own started (by kernel_rfl) Tryz.func4
  (ChangeSpec.witness6 (enc := enc) (C := Tryz.checked) false ⟨#[], #[.agg #[.int .i64 0, .int .i64 0, .int .i64 0, .int .i64 0, .int .i64 0, .int .i64 0, .int .i64 0, .int .i64 0, .int .i64 0, .int .i64 0, .slice none 0 0], .slice none 0 0], []⟩ 8 (by kernel_rfl) (by kernel_rfl) (by kernel_rfl) (by kernel_rfl)) ?_
 intro W base args ds gs before hval0 hW hcnd _
 have hval : ∀ (j : Nat) t v, Tryz.f4.params[j]? = some t → args[j]? = some v → Value.okWide Tryz.prog W .any base t v := hval0
 have hW' := hW
 obtain ⟨p, q, hA0, hV, rfl, hfz, hnd⟩ := hW
 have hA : DataW.TrodAll enc Tryz.prog W 0 (fun _ => true) true Tryz.f4.params.toList args.toList ds p := hA0
 rw [Tryz.params4] at hA hval
 obtain ⟨v0, vs0, d0, ds0, p0, q0, hargs, rfl, rfl, h0, r0⟩ := trodAll_cons hA
 obtain ⟨v1, vs1, d1, ds1, p1, q1, rfl, rfl, rfl, h1, r1⟩ := trodAll_cons r0
 obtain ⟨rfl, rfl, rfl⟩ := trodAll_nil r1
 obtain rfl : args = #[v0, v1] := by cases args; simp_all
 obtain ⟨rfl, rfl⟩ := trodVars_none hV
 have k0 := h0
 have lt0 : ∀ x ∈ p0, x.block < W.heap.size := by obtain ⟨m, hm⟩ := k0; exact DataW.trod_lt m _ _ _ hm
 have ct0_0 : Tryz.prog.cellsOf 28 = 11 := by kernel_rfl
 have ct1_0 : Tryz.prog.cellsOf 23 = 2 := by kernel_rfl
 have ct2_0 : Tryz.prog.cellsOf 26 = 3 := by kernel_rfl
 have ct3_0 : Tryz.prog.cellsOf 3 = 1 := by kernel_rfl
 have ct4_0 : Tryz.prog.cellsOf 24 = 1 := by kernel_rfl
 obtain ⟨cs0, rfl, hsz0⟩ := okWide_struct Tryz.underlying28 (hval 0 28 v0 rfl rfl)
 obtain ⟨z0_0, z1_0, z2_0, z3_0, z4_0, z5_0, z6_0, z7_0, z8_0, z9_0, z10_0, rfl⟩ := array11 (hsz0.trans ct0_0)
 obtain ⟨fu0, hf0⟩ := h0
 obtain ⟨_, _, _, _, _, _, _, _, nn1_0, t1_0_0, t1_1_0, t1_2_0, t1_3_0, t1_4_0, t1_5_0, t1_6_0, t1_7_0⟩ := fields8 Tryz.underlying28 hf0
 simp [Value.cells, ct1_0, ct3_0, ct2_0] at t1_0_0 t1_1_0 t1_2_0 t1_3_0 t1_4_0 t1_5_0 t1_6_0 t1_7_0
 obtain ⟨_, _, nn2_0, t2_0_0, t2_1_0⟩ := fields2 Tryz.underlying23 t1_0_0
 simp [ct3_0] at t2_0_0 t2_1_0
 obtain ⟨dn0, edn0, _, wdn0⟩ := DataW.trod_int Tryz.underlying3 t2_0_0
 simp at edn0
 subst edn0
 obtain ⟨dd0, edd0, _, wdd0⟩ := DataW.trod_int Tryz.underlying3 t2_1_0
 simp at edd0
 subst edd0
 obtain ⟨li0, eli0, _, wli0⟩ := DataW.trod_int Tryz.underlying3 t1_1_0
 simp at eli0
 subst eli0
 obtain ⟨le0, ele0, _, wle0⟩ := DataW.trod_int Tryz.underlying3 t1_2_0
 simp at ele0
 subst ele0
 obtain ⟨pt0, ept0, _, wpt0⟩ := DataW.trod_int Tryz.underlying3 t1_3_0
 simp at ept0
 subst ept0
 obtain ⟨ag0, eag0, _, wag0⟩ := DataW.trod_int Tryz.underlying3 t1_4_0
 simp at eag0
 subst eag0
 obtain ⟨ke0, eke0, _, wke0⟩ := DataW.trod_int Tryz.underlying3 t1_5_0
 simp at eke0
 subst eke0
 obtain ⟨lg0, elg0, _, wlg0⟩ := DataW.trod_int Tryz.underlying3 t1_6_0
 simp at elg0
 subst elg0
 obtain ⟨_, _, _, nn3_0, t3_0_0, t3_1_0, t3_2_0⟩ := fields3 Tryz.underlying26 t1_7_0
 simp [ct3_0, ct4_0] at t3_0_0 t3_1_0 t3_2_0
 obtain ⟨s0, es0, _, ws0⟩ := DataW.trod_int Tryz.underlying3 t3_0_0
 simp at es0
 subst es0
 obtain ⟨g0, eg0, _, wg0⟩ := DataW.trod_int Tryz.underlying3 t3_1_0
 simp at eg0
 subst eg0
 obtain ⟨aP0, nP0, cP0, rfl⟩ : ∃ a l c, z10_0 = .slice a l c := by
  rcases open_slice Tryz.underlying24 t3_2_0 with ⟨hcs, _⟩ | ⟨x, l, c, m, nn, D, Pl, hcs, _⟩
  ·simp at hcs; exact ⟨_, _, _, hcs⟩
  ·simp at hcs; exact ⟨_, _, _, hcs⟩
 have keyP0 : nP0 ≤ maxLen ∧ ∃ M : Nat → SlT, ae W aP0 (nP0 * 2) (ak M) ∧ ∀ i, i < nP0 → (Lit.int .i64 ((M i).1)).wf = true := by
  rcases open_slice Tryz.underlying24 t3_2_0 with ⟨hcs, _⟩ | ⟨x, l, c, m, nn, D, Pl, hcs, _, hl, hm, hmm, _, hx⟩
  ·simp at hcs
   obtain ⟨rfl, rfl, rfl⟩ := hcs
   exact ⟨by simp [maxLen], fun _ => zSl, .inl (by omega), fun i hi => absurd hi (Nat.not_lt_zero _)⟩
  ·simp at hcs
   obtain ⟨rfl, rfl, rfl⟩ := hcs
   have hlm : nP0 ≤ m := by rw [hmm]; split <;> omega
   have ce : Tryz.prog.cellsOf 212 = 2 := by kernel_rfl
   have ci : Tryz.prog.cellsOf 3 = 1 := by kernel_rfl
   have each : ∀ i, i < m → ∃ q : SlT, (∀ j, j < 2 → W.cell? (x.add (i * 2 + j)) = some (gH q j)) ∧ (Lit.int .i64 (q.1)).wf = true := by
    intro i hi
    obtain ⟨cs', h1, h2⟩ := hx i hi
    rw [ce] at h1
    obtain ⟨_, hlen, hcell⟩ := World.cells?_some h1
    match cs', hlen, h2, hcell with
    | [c0, c1], _, h2, hcell =>
     obtain ⟨y0, y1, nf, t0, t1⟩ := fields2 Tryz.underlying212 h2
     simp [ci] at t0 t1
     obtain ⟨m0, em0, _, wm0⟩ := DataW.trod_int Tryz.underlying3 t0
     simp at em0
     subst em0
     obtain ⟨m1, em1, _, wm1⟩ := DataW.trod_int Tryz.underlying3 t1
     simp at em1
     subst em1
     refine ⟨(m0, m1), fun j hj => ?_, wm0⟩
     have e := hcell j (by omega)
     rw [add_add] at e
     rw [e]
     match j, hj with
     | 0, _ => rfl
     | 1, _ => rfl
   haveI : Inhabited SlT := ⟨zSl⟩
   obtain ⟨M, hM⟩ := choose_lt each
   refine ⟨Nat.le_trans hl hm, M, ?_, fun i hi => (hM i (by omega)).2⟩
   by_cases hz : nP0 = 0
   ·exact .inl (by omega)
   ·obtain ⟨b, off, spot⟩ := x
    have h00 := (hM 0 (by omega)).1 0 (by decide)
    have hspot : spot = none := by
     have := World.cell?_spot h00
     simpa [Addr.add] using this
    subst hspot
    have hblk : b < W.heap.size := by
     have := World.block_lt_of_cell? W _ h00
     simpa [Addr.add] using this
    refine .inr ⟨b, off, rfl, hblk, fun j hj => ?_⟩
    have e := (hM (j / 2) (by omega)).1 (j % 2) (by omega)
    rw [show j / 2 * 2 + j % 2 = j by omega, add_at] at e
    exact e
 obtain ⟨hmaxP0, fP0, hsrcP0, hwfP0⟩ := keyP0
 have k1 := h1
 have lt1 : ∀ x ∈ p1, x.block < W.heap.size := by obtain ⟨m, hm⟩ := k1; exact DataW.trod_lt m _ _ _ hm
 obtain ⟨a1, len1, cap1, rfl⟩ := okWide_slice Tryz.underlying29 (hval 1 29 v1 rfl rfl)
 obtain ⟨fuel1, hfu1⟩ := h1
 have key1 : len1 ≤ maxLen ∧ ∃ M : Nat → Bool, ae W a1 len1 (boG M) := by
  rcases open_slice Tryz.underlying29 hfu1 with ⟨hcs, _⟩ | ⟨x, l, c, m, nn, D, Pl, hcs, _, hl, hm, hmm, _, hx⟩
  ·simp [Value.cells] at hcs
   obtain ⟨rfl, rfl, rfl⟩ := hcs
   exact ⟨by simp [maxLen], fun _ => false, .inl rfl⟩
  ·simp [Value.cells] at hcs
   obtain ⟨rfl, rfl, rfl⟩ := hcs
   have hlm : len1 ≤ m := by rw [hmm]; split <;> omega
   have ce : Tryz.prog.cellsOf 4 = 1 := by kernel_rfl
   have each : ∀ i, i < m → ∃ q : Bool, W.cell? (x.add i) = some (.bool q) := by
    intro i hi
    obtain ⟨cs', h1, h2⟩ := hx i hi
    rw [ce] at h1
    obtain ⟨_, hlen, hcell⟩ := World.cells?_some h1
    match cs', hlen, h2, hcell with
    | [c0], _, h2, hcell =>
     obtain ⟨m0, em0, _⟩ := DataW.trod_bool Tryz.underlying4 h2
     simp at em0
     subst em0
     refine ⟨m0, ?_⟩
     have e := hcell 0 (by omega)
     rw [add_add, Nat.mul_one, Nat.add_zero] at e
     rw [e]; rfl
   obtain ⟨M, hM⟩ := choose_lt each
   refine ⟨Nat.le_trans hl hm, M, ?_⟩
   by_cases hz : len1 = 0
   ·exact .inl hz
   ·obtain ⟨b, off, spot⟩ := x
    have h00 := hM 0 (by omega)
    have hspot : spot = none := by
     have := World.cell?_spot h00
     simpa [Addr.add] using this
    subst hspot
    have hblk : b < W.heap.size := by
     have := World.block_lt_of_cell? W _ h00
     simpa [Addr.add] using this
    refine .inr ⟨b, off, rfl, hblk, fun j hj => ?_⟩
    have e := hM j (by omega)
    rw [add_at] at e
    exact e
 obtain ⟨hmax1, f1, hsrc1⟩ := key1
 clear hA0 hval0
 refine (fC _ ⟨dn0, dd0, li0, le0, pt0, ag0, ke0, lg0, s0, g0, fP0, nP0⟩ a1 len1 cap1 f1 W ⟨aP0, cP0, rfl, hmaxP0, hsrcP0⟩ hmax1 hsrc1).mono fun e W' ⟨he, bel⟩ => ?_
 subst he
 exact ⟨_, rfl, _, _, _, [], _, [], hW', trodAll_mk1 (shut_bool Tryz.underlying4 _), (trodAll_cons_mk (Below.trod laidOut (by kernel_rfl) (of_decide_eq_true (by kernel_rfl)) k0 bel lt0) (trodAll_cons_mk (Below.trod laidOut (by kernel_rfl) (of_decide_eq_true (by kernel_rfl)) k1 bel lt1) trodAll_mk0)), rfl, bel.frame _, fun h => by cases h⟩
set_option maxRecDepth 100000 in
set_option maxHeartbeats 16000000 in
theorem closed : joinedFacts Tryz.prog 4 Tryz.f4 Rows.fnExactNewWorldSpec Rows.fnExactNewWorldRow = true := by
 unfold joinedFacts
 repeat rw [Bool.and_eq_true]
 repeat' apply And.intro
 all_goals as_aux_lemma => kernel_rfl
theorem over : Rows.fnExactNewWorldRow.holds Tryz.pinned (OpenSpec.ofChange Rows.fnExactNewWorldSpec) :=
 OpenClaim.holds_of_wide 4 Tryz.f4 rfl rfl rfl rfl rfl rfl rfl ⟨rfl, rfl, rfl, rfl, rfl⟩ rfl rfl rfl rfl rfl (by kernel_rfl) Tryz.func4 closed
  (of_decide_eq_true (by kernel_rfl)) (by unfold Func.isWrapper; first | (rw [if_pos (by decide +kernel)]; kernel_rfl) | (rw [if_neg (by decide +kernel)]; exact ⟨rfl, rfl⟩))
  (fun os started H enc _ => lifted os started H enc)
end FnExactNewWorldRow
theorem fnExactNewWorld_holds : Rows.FnExactNewWorldSaid := FnExactNewWorldRow.over
end Go.Proofs.YtddijpjgkifngaaGreat
