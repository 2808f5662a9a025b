/- For every configuration, node and count the program answers NodeFuse as the specification does, every field, in memory of its own, and changes nothing of what it is handed; no condition. -/
import Derived.Test.YtikbjljkakabdaaGreatRows
import Derived.WalkKit
import Derived.WalkSpells
import Derived.WalkLawsBesides
import Derived.Deep.QuietTactic
import Derived.BigQuiet
import Derived.Deep.OwnRows
import Derived.Deep.RegionHeld
import Derived.Laws.BytesArg
import Derived.Deep.RegionHeld3
import Derived.Deep.DeepCutAuto
import Derived.WalkSmall
import Derived.Deep.DeepAppendRoom
import Derived.Laws.OwnMore
import Derived.Lib.SmallJoins
import Derived.WalkMore
import Derived.ScopeJumps
import Derived.Lib.MinMax
import Derived.Laws.EntriesVeiled
import Derived.Maps.OwnSet
import Derived.Lib.SlKeysI
import Derived.RangeFuncWrites
import Derived.Shelf.SlIterI.Nil
import Derived.Shelf.SortM.Plain
import Derived.Shelf.SortM.SortNone
import Derived.Test.YtikbjljkakabdaaGreatProg
import Derived.RangeFuncBox
import Derived.RangeFuncNested
import Derived.RangeFuncBound
import Derived.RangeFuncCalls
import Derived.RangeFuncLeaves
import Derived.Shelf.Abstract
import Derived.Shelf.RegionOpen
import Derived.OwnWalkIn
import Derived.TacticsInMore
import Derived.LoopNIn
import Derived.LoopIn
import Derived.Maps.OwnIn
import Derived.Maps.AppendAt
import Derived.Maps.RangeWalk
import Derived.Shelf.SlSortCmp.SmallK
import Derived.Shelf.SlicesG.Cmp
import Derived.Shelf.Small.Bits
import Derived.Sort.OwnSorted
import Derived.Laws.MakeOwn
import Derived.ProofKit
import Derived.OpenShut
import Derived.ShutString
import Derived.ChangeOld
import Derived.ChangeSame
import Derived.Below
import Derived.Deep.SlicePairs
import Derived.Deep.Slices
import Derived.Deep.Strs
import Derived.Test.YtikbjljkakabdaaGreatMB2
import Derived.Test.YtikbjljkakabdaaGreatMB4
import Derived.Test.YtikbjljkakabdaaGreatMB5
import Derived.Test.YtikbjljkakabdaaGreatMB8
import Derived.Test.YtikbjljkakabdaaGreatMB17
import Derived.Test.YtikbjljkakabdaaGreatMB23
import Derived.Test.YtikbjljkakabdaaGreatMB24
import Derived.Test.YtikbjljkakabdaaGreatMB29
import Derived.Test.YtikbjljkakabdaaGreatMB38
import Derived.Test.YtikbjljkakabdaaGreatMB43
import Derived.Test.YtikbjljkakabdaaGreatMB46
namespace Go.Proofs.YtikbjljkakabdaaGreat
open Go.ChangeShapes Go.WideShapes Go.ChangeAt Go.RowKit Go.Joins Go.Deep
open Go.ChangeMaps (open_string shut_string)
set_option linter.unusedVariables false
namespace FnExactNodeFuseRow
theorem own : ownKnob Tryz.prog.godebug = none := by kernel_rfl
theorem laidOut : laidOutB Tryz.prog = true := by kernel_rfl
def ivOf (v : Value) : Int := match v with | .int _ z => z | _ => 0
theorem add_at (b off n : Nat) : (⟨b, off, none⟩ : Addr).add n = ⟨b, off + n, none⟩ := by
 unfold Addr.add
 split
 ·next h => subst h; rfl
 ·rfl
theorem fields2 {H : Type} {enc : TypeId × Value → H} {P : Program} {w : World} {base : Nat} {sp : Nat → Bool} {held : Bool} {t : TypeId} {f0 f1 : Field} {fuel : Nat} {cs : List Value} {x : DataW H × List MemPlace} (ht : P.underlying t = some (.struct #[f0, f1])) (h : DataW.trod enc P w base sp held fuel t cs = some x) :
 ∃ y0 y1 n, DataW.trod enc P w base sp held n f0.type ((cs.drop f0.offset).take (P.cellsOf f0.type)) = some y0 ∧ DataW.trod enc P w base sp held n f1.type ((cs.drop f1.offset).take (P.cellsOf f1.type)) = some y1 := by
 obtain ⟨xs, n, _, rfl, hl, hlen, hf⟩ := DataW.trod_struct ht h
 match xs, hlen with
 | [y0, y1], _ => exact ⟨y0, y1, n, by simpa using hf 0 f0 rfl, by simpa using hf 1 f1 rfl⟩
theorem fields3 {H : Type} {enc : TypeId × Value → H} {P : Program} {w : World} {base : Nat} {sp : Nat → Bool} {held : Bool} {t : TypeId} {f0 f1 f2 : Field} {fuel : Nat} {cs : List Value} {x : DataW H × List MemPlace} (ht : P.underlying t = some (.struct #[f0, f1, f2])) (h : DataW.trod enc P w base sp held fuel t cs = some x) :
 ∃ y0 y1 y2 n, DataW.trod enc P w base sp held n f0.type ((cs.drop f0.offset).take (P.cellsOf f0.type)) = some y0 ∧ DataW.trod enc P w base sp held n f1.type ((cs.drop f1.offset).take (P.cellsOf f1.type)) = some y1 ∧ DataW.trod enc P w base sp held n f2.type ((cs.drop f2.offset).take (P.cellsOf f2.type)) = some y2 := by
 obtain ⟨xs, n, _, rfl, hl, hlen, hf⟩ := DataW.trod_struct ht h
 match xs, hlen with
 | [y0, y1, y2], _ => exact ⟨y0, y1, y2, n, by simpa using hf 0 f0 rfl, by simpa using hf 1 f1 rfl, by simpa using hf 2 f2 rfl⟩
theorem fields4 {H : Type} {enc : TypeId × Value → H} {P : Program} {w : World} {base : Nat} {sp : Nat → Bool} {held : Bool} {t : TypeId} {f0 f1 f2 f3 : Field} {fuel : Nat} {cs : List Value} {x : DataW H × List MemPlace} (ht : P.underlying t = some (.struct #[f0, f1, f2, f3])) (h : DataW.trod enc P w base sp held fuel t cs = some x) :
 ∃ y0 y1 y2 y3 n, DataW.trod enc P w base sp held n f0.type ((cs.drop f0.offset).take (P.cellsOf f0.type)) = some y0 ∧ DataW.trod enc P w base sp held n f1.type ((cs.drop f1.offset).take (P.cellsOf f1.type)) = some y1 ∧ DataW.trod enc P w base sp held n f2.type ((cs.drop f2.offset).take (P.cellsOf f2.type)) = some y2 ∧ DataW.trod enc P w base sp held n f3.type ((cs.drop f3.offset).take (P.cellsOf f3.type)) = some y3 := by
 obtain ⟨xs, n, _, rfl, hl, hlen, hf⟩ := DataW.trod_struct ht h
 match xs, hlen with
 | [y0, y1, y2, y3], _ => exact ⟨y0, y1, y2, y3, n, by simpa using hf 0 f0 rfl, by simpa using hf 1 f1 rfl, by simpa using hf 2 f2 rfl, by simpa using hf 3 f3 rfl⟩
theorem fields8 {H : Type} {enc : TypeId × Value → H} {P : Program} {w : World} {base : Nat} {sp : Nat → Bool} {held : Bool} {t : TypeId} {f0 f1 f2 f3 f4 f5 f6 f7 : Field} {fuel : Nat} {cs : List Value} {x : DataW H × List MemPlace} (ht : P.underlying t = some (.struct #[f0, f1, f2, f3, f4, f5, f6, f7])) (h : DataW.trod enc P w base sp held fuel t cs = some x) :
 ∃ y0 y1 y2 y3 y4 y5 y6 y7 n, DataW.trod enc P w base sp held n f0.type ((cs.drop f0.offset).take (P.cellsOf f0.type)) = some y0 ∧ DataW.trod enc P w base sp held n f1.type ((cs.drop f1.offset).take (P.cellsOf f1.type)) = some y1 ∧ DataW.trod enc P w base sp held n f2.type ((cs.drop f2.offset).take (P.cellsOf f2.type)) = some y2 ∧ DataW.trod enc P w base sp held n f3.type ((cs.drop f3.offset).take (P.cellsOf f3.type)) = some y3 ∧ DataW.trod enc P w base sp held n f4.type ((cs.drop f4.offset).take (P.cellsOf f4.type)) = some y4 ∧ DataW.trod enc P w base sp held n f5.type ((cs.drop f5.offset).take (P.cellsOf f5.type)) = some y5 ∧ DataW.trod enc P w base sp held n f6.type ((cs.drop f6.offset).take (P.cellsOf f6.type)) = some y6 ∧ DataW.trod enc P w base sp held n f7.type ((cs.drop f7.offset).take (P.cellsOf f7.type)) = some y7 := by
 obtain ⟨xs, n, _, rfl, hl, hlen, hf⟩ := DataW.trod_struct ht h
 match xs, hlen with
 | [y0, y1, y2, y3, y4, y5, y6, y7], _ => exact ⟨y0, y1, y2, y3, y4, y5, y6, y7, n, by simpa using hf 0 f0 rfl, by simpa using hf 1 f1 rfl, by simpa using hf 2 f2 rfl, by simpa using hf 3 f3 rfl, by simpa using hf 4 f4 rfl, by simpa using hf 5 f5 rfl, by simpa using hf 6 f6 rfl, by simpa using hf 7 f7 rfl⟩
theorem array11 {α : Type} {cs : Array α} (h : cs.size = 11) : ∃ c0 c1 c2 c3 c4 c5 c6 c7 c8 c9 c10, cs = #[c0, c1, c2, c3, c4, c5, c6, c7, c8, c9, c10] := by
 obtain ⟨l⟩ := cs
 match l, h with
 | [c0, c1, c2, c3, c4, c5, c6, c7, c8, c9, c10], _ => exact ⟨c0, c1, c2, c3, c4, c5, c6, c7, c8, c9, c10, rfl⟩
theorem array16 {α : Type} {cs : Array α} (h : cs.size = 16) : ∃ c0 c1 c2 c3 c4 c5 c6 c7 c8 c9 c10 c11 c12 c13 c14 c15, cs = #[c0, c1, c2, c3, c4, c5, c6, c7, c8, c9, c10, c11, c12, c13, c14, c15] := by
 obtain ⟨l⟩ := cs
 match l, h with
 | [c0, c1, c2, c3, c4, c5, c6, c7, c8, c9, c10, c11, c12, c13, c14, c15], _ => exact ⟨c0, c1, c2, c3, c4, c5, c6, c7, c8, c9, c10, c11, c12, c13, c14, c15, rfl⟩
set_option maxRecDepth 100000 in
theorem lifted (os : Os) (started : os.Started) (H : Type) (enc : TypeId × Value → H) :
 ReturnsInHanded {} Tryz.checked os 4 .any (Rows.fnExactNodeFuseSpec.pre6 enc Tryz.prog Tryz.f4 Rows.fnExactNodeFuseRow.domain false) (Rows.fnExactNodeFuseSpec.post enc Tryz.prog Tryz.f4 false true false false) := by
 refine returnsInHanded_of_change (C := Tryz.checked) own started (by kernel_rfl) Tryz.func4
  (ChangeSpec.witness6 (enc := enc) (C := Tryz.checked) false ⟨#[], #[.agg #[.int .i64 0, .int .i64 0, .int .i64 0, .int .i64 0, .int .i64 0, .int .i64 0, .int .i64 0, .int .i64 0, .int .i64 0, .int .i64 0, .slice none 0 0], .agg #[.int .i64 0, .int .i64 0, .int .i64 0, .int .i64 0, .bool false, .int .i64 0, .int .i64 0, .int .i64 0, .int .i64 0, .int .i64 0, .slice none 0 0, .slice none 0 0, .bool false, .int .i64 0, .slice none 0 0, .int .i64 0], .int .i64 0], []⟩ 8 (by kernel_rfl) (by kernel_rfl) (by kernel_rfl) (by kernel_rfl)) ?_
 intro W base args ds gs before hval0 hW hcnd _
 have hval : ∀ (j : Nat) t v, Tryz.f4.params[j]? = some t → args[j]? = some v → Value.okWide Tryz.prog W .any base t v := hval0
 have hW' := hW
 obtain ⟨p, q, hA0, hV, rfl, hfz, hnd⟩ := hW
 have hA : DataW.TrodAll enc Tryz.prog W 0 (fun _ => true) true Tryz.f4.params.toList args.toList ds p := hA0
 rw [Tryz.params4] at hA hval
 obtain ⟨v0, vs0, d0, ds0, p0, q0, hargs, rfl, rfl, h0, r0⟩ := trodAll_cons hA
 obtain ⟨v1, vs1, d1, ds1, p1, q1, rfl, rfl, rfl, h1, r1⟩ := trodAll_cons r0
 obtain ⟨v2, vs2, d2, ds2, p2, q2, rfl, rfl, rfl, h2, r2⟩ := trodAll_cons r1
 obtain ⟨rfl, rfl, rfl⟩ := trodAll_nil r2
 obtain rfl : args = #[v0, v1, v2] := by cases args; simp_all
 obtain ⟨rfl, rfl⟩ := trodVars_none hV
 have k0 := h0
 have lt0 : ∀ x ∈ p0, x.block < W.heap.size := by obtain ⟨m, hm⟩ := k0; exact DataW.trod_lt m _ _ _ hm
 have ct0_0 : Tryz.prog.cellsOf 28 = 11 := by kernel_rfl
 have ct1_0 : Tryz.prog.cellsOf 23 = 2 := by kernel_rfl
 have ct2_0 : Tryz.prog.cellsOf 26 = 3 := by kernel_rfl
 have ct3_0 : Tryz.prog.cellsOf 3 = 1 := by kernel_rfl
 have ct4_0 : Tryz.prog.cellsOf 24 = 1 := by kernel_rfl
 obtain ⟨cs0, rfl, hsz0⟩ := okWide_struct Tryz.underlying28 (hval 0 28 v0 rfl rfl)
 obtain ⟨z0_0, z1_0, z2_0, z3_0, z4_0, z5_0, z6_0, z7_0, z8_0, z9_0, z10_0, rfl⟩ := array11 (hsz0.trans ct0_0)
 obtain ⟨fu0, hf0⟩ := h0
 obtain ⟨_, _, _, _, _, _, _, _, nn1_0, t1_0_0, t1_1_0, t1_2_0, t1_3_0, t1_4_0, t1_5_0, t1_6_0, t1_7_0⟩ := fields8 Tryz.underlying28 hf0
 simp [Value.cells, ct1_0, ct3_0, ct2_0] at t1_0_0 t1_1_0 t1_2_0 t1_3_0 t1_4_0 t1_5_0 t1_6_0 t1_7_0
 obtain ⟨_, _, nn2_0, t2_0_0, t2_1_0⟩ := fields2 Tryz.underlying23 t1_0_0
 simp [ct3_0] at t2_0_0 t2_1_0
 obtain ⟨dn0, edn0, _, wdn0⟩ := DataW.trod_int Tryz.underlying3 t2_0_0
 simp at edn0
 subst edn0
 obtain ⟨dd0, edd0, _, wdd0⟩ := DataW.trod_int Tryz.underlying3 t2_1_0
 simp at edd0
 subst edd0
 obtain ⟨li0, eli0, _, wli0⟩ := DataW.trod_int Tryz.underlying3 t1_1_0
 simp at eli0
 subst eli0
 obtain ⟨le0, ele0, _, wle0⟩ := DataW.trod_int Tryz.underlying3 t1_2_0
 simp at ele0
 subst ele0
 obtain ⟨pt0, ept0, _, wpt0⟩ := DataW.trod_int Tryz.underlying3 t1_3_0
 simp at ept0
 subst ept0
 obtain ⟨ag0, eag0, _, wag0⟩ := DataW.trod_int Tryz.underlying3 t1_4_0
 simp at eag0
 subst eag0
 obtain ⟨ke0, eke0, _, wke0⟩ := DataW.trod_int Tryz.underlying3 t1_5_0
 simp at eke0
 subst eke0
 obtain ⟨lg0, elg0, _, wlg0⟩ := DataW.trod_int Tryz.underlying3 t1_6_0
 simp at elg0
 subst elg0
 obtain ⟨_, _, _, nn3_0, t3_0_0, t3_1_0, t3_2_0⟩ := fields3 Tryz.underlying26 t1_7_0
 simp [ct3_0, ct4_0] at t3_0_0 t3_1_0 t3_2_0
 obtain ⟨s0, es0, _, ws0⟩ := DataW.trod_int Tryz.underlying3 t3_0_0
 simp at es0
 subst es0
 obtain ⟨g0, eg0, _, wg0⟩ := DataW.trod_int Tryz.underlying3 t3_1_0
 simp at eg0
 subst eg0
 obtain ⟨aP0, nP0, cP0, rfl⟩ : ∃ a l c, z10_0 = .slice a l c := by
  rcases open_slice Tryz.underlying24 t3_2_0 with ⟨hcs, _⟩ | ⟨x, l, c, m, nn, D, Pl, hcs, _⟩
  ·simp at hcs; exact ⟨_, _, _, hcs⟩
  ·simp at hcs; exact ⟨_, _, _, hcs⟩
 have keyP0 : nP0 ≤ maxLen ∧ ∃ M : Nat → SlT, az W aP0 (nP0 * 2) (aH M) ∧ ∀ i, i < nP0 → (Lit.int .i64 ((M i).1)).wf = true := by
  rcases open_slice Tryz.underlying24 t3_2_0 with ⟨hcs, _⟩ | ⟨x, l, c, m, nn, D, Pl, hcs, _, hl, hm, hmm, _, hx⟩
  ·simp at hcs
   obtain ⟨rfl, rfl, rfl⟩ := hcs
   exact ⟨by simp [maxLen], fun _ => zSl, .inl (by omega), fun i hi => absurd hi (Nat.not_lt_zero _)⟩
  ·simp at hcs
   obtain ⟨rfl, rfl, rfl⟩ := hcs
   have hlm : nP0 ≤ m := by rw [hmm]; split <;> omega
   have ce : Tryz.prog.cellsOf 197 = 2 := by kernel_rfl
   have ci : Tryz.prog.cellsOf 3 = 1 := by kernel_rfl
   have each : ∀ i, i < m → ∃ q : SlT, (∀ j, j < 2 → W.cell? (x.add (i * 2 + j)) = some (l6 q j)) ∧ (Lit.int .i64 (q.1)).wf = true := by
    intro i hi
    obtain ⟨cs', h1, h2⟩ := hx i hi
    rw [ce] at h1
    obtain ⟨_, hlen, hcell⟩ := World.cells?_some h1
    match cs', hlen, h2, hcell with
    | [c0, c1], _, h2, hcell =>
     obtain ⟨y0, y1, nf, t0, t1⟩ := fields2 Tryz.underlying197 h2
     simp [ci] at t0 t1
     obtain ⟨m0, em0, _, wm0⟩ := DataW.trod_int Tryz.underlying3 t0
     simp at em0
     subst em0
     obtain ⟨m1, em1, _, wm1⟩ := DataW.trod_int Tryz.underlying3 t1
     simp at em1
     subst em1
     refine ⟨(m0, m1), fun j hj => ?_, wm0⟩
     have e := hcell j (by omega)
     rw [add_add] at e
     rw [e]
     match j, hj with
     | 0, _ => rfl
     | 1, _ => rfl
   haveI : Inhabited SlT := ⟨zSl⟩
   obtain ⟨M, hM⟩ := choose_lt each
   refine ⟨Nat.le_trans hl hm, M, ?_, fun i hi => (hM i (by omega)).2⟩
   by_cases hz : nP0 = 0
   ·exact .inl (by omega)
   ·obtain ⟨b, off, spot⟩ := x
    have h00 := (hM 0 (by omega)).1 0 (by decide)
    have hspot : spot = none := by
     have := World.cell?_spot h00
     simpa [Addr.add] using this
    subst hspot
    have hblk : b < W.heap.size := by
     have := World.block_lt_of_cell? W _ h00
     simpa [Addr.add] using this
    refine .inr ⟨b, off, rfl, hblk, fun j hj => ?_⟩
    have e := (hM (j / 2) (by omega)).1 (j % 2) (by omega)
    rw [show j / 2 * 2 + j % 2 = j by omega, add_at] at e
    exact e
 obtain ⟨hmaxP0, fP0, hsrcP0, hwfP0⟩ := keyP0
 have k1 := h1
 have lt1 : ∀ x ∈ p1, x.block < W.heap.size := by obtain ⟨m, hm⟩ := k1; exact DataW.trod_lt m _ _ _ hm
 have ct0_1 : Tryz.prog.cellsOf 43 = 16 := by kernel_rfl
 have ct1_1 : Tryz.prog.cellsOf 30 = 3 := by kernel_rfl
 have ct2_1 : Tryz.prog.cellsOf 34 = 4 := by kernel_rfl
 have ct3_1 : Tryz.prog.cellsOf 32 = 2 := by kernel_rfl
 have ct4_1 : Tryz.prog.cellsOf 37 = 3 := by kernel_rfl
 have ct5_1 : Tryz.prog.cellsOf 40 = 2 := by kernel_rfl
 have ct6_1 : Tryz.prog.cellsOf 3 = 1 := by kernel_rfl
 have ct7_1 : Tryz.prog.cellsOf 4 = 1 := by kernel_rfl
 have ct8_1 : Tryz.prog.cellsOf 35 = 1 := by kernel_rfl
 have ct9_1 : Tryz.prog.cellsOf 38 = 1 := by kernel_rfl
 have ct10_1 : Tryz.prog.cellsOf 41 = 1 := by kernel_rfl
 obtain ⟨cs1, rfl, hsz1⟩ := okWide_struct Tryz.underlying43 (hval 1 43 v1 rfl rfl)
 obtain ⟨z0_1, z1_1, z2_1, z3_1, z4_1, z5_1, z6_1, z7_1, z8_1, z9_1, z10_1, z11_1, z12_1, z13_1, z14_1, z15_1, rfl⟩ := array16 (hsz1.trans ct0_1)
 obtain ⟨fu1, hf1⟩ := h1
 obtain ⟨_, _, _, _, _, _, _, _, nn1_1, t1_0_1, t1_1_1, t1_2_1, t1_3_1, t1_4_1, t1_5_1, t1_6_1, t1_7_1⟩ := fields8 Tryz.underlying43 hf1
 simp [Value.cells, ct6_1, ct1_1, ct2_1, ct4_1, ct9_1, ct5_1, ct10_1] at t1_0_1 t1_1_1 t1_2_1 t1_3_1 t1_4_1 t1_5_1 t1_6_1 t1_7_1
 obtain ⟨ni1, eni1, _, wni1⟩ := DataW.trod_int Tryz.underlying3 t1_0_1
 simp at eni1
 subst eni1
 obtain ⟨_, _, _, nn2_1, t2_0_1, t2_1_1, t2_2_1⟩ := fields3 Tryz.underlying30 t1_1_1
 simp [ct6_1] at t2_0_1 t2_1_1 t2_2_1
 obtain ⟨mo1, emo1, _, wmo1⟩ := DataW.trod_int Tryz.underlying3 t2_0_1
 simp at emo1
 subst emo1
 obtain ⟨ep1, eep1, _, wep1⟩ := DataW.trod_int Tryz.underlying3 t2_1_1
 simp at eep1
 subst eep1
 obtain ⟨si1, esi1, _, wsi1⟩ := DataW.trod_int Tryz.underlying3 t2_2_1
 simp at esi1
 subst esi1
 obtain ⟨_, _, _, nn3_1, t3_0_1, t3_1_1, t3_2_1⟩ := fields3 Tryz.underlying34 t1_2_1
 simp [ct7_1, ct3_1, ct6_1] at t3_0_1 t3_1_1 t3_2_1
 obtain ⟨kn1, ekn1, _⟩ := DataW.trod_bool Tryz.underlying4 t3_0_1
 simp at ekn1
 subst ekn1
 obtain ⟨_, _, nn4_1, t4_0_1, t4_1_1⟩ := fields2 Tryz.underlying32 t3_1_1
 simp [ct6_1] at t4_0_1 t4_1_1
 obtain ⟨lo1, elo1, _, wlo1⟩ := DataW.trod_int Tryz.underlying3 t4_0_1
 simp at elo1
 subst elo1
 obtain ⟨hi1, ehi1, _, whi1⟩ := DataW.trod_int Tryz.underlying3 t4_1_1
 simp at ehi1
 subst ehi1
 obtain ⟨la1, ela1, _, wla1⟩ := DataW.trod_int Tryz.underlying3 t3_2_1
 simp at ela1
 subst ela1
 obtain ⟨_, _, _, nn5_1, t5_0_1, t5_1_1, t5_2_1⟩ := fields3 Tryz.underlying37 t1_3_1
 simp [ct6_1, ct8_1] at t5_0_1 t5_1_1 t5_2_1
 obtain ⟨te1, ete1, _, wte1⟩ := DataW.trod_int Tryz.underlying3 t5_0_1
 simp at ete1
 subst ete1
 obtain ⟨us1, eus1, _, wus1⟩ := DataW.trod_int Tryz.underlying3 t5_1_1
 simp at eus1
 subst eus1
 obtain ⟨aA1, nA1, cA1, rfl⟩ : ∃ a l c, z10_1 = .slice a l c := by
  rcases open_slice Tryz.underlying35 t5_2_1 with ⟨hcs, _⟩ | ⟨x, l, c, m, nn, D, Pl, hcs, _⟩
  ·simp at hcs; exact ⟨_, _, _, hcs⟩
  ·simp at hcs; exact ⟨_, _, _, hcs⟩
 have keyA1 : nA1 ≤ maxLen ∧ ∃ M : Nat → KT, az W aA1 (nA1 * 4) (aA M) ∧ ∀ i, i < nA1 → (Lit.int .i64 ((M i).1)).wf = true := by
  rcases open_slice Tryz.underlying35 t5_2_1 with ⟨hcs, _⟩ | ⟨x, l, c, m, nn, D, Pl, hcs, _, hl, hm, hmm, _, hx⟩
  ·simp at hcs
   obtain ⟨rfl, rfl, rfl⟩ := hcs
   exact ⟨by simp [maxLen], fun _ => zK, .inl (by omega), fun i hi => absurd hi (Nat.not_lt_zero _)⟩
  ·simp at hcs
   obtain ⟨rfl, rfl, rfl⟩ := hcs
   have hlm : nA1 ≤ m := by rw [hmm]; split <;> omega
   have ce : Tryz.prog.cellsOf 199 = 4 := by kernel_rfl
   have ci : Tryz.prog.cellsOf 3 = 1 := by kernel_rfl
   have each : ∀ i, i < m → ∃ q : KT, (∀ j, j < 4 → W.cell? (x.add (i * 4 + j)) = some (nC q j)) ∧ (Lit.int .i64 (q.1)).wf = true := by
    intro i hi
    obtain ⟨cs', h1, h2⟩ := hx i hi
    rw [ce] at h1
    obtain ⟨_, hlen, hcell⟩ := World.cells?_some h1
    match cs', hlen, h2, hcell with
    | [c0, c1, c2, c3], _, h2, hcell =>
     obtain ⟨y0, y1, y2, y3, nf, t0, t1, t2, t3⟩ := fields4 Tryz.underlying199 h2
     simp [ci] at t0 t1 t2 t3
     obtain ⟨m0, em0, _, wm0⟩ := DataW.trod_int Tryz.underlying3 t0
     simp at em0
     subst em0
     obtain ⟨m1, em1, _, wm1⟩ := DataW.trod_int Tryz.underlying3 t1
     simp at em1
     subst em1
     obtain ⟨m2, em2, _, wm2⟩ := DataW.trod_int Tryz.underlying3 t2
     simp at em2
     subst em2
     obtain ⟨m3, em3, _, wm3⟩ := DataW.trod_int Tryz.underlying3 t3
     simp at em3
     subst em3
     refine ⟨(m0, m1, m2, m3), fun j hj => ?_, wm0⟩
     have e := hcell j (by omega)
     rw [add_add] at e
     rw [e]
     match j, hj with
     | 0, _ => rfl
     | 1, _ => rfl
     | 2, _ => rfl
     | 3, _ => rfl
   haveI : Inhabited KT := ⟨zK⟩
   obtain ⟨M, hM⟩ := choose_lt each
   refine ⟨Nat.le_trans hl hm, M, ?_, fun i hi => (hM i (by omega)).2⟩
   by_cases hz : nA1 = 0
   ·exact .inl (by omega)
   ·obtain ⟨b, off, spot⟩ := x
    have h00 := (hM 0 (by omega)).1 0 (by decide)
    have hspot : spot = none := by
     have := World.cell?_spot h00
     simpa [Addr.add] using this
    subst hspot
    have hblk : b < W.heap.size := by
     have := World.block_lt_of_cell? W _ h00
     simpa [Addr.add] using this
    refine .inr ⟨b, off, rfl, hblk, fun j hj => ?_⟩
    have e := (hM (j / 4) (by omega)).1 (j % 4) (by omega)
    rw [show j / 4 * 4 + j % 4 = j by omega, add_at] at e
    exact e
 obtain ⟨hmaxA1, fA1, hsrcA1, hwfA1⟩ := keyA1
 obtain ⟨aQ1, nQ1, cQ1, rfl⟩ : ∃ a l c, z11_1 = .slice a l c := by
  rcases open_slice Tryz.underlying38 t1_4_1 with ⟨hcs, _⟩ | ⟨x, l, c, m, nn, D, Pl, hcs, _⟩
  ·simp at hcs; exact ⟨_, _, _, hcs⟩
  ·simp at hcs; exact ⟨_, _, _, hcs⟩
 have keyQ1 : nQ1 ≤ maxLen ∧ ∃ M : Nat → PT, az W aQ1 (nQ1 * 5) (am M) ∧ ∀ i, i < nQ1 → (Lit.int .i64 ((M i).1)).wf = true := by
  rcases open_slice Tryz.underlying38 t1_4_1 with ⟨hcs, _⟩ | ⟨x, l, c, m, nn, D, Pl, hcs, _, hl, hm, hmm, _, hx⟩
  ·simp at hcs
   obtain ⟨rfl, rfl, rfl⟩ := hcs
   exact ⟨by simp [maxLen], fun _ => zP, .inl (by omega), fun i hi => absurd hi (Nat.not_lt_zero _)⟩
  ·simp at hcs
   obtain ⟨rfl, rfl, rfl⟩ := hcs
   have hlm : nQ1 ≤ m := by rw [hmm]; split <;> omega
   have ce : Tryz.prog.cellsOf 157 = 5 := by kernel_rfl
   have ci : Tryz.prog.cellsOf 3 = 1 := by kernel_rfl
   have cb : Tryz.prog.cellsOf 4 = 1 := by kernel_rfl
   have cd : Tryz.prog.cellsOf 32 = 2 := by kernel_rfl
   have each : ∀ i, i < m → ∃ q : PT, (∀ j, j < 5 → W.cell? (x.add (i * 5 + j)) = some (en q j)) ∧ (Lit.int .i64 (q.1)).wf = true := by
    intro i hi
    obtain ⟨cs', h1, h2⟩ := hx i hi
    rw [ce] at h1
    obtain ⟨_, hlen, hcell⟩ := World.cells?_some h1
    match cs', hlen, h2, hcell with
    | [c0, c1, c2, c3, c4], _, h2, hcell =>
     obtain ⟨y0, y1, y2, y3, nf, t0, t1, t2, t3⟩ := fields4 Tryz.underlying157 h2
     simp [ci, cb, cd] at t0 t1 t2 t3
     obtain ⟨m0, em0, _, wm0⟩ := DataW.trod_int Tryz.underlying3 t0
     simp at em0
     subst em0
     obtain ⟨za, zb, nm, _, _, ua, ub⟩ := trod_struct2 Tryz.underlying32 t1
     simp [ci] at ua ub
     obtain ⟨m1, em1, _, wm1⟩ := DataW.trod_int Tryz.underlying3 ua
     simp at em1
     subst em1
     obtain ⟨m2, em2, _, wm2⟩ := DataW.trod_int Tryz.underlying3 ub
     simp at em2
     subst em2
     obtain ⟨m3, em3, _, wm3⟩ := DataW.trod_int Tryz.underlying3 t2
     simp at em3
     subst em3
     obtain ⟨m4, em4, _⟩ := DataW.trod_bool Tryz.underlying4 t3
     simp at em4
     subst em4
     refine ⟨(m0, m1, m2, m3, m4), fun j hj => ?_, wm0⟩
     have e := hcell j (by omega)
     rw [add_add] at e
     rw [e]
     match j, hj with
     | 0, _ => rfl
     | 1, _ => rfl
     | 2, _ => rfl
     | 3, _ => rfl
     | 4, _ => rfl
   haveI : Inhabited PT := ⟨zP⟩
   obtain ⟨M, hM⟩ := choose_lt each
   refine ⟨Nat.le_trans hl hm, M, ?_, fun i hi => (hM i (by omega)).2⟩
   by_cases hz : nQ1 = 0
   ·exact .inl (by omega)
   ·obtain ⟨b, off, spot⟩ := x
    have h00 := (hM 0 (by omega)).1 0 (by decide)
    have hspot : spot = none := by
     have := World.cell?_spot h00
     simpa [Addr.add] using this
    subst hspot
    have hblk : b < W.heap.size := by
     have := World.block_lt_of_cell? W _ h00
     simpa [Addr.add] using this
    refine .inr ⟨b, off, rfl, hblk, fun j hj => ?_⟩
    have e := (hM (j / 5) (by omega)).1 (j % 5) (by omega)
    rw [show j / 5 * 5 + j % 5 = j by omega, add_at] at e
    exact e
 obtain ⟨hmaxQ1, fQ1, hsrcQ1, hwfQ1⟩ := keyQ1
 obtain ⟨_, _, nn6_1, t6_0_1, t6_1_1⟩ := fields2 Tryz.underlying40 t1_5_1
 simp [ct7_1, ct6_1] at t6_0_1 t6_1_1
 obtain ⟨hs1, ehs1, _⟩ := DataW.trod_bool Tryz.underlying4 t6_0_1
 simp at ehs1
 subst ehs1
 obtain ⟨ls1, els1, _, wls1⟩ := DataW.trod_int Tryz.underlying3 t6_1_1
 simp at els1
 subst els1
 obtain ⟨aH1, nH1, cH1, rfl⟩ : ∃ a l c, z14_1 = .slice a l c := by
  rcases open_slice Tryz.underlying41 t1_6_1 with ⟨hcs, _⟩ | ⟨x, l, c, m, nn, D, Pl, hcs, _⟩
  ·simp at hcs; exact ⟨_, _, _, hcs⟩
  ·simp at hcs; exact ⟨_, _, _, hcs⟩
 have keyH1 : nH1 ≤ maxLen ∧ ∃ M : Nat → VT, az W aH1 (nH1 * 2) (au M) ∧ ∀ i, i < nH1 → (Lit.int .i64 ((M i).1)).wf = true := by
  rcases open_slice Tryz.underlying41 t1_6_1 with ⟨hcs, _⟩ | ⟨x, l, c, m, nn, D, Pl, hcs, _, hl, hm, hmm, _, hx⟩
  ·simp at hcs
   obtain ⟨rfl, rfl, rfl⟩ := hcs
   exact ⟨by simp [maxLen], fun _ => zV, .inl (by omega), fun i hi => absurd hi (Nat.not_lt_zero _)⟩
  ·simp at hcs
   obtain ⟨rfl, rfl, rfl⟩ := hcs
   have hlm : nH1 ≤ m := by rw [hmm]; split <;> omega
   have ce : Tryz.prog.cellsOf 161 = 2 := by kernel_rfl
   have ci : Tryz.prog.cellsOf 3 = 1 := by kernel_rfl
   have each : ∀ i, i < m → ∃ q : VT, (∀ j, j < 2 → W.cell? (x.add (i * 2 + j)) = some (fG q j)) ∧ (Lit.int .i64 (q.1)).wf = true := by
    intro i hi
    obtain ⟨cs', h1, h2⟩ := hx i hi
    rw [ce] at h1
    obtain ⟨_, hlen, hcell⟩ := World.cells?_some h1
    match cs', hlen, h2, hcell with
    | [c0, c1], _, h2, hcell =>
     obtain ⟨y0, y1, nf, t0, t1⟩ := fields2 Tryz.underlying161 h2
     simp [ci] at t0 t1
     obtain ⟨m0, em0, _, wm0⟩ := DataW.trod_int Tryz.underlying3 t0
     simp at em0
     subst em0
     obtain ⟨m1, em1, _, wm1⟩ := DataW.trod_int Tryz.underlying3 t1
     simp at em1
     subst em1
     refine ⟨(m0, m1), fun j hj => ?_, wm0⟩
     have e := hcell j (by omega)
     rw [add_add] at e
     rw [e]
     match j, hj with
     | 0, _ => rfl
     | 1, _ => rfl
   haveI : Inhabited VT := ⟨zV⟩
   obtain ⟨M, hM⟩ := choose_lt each
   refine ⟨Nat.le_trans hl hm, M, ?_, fun i hi => (hM i (by omega)).2⟩
   by_cases hz : nH1 = 0
   ·exact .inl (by omega)
   ·obtain ⟨b, off, spot⟩ := x
    have h00 := (hM 0 (by omega)).1 0 (by decide)
    have hspot : spot = none := by
     have := World.cell?_spot h00
     simpa [Addr.add] using this
    subst hspot
    have hblk : b < W.heap.size := by
     have := World.block_lt_of_cell? W _ h00
     simpa [Addr.add] using this
    refine .inr ⟨b, off, rfl, hblk, fun j hj => ?_⟩
    have e := (hM (j / 2) (by omega)).1 (j % 2) (by omega)
    rw [show j / 2 * 2 + j % 2 = j by omega, add_at] at e
    exact e
 obtain ⟨hmaxH1, fH1, hsrcH1, hwfH1⟩ := keyH1
 obtain ⟨se1, ese1, _, wse1⟩ := DataW.trod_int Tryz.underlying3 t1_7_1
 simp at ese1
 subst ese1
 obtain ⟨a2, rfl, rfl, rfl, w2⟩ := open_int Tryz.underlying3 (hval 2 3 v2 rfl rfl) h2
 clear hA0 hval0
 refine (jQ _ ⟨dn0, dd0, li0, le0, pt0, ag0, ke0, lg0, s0, g0, fP0, nP0⟩ _ ⟨ni1, mo1, ep1, si1, kn1, lo1, hi1, la1, te1, us1, fA1, nA1, fQ1, nQ1, hs1, ls1, fH1, nH1, se1⟩ a2 W ⟨aP0, cP0, rfl, hmaxP0, hsrcP0⟩ ⟨aA1, cA1, aQ1, cQ1, aH1, cH1, rfl, ⟨hmaxA1, hmaxQ1, hmaxH1⟩, hsrcA1, hsrcQ1, hsrcH1⟩ hwfA1 w2).mono fun e W' ⟨he, bel⟩ => ?_
 subst he
 exact ⟨_, rfl, _, _, _, [], _, [], hW', trodAll_mk1 (shut_bool Tryz.underlying4 _), (trodAll_cons_mk (Below.trod laidOut (by kernel_rfl) (of_decide_eq_true (by kernel_rfl)) k0 bel lt0) (trodAll_cons_mk (Below.trod laidOut (by kernel_rfl) (of_decide_eq_true (by kernel_rfl)) k1 bel lt1) (trodAll_cons_mk (shut_int Tryz.underlying3 w2) trodAll_mk0))), rfl, bel.frame _, fun h => by cases h⟩
set_option maxRecDepth 100000 in
set_option maxHeartbeats 16000000 in
theorem closed : joinedFacts Tryz.prog 4 Tryz.f4 Rows.fnExactNodeFuseSpec Rows.fnExactNodeFuseRow = true := by
 unfold joinedFacts
 repeat rw [Bool.and_eq_true]
 repeat' apply And.intro
 all_goals as_aux_lemma => kernel_rfl
theorem over : Rows.fnExactNodeFuseRow.holds Tryz.pinned (OpenSpec.ofChange Rows.fnExactNodeFuseSpec) :=
 OpenClaim.holds_of_wide 4 Tryz.f4 rfl rfl rfl rfl rfl rfl rfl ⟨rfl, rfl, rfl, rfl, rfl⟩ rfl rfl rfl rfl rfl (by kernel_rfl) Tryz.func4 closed
  (of_decide_eq_true (by kernel_rfl)) (by unfold Func.isWrapper; first | (rw [if_pos (by decide +kernel)]; kernel_rfl) | (rw [if_neg (by decide +kernel)]; exact ⟨rfl, rfl⟩))
  (fun os started H enc _ => lifted os started H enc)
end FnExactNodeFuseRow
theorem fnExactNodeFuse_holds : Rows.FnExactNodeFuseSaid := FnExactNodeFuseRow.over
end Go.Proofs.YtikbjljkakabdaaGreat
