/- For every world the program answers WorldFalse as the specification does, changes nothing of it, and hands out memory of its own; no condition. -/
import Derived.Test.YtddijpjgkifngaaGreatRows
import Derived.WalkKit
import Derived.WalkSpells
import Derived.WalkLawsBesides
import Derived.Deep.QuietTactic
import Derived.BigQuiet
import Derived.Deep.OwnRows
import Derived.Deep.RegionHeld
import Derived.Laws.BytesArg
import Derived.Deep.RegionHeld3
import Derived.Deep.DeepCutAuto
import Derived.WalkSmall
import Derived.Deep.DeepAppendRoom
import Derived.Laws.OwnMore
import Derived.Maps.OwnSet
import Derived.WalkMore
import Derived.ScopeJumps
import Derived.Lib.MinMax
import Derived.Lib.SmallJoins
import Derived.Laws.EntriesVeiled
import Derived.Laws.AppendOwnNone
import Derived.ProofKit
import Derived.OpenShut
import Derived.ShutString
import Derived.ChangeOld
import Derived.ChangeSame
import Derived.Below
import Derived.Deep.SlicePairs
import Derived.Deep.Slices
import Derived.Deep.Strs
import Derived.Test.YtddijpjgkifngaaGreatM2
import Derived.Test.YtddijpjgkifngaaGreatM4
import Derived.Test.YtddijpjgkifngaaGreatM5
import Derived.Test.YtddijpjgkifngaaGreatM6
import Derived.Test.YtddijpjgkifngaaGreatM15
import Derived.Test.YtddijpjgkifngaaGreatM19
import Derived.Test.YtddijpjgkifngaaGreatM23
import Derived.Test.YtddijpjgkifngaaGreatM24
import Derived.Test.YtddijpjgkifngaaGreatM25
import Derived.Test.YtddijpjgkifngaaGreatM27
import Derived.Test.YtddijpjgkifngaaGreatM30
import Derived.Test.YtddijpjgkifngaaGreatM39
import Derived.Test.YtddijpjgkifngaaGreatM46
namespace Go.Proofs.YtddijpjgkifngaaGreat
open Go.ChangeShapes Go.WideShapes Go.ChangeAt Go.RowKit Go.Joins Go.Deep
open Go.ChangeMaps (open_string shut_string)
set_option linter.unusedVariables false
namespace FnExactWorldFalseRow
theorem own : ownKnob Tryz.prog.godebug = none := by kernel_rfl
theorem laidOut : laidOutB Tryz.prog = true := by kernel_rfl
def ivOf (v : Value) : Int := match v with | .int _ z => z | _ => 0
theorem add_at (b off n : Nat) : (⟨b, off, none⟩ : Addr).add n = ⟨b, off + n, none⟩ := by
  unfold Addr.add
  split
  · next h => subst h; rfl
  · rfl
theorem fields2 {H : Type} {enc : TypeId × Value → H} {P : Program} {w : World} {base : Nat} {sp : Nat → Bool} {held : Bool} {t : TypeId} {f0 f1 : Field} {fuel : Nat} {cs : List Value} {x : DataW H × List MemPlace} (ht : P.underlying t = some (.struct #[f0, f1])) (h : DataW.trod enc P w base sp held fuel t cs = some x) :
    ∃ y0 y1 n, DataW.trod enc P w base sp held n f0.type ((cs.drop f0.offset).take (P.cellsOf f0.type)) = some y0 ∧ DataW.trod enc P w base sp held n f1.type ((cs.drop f1.offset).take (P.cellsOf f1.type)) = some y1 := by
  obtain ⟨xs, n, _, rfl, hl, hlen, hf⟩ := DataW.trod_struct ht h
  match xs, hlen with
  | [y0, y1], _ => exact ⟨y0, y1, n, by simpa using hf 0 f0 rfl, by simpa using hf 1 f1 rfl⟩
theorem fields3 {H : Type} {enc : TypeId × Value → H} {P : Program} {w : World} {base : Nat} {sp : Nat → Bool} {held : Bool} {t : TypeId} {f0 f1 f2 : Field} {fuel : Nat} {cs : List Value} {x : DataW H × List MemPlace} (ht : P.underlying t = some (.struct #[f0, f1, f2])) (h : DataW.trod enc P w base sp held fuel t cs = some x) :
    ∃ y0 y1 y2 n, DataW.trod enc P w base sp held n f0.type ((cs.drop f0.offset).take (P.cellsOf f0.type)) = some y0 ∧ DataW.trod enc P w base sp held n f1.type ((cs.drop f1.offset).take (P.cellsOf f1.type)) = some y1 ∧ DataW.trod enc P w base sp held n f2.type ((cs.drop f2.offset).take (P.cellsOf f2.type)) = some y2 := by
  obtain ⟨xs, n, _, rfl, hl, hlen, hf⟩ := DataW.trod_struct ht h
  match xs, hlen with
  | [y0, y1, y2], _ => exact ⟨y0, y1, y2, n, by simpa using hf 0 f0 rfl, by simpa using hf 1 f1 rfl, by simpa using hf 2 f2 rfl⟩
theorem fields4 {H : Type} {enc : TypeId × Value → H} {P : Program} {w : World} {base : Nat} {sp : Nat → Bool} {held : Bool} {t : TypeId} {f0 f1 f2 f3 : Field} {fuel : Nat} {cs : List Value} {x : DataW H × List MemPlace} (ht : P.underlying t = some (.struct #[f0, f1, f2, f3])) (h : DataW.trod enc P w base sp held fuel t cs = some x) :
    ∃ y0 y1 y2 y3 n, DataW.trod enc P w base sp held n f0.type ((cs.drop f0.offset).take (P.cellsOf f0.type)) = some y0 ∧ DataW.trod enc P w base sp held n f1.type ((cs.drop f1.offset).take (P.cellsOf f1.type)) = some y1 ∧ DataW.trod enc P w base sp held n f2.type ((cs.drop f2.offset).take (P.cellsOf f2.type)) = some y2 ∧ DataW.trod enc P w base sp held n f3.type ((cs.drop f3.offset).take (P.cellsOf f3.type)) = some y3 := by
  obtain ⟨xs, n, _, rfl, hl, hlen, hf⟩ := DataW.trod_struct ht h
  match xs, hlen with
  | [y0, y1, y2, y3], _ => exact ⟨y0, y1, y2, y3, n, by simpa using hf 0 f0 rfl, by simpa using hf 1 f1 rfl, by simpa using hf 2 f2 rfl, by simpa using hf 3 f3 rfl⟩
theorem fields5 {H : Type} {enc : TypeId × Value → H} {P : Program} {w : World} {base : Nat} {sp : Nat → Bool} {held : Bool} {t : TypeId} {f0 f1 f2 f3 f4 : Field} {fuel : Nat} {cs : List Value} {x : DataW H × List MemPlace} (ht : P.underlying t = some (.struct #[f0, f1, f2, f3, f4])) (h : DataW.trod enc P w base sp held fuel t cs = some x) :
    ∃ y0 y1 y2 y3 y4 n, DataW.trod enc P w base sp held n f0.type ((cs.drop f0.offset).take (P.cellsOf f0.type)) = some y0 ∧ DataW.trod enc P w base sp held n f1.type ((cs.drop f1.offset).take (P.cellsOf f1.type)) = some y1 ∧ DataW.trod enc P w base sp held n f2.type ((cs.drop f2.offset).take (P.cellsOf f2.type)) = some y2 ∧ DataW.trod enc P w base sp held n f3.type ((cs.drop f3.offset).take (P.cellsOf f3.type)) = some y3 ∧ DataW.trod enc P w base sp held n f4.type ((cs.drop f4.offset).take (P.cellsOf f4.type)) = some y4 := by
  obtain ⟨xs, n, _, rfl, hl, hlen, hf⟩ := DataW.trod_struct ht h
  match xs, hlen with
  | [y0, y1, y2, y3, y4], _ => exact ⟨y0, y1, y2, y3, y4, n, by simpa using hf 0 f0 rfl, by simpa using hf 1 f1 rfl, by simpa using hf 2 f2 rfl, by simpa using hf 3 f3 rfl, by simpa using hf 4 f4 rfl⟩
theorem fields6 {H : Type} {enc : TypeId × Value → H} {P : Program} {w : World} {base : Nat} {sp : Nat → Bool} {held : Bool} {t : TypeId} {f0 f1 f2 f3 f4 f5 : Field} {fuel : Nat} {cs : List Value} {x : DataW H × List MemPlace} (ht : P.underlying t = some (.struct #[f0, f1, f2, f3, f4, f5])) (h : DataW.trod enc P w base sp held fuel t cs = some x) :
    ∃ y0 y1 y2 y3 y4 y5 n, DataW.trod enc P w base sp held n f0.type ((cs.drop f0.offset).take (P.cellsOf f0.type)) = some y0 ∧ DataW.trod enc P w base sp held n f1.type ((cs.drop f1.offset).take (P.cellsOf f1.type)) = some y1 ∧ DataW.trod enc P w base sp held n f2.type ((cs.drop f2.offset).take (P.cellsOf f2.type)) = some y2 ∧ DataW.trod enc P w base sp held n f3.type ((cs.drop f3.offset).take (P.cellsOf f3.type)) = some y3 ∧ DataW.trod enc P w base sp held n f4.type ((cs.drop f4.offset).take (P.cellsOf f4.type)) = some y4 ∧ DataW.trod enc P w base sp held n f5.type ((cs.drop f5.offset).take (P.cellsOf f5.type)) = some y5 := by
  obtain ⟨xs, n, _, rfl, hl, hlen, hf⟩ := DataW.trod_struct ht h
  match xs, hlen with
  | [y0, y1, y2, y3, y4, y5], _ => exact ⟨y0, y1, y2, y3, y4, y5, n, by simpa using hf 0 f0 rfl, by simpa using hf 1 f1 rfl, by simpa using hf 2 f2 rfl, by simpa using hf 3 f3 rfl, by simpa using hf 4 f4 rfl, by simpa using hf 5 f5 rfl⟩
theorem fields7 {H : Type} {enc : TypeId × Value → H} {P : Program} {w : World} {base : Nat} {sp : Nat → Bool} {held : Bool} {t : TypeId} {f0 f1 f2 f3 f4 f5 f6 : Field} {fuel : Nat} {cs : List Value} {x : DataW H × List MemPlace} (ht : P.underlying t = some (.struct #[f0, f1, f2, f3, f4, f5, f6])) (h : DataW.trod enc P w base sp held fuel t cs = some x) :
    ∃ y0 y1 y2 y3 y4 y5 y6 n, DataW.trod enc P w base sp held n f0.type ((cs.drop f0.offset).take (P.cellsOf f0.type)) = some y0 ∧ DataW.trod enc P w base sp held n f1.type ((cs.drop f1.offset).take (P.cellsOf f1.type)) = some y1 ∧ DataW.trod enc P w base sp held n f2.type ((cs.drop f2.offset).take (P.cellsOf f2.type)) = some y2 ∧ DataW.trod enc P w base sp held n f3.type ((cs.drop f3.offset).take (P.cellsOf f3.type)) = some y3 ∧ DataW.trod enc P w base sp held n f4.type ((cs.drop f4.offset).take (P.cellsOf f4.type)) = some y4 ∧ DataW.trod enc P w base sp held n f5.type ((cs.drop f5.offset).take (P.cellsOf f5.type)) = some y5 ∧ DataW.trod enc P w base sp held n f6.type ((cs.drop f6.offset).take (P.cellsOf f6.type)) = some y6 := by
  obtain ⟨xs, n, _, rfl, hl, hlen, hf⟩ := DataW.trod_struct ht h
  match xs, hlen with
  | [y0, y1, y2, y3, y4, y5, y6], _ => exact ⟨y0, y1, y2, y3, y4, y5, y6, n, by simpa using hf 0 f0 rfl, by simpa using hf 1 f1 rfl, by simpa using hf 2 f2 rfl, by simpa using hf 3 f3 rfl, by simpa using hf 4 f4 rfl, by simpa using hf 5 f5 rfl, by simpa using hf 6 f6 rfl⟩
theorem fields8 {H : Type} {enc : TypeId × Value → H} {P : Program} {w : World} {base : Nat} {sp : Nat → Bool} {held : Bool} {t : TypeId} {f0 f1 f2 f3 f4 f5 f6 f7 : Field} {fuel : Nat} {cs : List Value} {x : DataW H × List MemPlace} (ht : P.underlying t = some (.struct #[f0, f1, f2, f3, f4, f5, f6, f7])) (h : DataW.trod enc P w base sp held fuel t cs = some x) :
    ∃ y0 y1 y2 y3 y4 y5 y6 y7 n, DataW.trod enc P w base sp held n f0.type ((cs.drop f0.offset).take (P.cellsOf f0.type)) = some y0 ∧ DataW.trod enc P w base sp held n f1.type ((cs.drop f1.offset).take (P.cellsOf f1.type)) = some y1 ∧ DataW.trod enc P w base sp held n f2.type ((cs.drop f2.offset).take (P.cellsOf f2.type)) = some y2 ∧ DataW.trod enc P w base sp held n f3.type ((cs.drop f3.offset).take (P.cellsOf f3.type)) = some y3 ∧ DataW.trod enc P w base sp held n f4.type ((cs.drop f4.offset).take (P.cellsOf f4.type)) = some y4 ∧ DataW.trod enc P w base sp held n f5.type ((cs.drop f5.offset).take (P.cellsOf f5.type)) = some y5 ∧ DataW.trod enc P w base sp held n f6.type ((cs.drop f6.offset).take (P.cellsOf f6.type)) = some y6 ∧ DataW.trod enc P w base sp held n f7.type ((cs.drop f7.offset).take (P.cellsOf f7.type)) = some y7 := by
  obtain ⟨xs, n, _, rfl, hl, hlen, hf⟩ := DataW.trod_struct ht h
  match xs, hlen with
  | [y0, y1, y2, y3, y4, y5, y6, y7], _ => exact ⟨y0, y1, y2, y3, y4, y5, y6, y7, n, by simpa using hf 0 f0 rfl, by simpa using hf 1 f1 rfl, by simpa using hf 2 f2 rfl, by simpa using hf 3 f3 rfl, by simpa using hf 4 f4 rfl, by simpa using hf 5 f5 rfl, by simpa using hf 6 f6 rfl, by simpa using hf 7 f7 rfl⟩
theorem array18 {α : Type} {cs : Array α} (h : cs.size = 18) : ∃ c0 c1 c2 c3 c4 c5 c6 c7 c8 c9 c10 c11 c12 c13 c14 c15 c16 c17, cs = #[c0, c1, c2, c3, c4, c5, c6, c7, c8, c9, c10, c11, c12, c13, c14, c15, c16, c17] := by
  obtain ⟨l⟩ := cs
  match l, h with
  | [c0, c1, c2, c3, c4, c5, c6, c7, c8, c9, c10, c11, c12, c13, c14, c15, c16, c17], _ => exact ⟨c0, c1, c2, c3, c4, c5, c6, c7, c8, c9, c10, c11, c12, c13, c14, c15, c16, c17, rfl⟩
def zNd : NdX := ⟨0, 0, 0, 0, false, 0, 0, 0, 0, 0, fun _ => (0, 0, 0, 0), 0, fun _ => (0, 0, 0, 0, false), 0, false, 0, fun _ => (0, 0), 0, 0⟩
theorem node_row {H : Type} {enc : TypeId × Value → H} {W : World} {base : Nat} {sp : Nat → Bool} {held : Bool} {fu : Nat} {y : DataW H × List MemPlace} (cs : List Value) (hl : cs.length = 16) (h : DataW.trod enc Tryz.prog W base sp held fu 142 cs = some y) : ∃ (A : Array Value) (q : NdX), cs = A.toList ∧ NdW W A q ∧ wfX q := by
  have ct0_N : Tryz.prog.cellsOf 142 = 16 := by kernel_rfl
  have ct1_N : Tryz.prog.cellsOf 131 = 3 := by kernel_rfl
  have ct2_N : Tryz.prog.cellsOf 134 = 4 := by kernel_rfl
  have ct3_N : Tryz.prog.cellsOf 132 = 2 := by kernel_rfl
  have ct4_N : Tryz.prog.cellsOf 137 = 3 := by kernel_rfl
  have ct5_N : Tryz.prog.cellsOf 139 = 2 := by kernel_rfl
  have ct6_N : Tryz.prog.cellsOf 3 = 1 := by kernel_rfl
  have ct7_N : Tryz.prog.cellsOf 4 = 1 := by kernel_rfl
  have ct8_N : Tryz.prog.cellsOf 135 = 1 := by kernel_rfl
  have ct9_N : Tryz.prog.cellsOf 138 = 1 := by kernel_rfl
  have ct10_N : Tryz.prog.cellsOf 140 = 1 := by kernel_rfl
  match cs, hl, h with
  | [z0_N, z1_N, z2_N, z3_N, z4_N, z5_N, z6_N, z7_N, z8_N, z9_N, z10_N, z11_N, z12_N, z13_N, z14_N, z15_N], _, hfN =>
    obtain ⟨_, _, _, _, _, _, _, _, nn1_N, t1_0_N, t1_1_N, t1_2_N, t1_3_N, t1_4_N, t1_5_N, t1_6_N, t1_7_N⟩ := fields8 Tryz.underlying142 hfN
    simp [ct6_N, ct1_N, ct2_N, ct4_N, ct9_N, ct5_N, ct10_N] at t1_0_N t1_1_N t1_2_N t1_3_N t1_4_N t1_5_N t1_6_N t1_7_N
    obtain ⟨niN, eniN, _, wniN⟩ := DataW.trod_int Tryz.underlying3 t1_0_N
    simp at eniN
    subst eniN
    obtain ⟨_, _, _, nn2_N, t2_0_N, t2_1_N, t2_2_N⟩ := fields3 Tryz.underlying131 t1_1_N
    simp [ct6_N] at t2_0_N t2_1_N t2_2_N
    obtain ⟨moN, emoN, _, wmoN⟩ := DataW.trod_int Tryz.underlying3 t2_0_N
    simp at emoN
    subst emoN
    obtain ⟨epN, eepN, _, wepN⟩ := DataW.trod_int Tryz.underlying3 t2_1_N
    simp at eepN
    subst eepN
    obtain ⟨siN, esiN, _, wsiN⟩ := DataW.trod_int Tryz.underlying3 t2_2_N
    simp at esiN
    subst esiN
    obtain ⟨_, _, _, nn3_N, t3_0_N, t3_1_N, t3_2_N⟩ := fields3 Tryz.underlying134 t1_2_N
    simp [ct7_N, ct3_N, ct6_N] at t3_0_N t3_1_N t3_2_N
    obtain ⟨knN, eknN, _⟩ := DataW.trod_bool Tryz.underlying4 t3_0_N
    simp at eknN
    subst eknN
    obtain ⟨_, _, nn4_N, t4_0_N, t4_1_N⟩ := fields2 Tryz.underlying132 t3_1_N
    simp [ct6_N] at t4_0_N t4_1_N
    obtain ⟨loN, eloN, _, wloN⟩ := DataW.trod_int Tryz.underlying3 t4_0_N
    simp at eloN
    subst eloN
    obtain ⟨hiN, ehiN, _, whiN⟩ := DataW.trod_int Tryz.underlying3 t4_1_N
    simp at ehiN
    subst ehiN
    obtain ⟨laN, elaN, _, wlaN⟩ := DataW.trod_int Tryz.underlying3 t3_2_N
    simp at elaN
    subst elaN
    obtain ⟨_, _, _, nn5_N, t5_0_N, t5_1_N, t5_2_N⟩ := fields3 Tryz.underlying137 t1_3_N
    simp [ct6_N, ct8_N] at t5_0_N t5_1_N t5_2_N
    obtain ⟨teN, eteN, _, wteN⟩ := DataW.trod_int Tryz.underlying3 t5_0_N
    simp at eteN
    subst eteN
    obtain ⟨usN, eusN, _, wusN⟩ := DataW.trod_int Tryz.underlying3 t5_1_N
    simp at eusN
    subst eusN
    obtain ⟨aAN, nAN, cAN, rfl⟩ : ∃ a l c, z10_N = .slice a l c := by
      rcases open_slice Tryz.underlying135 t5_2_N with ⟨hcs, _⟩ | ⟨x, l, c, m, nn, D, Pl, hcs, _⟩
      · simp at hcs; exact ⟨_, _, _, hcs⟩
      · simp at hcs; exact ⟨_, _, _, hcs⟩
    have keyAN : nAN ≤ maxLen ∧ ∃ M : Nat → KT, SrcC W aAN (nAN * 4) (MFAsk M) ∧ ∀ i, i < nAN → (Lit.int .i64 ((M i).1)).wf = true := by
      rcases open_slice Tryz.underlying135 t5_2_N with ⟨hcs, _⟩ | ⟨x, l, c, m, nn, D, Pl, hcs, _, hl, hm, hmm, _, hx⟩
      · simp at hcs
        obtain ⟨rfl, rfl, rfl⟩ := hcs
        exact ⟨by simp [maxLen], fun _ => zK, .inl (by omega), fun i hi => absurd hi (Nat.not_lt_zero _)⟩
      · simp at hcs
        obtain ⟨rfl, rfl, rfl⟩ := hcs
        have hlm : nAN ≤ m := by rw [hmm]; split <;> omega
        have ce : Tryz.prog.cellsOf 249 = 4 := by kernel_rfl
        have ci : Tryz.prog.cellsOf 3 = 1 := by kernel_rfl
        have each : ∀ i, i < m → ∃ q : KT, (∀ j, j < 4 → W.cell? (x.add (i * 4 + j)) = some (MCAsk q j)) ∧ (Lit.int .i64 (q.1)).wf = true := by
          intro i hi
          obtain ⟨cs', h1, h2⟩ := hx i hi
          rw [ce] at h1
          obtain ⟨_, hlen, hcell⟩ := World.cells?_some h1
          match cs', hlen, h2, hcell with
          | [c0, c1, c2, c3], _, h2, hcell =>
            obtain ⟨y0, y1, y2, y3, nf, t0, t1, t2, t3⟩ := fields4 Tryz.underlying249 h2
            simp [ci] at t0 t1 t2 t3
            obtain ⟨m0, em0, _, wm0⟩ := DataW.trod_int Tryz.underlying3 t0
            simp at em0
            subst em0
            obtain ⟨m1, em1, _, wm1⟩ := DataW.trod_int Tryz.underlying3 t1
            simp at em1
            subst em1
            obtain ⟨m2, em2, _, wm2⟩ := DataW.trod_int Tryz.underlying3 t2
            simp at em2
            subst em2
            obtain ⟨m3, em3, _, wm3⟩ := DataW.trod_int Tryz.underlying3 t3
            simp at em3
            subst em3
            refine ⟨(m0, m1, m2, m3), fun j hj => ?_, wm0⟩
            have e := hcell j (by omega)
            rw [add_add] at e
            rw [e]
            match j, hj with
            | 0, _ => rfl
            | 1, _ => rfl
            | 2, _ => rfl
            | 3, _ => rfl
        haveI : Inhabited KT := ⟨zK⟩
        obtain ⟨M, hM⟩ := choose_lt each
        refine ⟨Nat.le_trans hl hm, M, ?_, fun i hi => (hM i (by omega)).2⟩
        by_cases hz : nAN = 0
        · exact .inl (by omega)
        · obtain ⟨b, off, spot⟩ := x
          have h00 := (hM 0 (by omega)).1 0 (by decide)
          have hspot : spot = none := by
            have := World.cell?_spot h00
            simpa [Addr.add] using this
          subst hspot
          have hblk : b < W.heap.size := by
            have := World.block_lt_of_cell? W _ h00
            simpa [Addr.add] using this
          refine .inr ⟨b, off, rfl, hblk, fun j hj => ?_⟩
          have e := (hM (j / 4) (by omega)).1 (j % 4) (by omega)
          rw [show j / 4 * 4 + j % 4 = j by omega, add_at] at e
          exact e
    obtain ⟨hmaxAN, fAN, hsrcAN, hwfAN⟩ := keyAN
    obtain ⟨aQN, nQN, cQN, rfl⟩ : ∃ a l c, z11_N = .slice a l c := by
      rcases open_slice Tryz.underlying138 t1_4_N with ⟨hcs, _⟩ | ⟨x, l, c, m, nn, D, Pl, hcs, _⟩
      · simp at hcs; exact ⟨_, _, _, hcs⟩
      · simp at hcs; exact ⟨_, _, _, hcs⟩
    have keyQN : nQN ≤ maxLen ∧ ∃ M : Nat → PT, SrcC W aQN (nQN * 5) (MFPeer M) ∧ ∀ i, i < nQN → (Lit.int .i64 ((M i).1)).wf = true := by
      rcases open_slice Tryz.underlying138 t1_4_N with ⟨hcs, _⟩ | ⟨x, l, c, m, nn, D, Pl, hcs, _, hl, hm, hmm, _, hx⟩
      · simp at hcs
        obtain ⟨rfl, rfl, rfl⟩ := hcs
        exact ⟨by simp [maxLen], fun _ => zP, .inl (by omega), fun i hi => absurd hi (Nat.not_lt_zero _)⟩
      · simp at hcs
        obtain ⟨rfl, rfl, rfl⟩ := hcs
        have hlm : nQN ≤ m := by rw [hmm]; split <;> omega
        have ce : Tryz.prog.cellsOf 230 = 5 := by kernel_rfl
        have ci : Tryz.prog.cellsOf 3 = 1 := by kernel_rfl
        have cb : Tryz.prog.cellsOf 4 = 1 := by kernel_rfl
        have cd : Tryz.prog.cellsOf 132 = 2 := by kernel_rfl
        have each : ∀ i, i < m → ∃ q : PT, (∀ j, j < 5 → W.cell? (x.add (i * 5 + j)) = some (MCPeer q j)) ∧ (Lit.int .i64 (q.1)).wf = true := by
          intro i hi
          obtain ⟨cs', h1, h2⟩ := hx i hi
          rw [ce] at h1
          obtain ⟨_, hlen, hcell⟩ := World.cells?_some h1
          match cs', hlen, h2, hcell with
          | [c0, c1, c2, c3, c4], _, h2, hcell =>
            obtain ⟨y0, y1, y2, y3, nf, t0, t1, t2, t3⟩ := fields4 Tryz.underlying230 h2
            simp [ci, cb, cd] at t0 t1 t2 t3
            obtain ⟨m0, em0, _, wm0⟩ := DataW.trod_int Tryz.underlying3 t0
            simp at em0
            subst em0
            obtain ⟨za, zb, nm, _, _, ua, ub⟩ := trod_struct2 Tryz.underlying132 t1
            simp [ci] at ua ub
            obtain ⟨m1, em1, _, wm1⟩ := DataW.trod_int Tryz.underlying3 ua
            simp at em1
            subst em1
            obtain ⟨m2, em2, _, wm2⟩ := DataW.trod_int Tryz.underlying3 ub
            simp at em2
            subst em2
            obtain ⟨m3, em3, _, wm3⟩ := DataW.trod_int Tryz.underlying3 t2
            simp at em3
            subst em3
            obtain ⟨m4, em4, _⟩ := DataW.trod_bool Tryz.underlying4 t3
            simp at em4
            subst em4
            refine ⟨(m0, m1, m2, m3, m4), fun j hj => ?_, wm0⟩
            have e := hcell j (by omega)
            rw [add_add] at e
            rw [e]
            match j, hj with
            | 0, _ => rfl
            | 1, _ => rfl
            | 2, _ => rfl
            | 3, _ => rfl
            | 4, _ => rfl
        haveI : Inhabited PT := ⟨zP⟩
        obtain ⟨M, hM⟩ := choose_lt each
        refine ⟨Nat.le_trans hl hm, M, ?_, fun i hi => (hM i (by omega)).2⟩
        by_cases hz : nQN = 0
        · exact .inl (by omega)
        · obtain ⟨b, off, spot⟩ := x
          have h00 := (hM 0 (by omega)).1 0 (by decide)
          have hspot : spot = none := by
            have := World.cell?_spot h00
            simpa [Addr.add] using this
          subst hspot
          have hblk : b < W.heap.size := by
            have := World.block_lt_of_cell? W _ h00
            simpa [Addr.add] using this
          refine .inr ⟨b, off, rfl, hblk, fun j hj => ?_⟩
          have e := (hM (j / 5) (by omega)).1 (j % 5) (by omega)
          rw [show j / 5 * 5 + j % 5 = j by omega, add_at] at e
          exact e
    obtain ⟨hmaxQN, fQN, hsrcQN, hwfQN⟩ := keyQN
    obtain ⟨_, _, nn6_N, t6_0_N, t6_1_N⟩ := fields2 Tryz.underlying139 t1_5_N
    simp [ct7_N, ct6_N] at t6_0_N t6_1_N
    obtain ⟨hsN, ehsN, _⟩ := DataW.trod_bool Tryz.underlying4 t6_0_N
    simp at ehsN
    subst ehsN
    obtain ⟨lsN, elsN, _, wlsN⟩ := DataW.trod_int Tryz.underlying3 t6_1_N
    simp at elsN
    subst elsN
    obtain ⟨aHN, nHN, cHN, rfl⟩ : ∃ a l c, z14_N = .slice a l c := by
      rcases open_slice Tryz.underlying140 t1_6_N with ⟨hcs, _⟩ | ⟨x, l, c, m, nn, D, Pl, hcs, _⟩
      · simp at hcs; exact ⟨_, _, _, hcs⟩
      · simp at hcs; exact ⟨_, _, _, hcs⟩
    have keyHN : nHN ≤ maxLen ∧ ∃ M : Nat → VT, SrcC W aHN (nHN * 2) (MFIval M) ∧ ∀ i, i < nHN → (Lit.int .i64 ((M i).1)).wf = true := by
      rcases open_slice Tryz.underlying140 t1_6_N with ⟨hcs, _⟩ | ⟨x, l, c, m, nn, D, Pl, hcs, _, hl, hm, hmm, _, hx⟩
      · simp at hcs
        obtain ⟨rfl, rfl, rfl⟩ := hcs
        exact ⟨by simp [maxLen], fun _ => zV, .inl (by omega), fun i hi => absurd hi (Nat.not_lt_zero _)⟩
      · simp at hcs
        obtain ⟨rfl, rfl, rfl⟩ := hcs
        have hlm : nHN ≤ m := by rw [hmm]; split <;> omega
        have ce : Tryz.prog.cellsOf 232 = 2 := by kernel_rfl
        have ci : Tryz.prog.cellsOf 3 = 1 := by kernel_rfl
        have each : ∀ i, i < m → ∃ q : VT, (∀ j, j < 2 → W.cell? (x.add (i * 2 + j)) = some (MCIval q j)) ∧ (Lit.int .i64 (q.1)).wf = true := by
          intro i hi
          obtain ⟨cs', h1, h2⟩ := hx i hi
          rw [ce] at h1
          obtain ⟨_, hlen, hcell⟩ := World.cells?_some h1
          match cs', hlen, h2, hcell with
          | [c0, c1], _, h2, hcell =>
            obtain ⟨y0, y1, nf, t0, t1⟩ := fields2 Tryz.underlying232 h2
            simp [ci] at t0 t1
            obtain ⟨m0, em0, _, wm0⟩ := DataW.trod_int Tryz.underlying3 t0
            simp at em0
            subst em0
            obtain ⟨m1, em1, _, wm1⟩ := DataW.trod_int Tryz.underlying3 t1
            simp at em1
            subst em1
            refine ⟨(m0, m1), fun j hj => ?_, wm0⟩
            have e := hcell j (by omega)
            rw [add_add] at e
            rw [e]
            match j, hj with
            | 0, _ => rfl
            | 1, _ => rfl
        haveI : Inhabited VT := ⟨zV⟩
        obtain ⟨M, hM⟩ := choose_lt each
        refine ⟨Nat.le_trans hl hm, M, ?_, fun i hi => (hM i (by omega)).2⟩
        by_cases hz : nHN = 0
        · exact .inl (by omega)
        · obtain ⟨b, off, spot⟩ := x
          have h00 := (hM 0 (by omega)).1 0 (by decide)
          have hspot : spot = none := by
            have := World.cell?_spot h00
            simpa [Addr.add] using this
          subst hspot
          have hblk : b < W.heap.size := by
            have := World.block_lt_of_cell? W _ h00
            simpa [Addr.add] using this
          refine .inr ⟨b, off, rfl, hblk, fun j hj => ?_⟩
          have e := (hM (j / 2) (by omega)).1 (j % 2) (by omega)
          rw [show j / 2 * 2 + j % 2 = j by omega, add_at] at e
          exact e
    obtain ⟨hmaxHN, fHN, hsrcHN, hwfHN⟩ := keyHN
    obtain ⟨seN, eseN, _, wseN⟩ := DataW.trod_int Tryz.underlying3 t1_7_N
    simp at eseN
    subst eseN
    exact ⟨ndV ⟨niN, moN, epN, siN, knN, loN, hiN, laN, teN, usN, fAN, nAN, fQN, nQN, hsN, lsN, fHN, nHN, seN⟩ aAN cAN aQN cQN aHN cHN, _, rfl, ⟨aAN, cAN, aQN, cQN, aHN, cHN, rfl, ⟨hmaxAN, hmaxQN, hmaxHN⟩, hsrcAN, hsrcQN, hsrcHN⟩, hwfAN⟩
set_option maxRecDepth 100000 in
theorem lifted (os : Os) (started : os.Started) (H : Type) (enc : TypeId × Value → H) :
    ReturnsInHanded {} Tryz.checked os 6 .any (Rows.fnExactWorldFalseSpec.pre6 enc Tryz.prog Tryz.f6 Rows.fnExactWorldFalseRow.domain false) (Rows.fnExactWorldFalseSpec.post enc Tryz.prog Tryz.f6 false true false false) := by
  refine returnsInHanded_of_change (C := Tryz.checked) own started (by kernel_rfl) Tryz.func6
    (ChangeSpec.witness6 (enc := enc) (C := Tryz.checked) false ⟨#[], #[.agg #[.int .i64 0, .int .i64 0, .int .i64 0, .int .i64 0, .int .i64 0, .int .i64 0, .int .i64 0, .int .i64 0, .int .i64 0, .int .i64 0, .slice none 0 0, .slice none 0 0, .int .i64 0, .slice none 0 0, .slice none 0 0, .int .i64 0, .slice none 0 0, .slice none 0 0]], []⟩ 8 (by kernel_rfl) (by kernel_rfl) (by kernel_rfl) (by kernel_rfl)) ?_
  intro W base args ds gs before hval0 hW hcnd _
  have hval : ∀ (j : Nat) t v, Tryz.f6.params[j]? = some t → args[j]? = some v → Value.okWide Tryz.prog W .any base t v := hval0
  have hW' := hW
  obtain ⟨p, q, hA0, hV, rfl, hfz, hnd⟩ := hW
  have hA : DataW.TrodAll enc Tryz.prog W 0 (fun _ => true) true Tryz.f6.params.toList args.toList ds p := hA0
  rw [Tryz.params6] at hA hval
  obtain ⟨v0, vs0, d0, ds0, p0, q0, hargs, rfl, rfl, h0, r0⟩ := trodAll_cons hA
  obtain ⟨rfl, rfl, rfl⟩ := trodAll_nil r0
  obtain rfl : args = #[v0] := by cases args; simp_all
  obtain ⟨rfl, rfl⟩ := trodVars_none hV
  have k0 := h0
  have lt0 : ∀ x ∈ p0, x.block < W.heap.size := by obtain ⟨m, hm⟩ := k0; exact DataW.trod_lt m _ _ _ hm
  have ct0_0 : Tryz.prog.cellsOf 37 = 18 := by kernel_rfl
  have ct1_0 : Tryz.prog.cellsOf 28 = 11 := by kernel_rfl
  have ct2_0 : Tryz.prog.cellsOf 23 = 2 := by kernel_rfl
  have ct3_0 : Tryz.prog.cellsOf 26 = 3 := by kernel_rfl
  have ct4_0 : Tryz.prog.cellsOf 34 = 2 := by kernel_rfl
  have ct5_0 : Tryz.prog.cellsOf 3 = 1 := by kernel_rfl
  have ct6_0 : Tryz.prog.cellsOf 24 = 1 := by kernel_rfl
  have ct7_0 : Tryz.prog.cellsOf 29 = 1 := by kernel_rfl
  have ct8_0 : Tryz.prog.cellsOf 30 = 1 := by kernel_rfl
  have ct9_0 : Tryz.prog.cellsOf 31 = 1 := by kernel_rfl
  have ct10_0 : Tryz.prog.cellsOf 32 = 1 := by kernel_rfl
  have ct11_0 : Tryz.prog.cellsOf 35 = 1 := by kernel_rfl
  obtain ⟨cs0, rfl, hsz0⟩ := okWide_struct Tryz.underlying37 (hval 0 37 v0 rfl rfl)
  obtain ⟨z0_0, z1_0, z2_0, z3_0, z4_0, z5_0, z6_0, z7_0, z8_0, z9_0, z10_0, z11_0, z12_0, z13_0, z14_0, z15_0, z16_0, z17_0, rfl⟩ := array18 (hsz0.trans ct0_0)
  obtain ⟨fu0, hf0⟩ := h0
  obtain ⟨_, _, _, _, _, _, _, nn1_0, t1_0_0, t1_1_0, t1_2_0, t1_3_0, t1_4_0, t1_5_0, t1_6_0⟩ := fields7 Tryz.underlying37 hf0
  simp [Value.cells, ct1_0, ct7_0, ct5_0, ct8_0, ct9_0, ct4_0, ct11_0] at t1_0_0 t1_1_0 t1_2_0 t1_3_0 t1_4_0 t1_5_0 t1_6_0
  obtain ⟨_, _, _, _, _, _, _, _, nn2_0, t2_0_0, t2_1_0, t2_2_0, t2_3_0, t2_4_0, t2_5_0, t2_6_0, t2_7_0⟩ := fields8 Tryz.underlying28 t1_0_0
  simp [ct2_0, ct5_0, ct3_0] at t2_0_0 t2_1_0 t2_2_0 t2_3_0 t2_4_0 t2_5_0 t2_6_0 t2_7_0
  obtain ⟨_, _, nn3_0, t3_0_0, t3_1_0⟩ := fields2 Tryz.underlying23 t2_0_0
  simp [ct5_0] at t3_0_0 t3_1_0
  obtain ⟨dn0, edn0, _, wdn0⟩ := DataW.trod_int Tryz.underlying3 t3_0_0
  simp at edn0
  subst edn0
  obtain ⟨dd0, edd0, _, wdd0⟩ := DataW.trod_int Tryz.underlying3 t3_1_0
  simp at edd0
  subst edd0
  obtain ⟨li0, eli0, _, wli0⟩ := DataW.trod_int Tryz.underlying3 t2_1_0
  simp at eli0
  subst eli0
  obtain ⟨le0, ele0, _, wle0⟩ := DataW.trod_int Tryz.underlying3 t2_2_0
  simp at ele0
  subst ele0
  obtain ⟨pt0, ept0, _, wpt0⟩ := DataW.trod_int Tryz.underlying3 t2_3_0
  simp at ept0
  subst ept0
  obtain ⟨ag0, eag0, _, wag0⟩ := DataW.trod_int Tryz.underlying3 t2_4_0
  simp at eag0
  subst eag0
  obtain ⟨ke0, eke0, _, wke0⟩ := DataW.trod_int Tryz.underlying3 t2_5_0
  simp at eke0
  subst eke0
  obtain ⟨lg0, elg0, _, wlg0⟩ := DataW.trod_int Tryz.underlying3 t2_6_0
  simp at elg0
  subst elg0
  obtain ⟨_, _, _, nn4_0, t4_0_0, t4_1_0, t4_2_0⟩ := fields3 Tryz.underlying26 t2_7_0
  simp [ct5_0, ct6_0] at t4_0_0 t4_1_0 t4_2_0
  obtain ⟨s0, es0, _, ws0⟩ := DataW.trod_int Tryz.underlying3 t4_0_0
  simp at es0
  subst es0
  obtain ⟨g0, eg0, _, wg0⟩ := DataW.trod_int Tryz.underlying3 t4_1_0
  simp at eg0
  subst eg0
  obtain ⟨aP0, nP0, cP0, rfl⟩ : ∃ a l c, z10_0 = .slice a l c := by
    rcases open_slice Tryz.underlying24 t4_2_0 with ⟨hcs, _⟩ | ⟨x, l, c, m, nn, D, Pl, hcs, _⟩
    · simp at hcs; exact ⟨_, _, _, hcs⟩
    · simp at hcs; exact ⟨_, _, _, hcs⟩
  have keyP0 : nP0 ≤ maxLen ∧ ∃ M : Nat → SlT, SrcC W aP0 (nP0 * 2) (MFSlot M) ∧ ∀ i, i < nP0 → (Lit.int .i64 ((M i).1)).wf = true := by
    rcases open_slice Tryz.underlying24 t4_2_0 with ⟨hcs, _⟩ | ⟨x, l, c, m, nn, D, Pl, hcs, _, hl, hm, hmm, _, hx⟩
    · simp at hcs
      obtain ⟨rfl, rfl, rfl⟩ := hcs
      exact ⟨by simp [maxLen], fun _ => zSl, .inl (by omega), fun i hi => absurd hi (Nat.not_lt_zero _)⟩
    · simp at hcs
      obtain ⟨rfl, rfl, rfl⟩ := hcs
      have hlm : nP0 ≤ m := by rw [hmm]; split <;> omega
      have ce : Tryz.prog.cellsOf 212 = 2 := by kernel_rfl
      have ci : Tryz.prog.cellsOf 3 = 1 := by kernel_rfl
      have each : ∀ i, i < m → ∃ q : SlT, (∀ j, j < 2 → W.cell? (x.add (i * 2 + j)) = some (MCSlot q j)) ∧ (Lit.int .i64 (q.1)).wf = true := by
        intro i hi
        obtain ⟨cs', h1, h2⟩ := hx i hi
        rw [ce] at h1
        obtain ⟨_, hlen, hcell⟩ := World.cells?_some h1
        match cs', hlen, h2, hcell with
        | [c0, c1], _, h2, hcell =>
          obtain ⟨y0, y1, nf, t0, t1⟩ := fields2 Tryz.underlying212 h2
          simp [ci] at t0 t1
          obtain ⟨m0, em0, _, wm0⟩ := DataW.trod_int Tryz.underlying3 t0
          simp at em0
          subst em0
          obtain ⟨m1, em1, _, wm1⟩ := DataW.trod_int Tryz.underlying3 t1
          simp at em1
          subst em1
          refine ⟨(m0, m1), fun j hj => ?_, wm0⟩
          have e := hcell j (by omega)
          rw [add_add] at e
          rw [e]
          match j, hj with
          | 0, _ => rfl
          | 1, _ => rfl
      haveI : Inhabited SlT := ⟨zSl⟩
      obtain ⟨M, hM⟩ := choose_lt each
      refine ⟨Nat.le_trans hl hm, M, ?_, fun i hi => (hM i (by omega)).2⟩
      by_cases hz : nP0 = 0
      · exact .inl (by omega)
      · obtain ⟨b, off, spot⟩ := x
        have h00 := (hM 0 (by omega)).1 0 (by decide)
        have hspot : spot = none := by
          have := World.cell?_spot h00
          simpa [Addr.add] using this
        subst hspot
        have hblk : b < W.heap.size := by
          have := World.block_lt_of_cell? W _ h00
          simpa [Addr.add] using this
        refine .inr ⟨b, off, rfl, hblk, fun j hj => ?_⟩
        have e := (hM (j / 2) (by omega)).1 (j % 2) (by omega)
        rw [show j / 2 * 2 + j % 2 = j by omega, add_at] at e
        exact e
  obtain ⟨hmaxP0, fP0, hsrcP0, hwfP0⟩ := keyP0
  obtain ⟨aL0, nL0, cL0, rfl⟩ : ∃ a l c, z11_0 = .slice a l c := by
    rcases open_slice Tryz.underlying29 t1_1_0 with ⟨hcs, _⟩ | ⟨x, l, c, m, nn, D, Pl, hcs, _⟩
    · simp at hcs; exact ⟨_, _, _, hcs⟩
    · simp at hcs; exact ⟨_, _, _, hcs⟩
  have keyL0 : nL0 ≤ maxLen ∧ ∃ M : Nat → Bool, SrcC W aL0 nL0 (boG M) := by
    rcases open_slice Tryz.underlying29 t1_1_0 with ⟨hcs, _⟩ | ⟨x, l, c, m, nn, D, Pl, hcs, _, hl, hm, hmm, _, hx⟩
    · simp at hcs
      obtain ⟨rfl, rfl, rfl⟩ := hcs
      exact ⟨by simp [maxLen], fun _ => false, .inl rfl⟩
    · simp at hcs
      obtain ⟨rfl, rfl, rfl⟩ := hcs
      have hlm : nL0 ≤ m := by rw [hmm]; split <;> omega
      have ce : Tryz.prog.cellsOf 4 = 1 := by kernel_rfl
      have each : ∀ i, i < m → ∃ q : Bool, W.cell? (x.add i) = some (.bool q) := by
        intro i hi
        obtain ⟨cs', h1, h2⟩ := hx i hi
        rw [ce] at h1
        obtain ⟨_, hlen, hcell⟩ := World.cells?_some h1
        match cs', hlen, h2, hcell with
        | [c0], _, h2, hcell =>
          obtain ⟨m0, em0, _⟩ := DataW.trod_bool Tryz.underlying4 h2
          simp at em0
          subst em0
          refine ⟨m0, ?_⟩
          have e := hcell 0 (by omega)
          rw [add_add, Nat.mul_one, Nat.add_zero] at e
          rw [e]; rfl
      obtain ⟨M, hM⟩ := choose_lt each
      refine ⟨Nat.le_trans hl hm, M, ?_⟩
      by_cases hz : nL0 = 0
      · exact .inl hz
      · obtain ⟨b, off, spot⟩ := x
        have h00 := hM 0 (by omega)
        have hspot : spot = none := by
          have := World.cell?_spot h00
          simpa [Addr.add] using this
        subst hspot
        have hblk : b < W.heap.size := by
          have := World.block_lt_of_cell? W _ h00
          simpa [Addr.add] using this
        refine .inr ⟨b, off, rfl, hblk, fun j hj => ?_⟩
        have e := hM j (by omega)
        rw [add_at] at e
        exact e
  obtain ⟨hmaxL0, fL0, hsrcL0⟩ := keyL0
  obtain ⟨ti0, eti0, _, wti0⟩ := DataW.trod_int Tryz.underlying3 t1_2_0
  simp at eti0
  subst eti0
  obtain ⟨aC0, nC0, cC0, rfl⟩ : ∃ a l c, z13_0 = .slice a l c := by
    rcases open_slice Tryz.underlying30 t1_3_0 with ⟨hcs, _⟩ | ⟨x, l, c, m, nn, D, Pl, hcs, _⟩
    · simp at hcs; exact ⟨_, _, _, hcs⟩
    · simp at hcs; exact ⟨_, _, _, hcs⟩
  have keyC0 : nC0 ≤ maxLen ∧ ∃ M : Nat → Int, SrcC W aC0 nC0 (itG M) := by
    rcases open_slice Tryz.underlying30 t1_3_0 with ⟨hcs, _⟩ | ⟨x, l, c, m, nn, D, Pl, hcs, _, hl, hm, hmm, _, hx⟩
    · simp at hcs
      obtain ⟨rfl, rfl, rfl⟩ := hcs
      exact ⟨by simp [maxLen], fun _ => 0, .inl rfl⟩
    · simp at hcs
      obtain ⟨rfl, rfl, rfl⟩ := hcs
      have hlm : nC0 ≤ m := by rw [hmm]; split <;> omega
      have ce : Tryz.prog.cellsOf 3 = 1 := by kernel_rfl
      have each : ∀ i, i < m → ∃ q : Int, W.cell? (x.add i) = some (.int .i64 q) := by
        intro i hi
        obtain ⟨cs', h1, h2⟩ := hx i hi
        rw [ce] at h1
        obtain ⟨_, hlen, hcell⟩ := World.cells?_some h1
        match cs', hlen, h2, hcell with
        | [c0], _, h2, hcell =>
          obtain ⟨m0, em0, _, _⟩ := DataW.trod_int Tryz.underlying3 h2
          simp at em0
          subst em0
          refine ⟨m0, ?_⟩
          have e := hcell 0 (by omega)
          rw [add_add, Nat.mul_one, Nat.add_zero] at e
          rw [e]; rfl
      obtain ⟨M, hM⟩ := choose_lt each
      refine ⟨Nat.le_trans hl hm, M, ?_⟩
      by_cases hz : nC0 = 0
      · exact .inl hz
      · obtain ⟨b, off, spot⟩ := x
        have h00 := hM 0 (by omega)
        have hspot : spot = none := by
          have := World.cell?_spot h00
          simpa [Addr.add] using this
        subst hspot
        have hblk : b < W.heap.size := by
          have := World.block_lt_of_cell? W _ h00
          simpa [Addr.add] using this
        refine .inr ⟨b, off, rfl, hblk, fun j hj => ?_⟩
        have e := hM j (by omega)
        rw [add_at] at e
        exact e
  obtain ⟨hmaxC0, fC0, hsrcC0⟩ := keyC0
  obtain ⟨aN0, nN0, cN0, rfl⟩ : ∃ a l c, z14_0 = .slice a l c := by
    rcases open_slice Tryz.underlying31 t1_4_0 with ⟨hcs, _⟩ | ⟨x, l, c, m, nn, D, Pl, hcs, _⟩
    · simp at hcs; exact ⟨_, _, _, hcs⟩
    · simp at hcs; exact ⟨_, _, _, hcs⟩
  have keyN0 : nN0 ≤ maxLen ∧ ∃ XM : Nat → NdX, RwN NdW W aN0 nN0 XM ∧ ∀ i, i < nN0 → wfX (XM i) := by
    rcases open_slice Tryz.underlying31 t1_4_0 with ⟨hcs, _⟩ | ⟨x, l, c, m, nn, D, Pl, hcs, _, hl, hm, hmm, _, hx⟩
    · simp at hcs
      obtain ⟨rfl, rfl, rfl⟩ := hcs
      exact ⟨by simp [maxLen], fun _ => zNd, .inl rfl, fun i hi => absurd hi (Nat.not_lt_zero _)⟩
    · simp at hcs
      obtain ⟨rfl, rfl, rfl⟩ := hcs
      have hlm : nN0 ≤ m := by rw [hmm]; split <;> omega
      have ce : Tryz.prog.cellsOf 142 = 16 := by kernel_rfl
      have each : ∀ i, i < m → ∃ q : Array Value × NdX, (∀ j u, q.1[j]? = some u → W.cell? (x.add (i * 16 + j)) = some u) ∧ NdW W q.1 q.2 ∧ wfX q.2 := by
        intro i hi
        obtain ⟨cs', h1, h2⟩ := hx i hi
        rw [ce] at h1
        obtain ⟨_, hlen, hcell⟩ := World.cells?_some h1
        obtain ⟨A, q, e, hn, hw⟩ := node_row cs' hlen h2
        refine ⟨(A, q), fun j u hj => ?_, hn, hw⟩
        have hj : A[j]? = some u := hj
        have hA : A.toList.length = 16 := by rw [← e]; exact hlen
        have hjl : j < 16 := by have := (Array.getElem?_eq_some_iff.1 hj).1; simp at hA; omega
        have e2 := hcell j hjl
        rw [add_add] at e2
        rw [e2, e]
        simpa using hj
      haveI : Inhabited (Array Value × NdX) := ⟨(#[], zNd)⟩
      obtain ⟨M, hM⟩ := choose_lt each
      refine ⟨Nat.le_trans hl hm, fun i => (M i).2, ?_, fun i hi => (hM i (by omega)).2.2⟩
      by_cases hz : nN0 = 0
      · exact .inl hz
      · obtain ⟨b, off, spot⟩ := x
        have h00 := (hM 0 (by omega)).1 0 _ (hM 0 (by omega)).2.1.id
        have hspot : spot = none := by
          have := World.cell?_spot h00
          simpa [Addr.add] using this
        subst hspot
        have hblk : b < W.heap.size := by
          have := World.block_lt_of_cell? W _ h00
          simpa [Addr.add] using this
        refine .inr ⟨b, off, fun i => (M i).1, rfl, ⟨hblk, fun i hi j u hj => ?_⟩, fun i hi => (hM i (by omega)).2.1⟩
        have e := (hM i (by omega)).1 j u hj
        rw [add_at, ← Nat.add_assoc] at e
        exact e
  obtain ⟨hmaxN0, fN0, hsrcN0, hwfN0⟩ := keyN0
  obtain ⟨_, _, nn5_0, t5_0_0, t5_1_0⟩ := fields2 Tryz.underlying34 t1_5_0
  simp [ct5_0, ct10_0] at t5_0_0 t5_1_0
  obtain ⟨nx0, enx0, _, wnx0⟩ := DataW.trod_int Tryz.underlying3 t5_0_0
  simp at enx0
  subst enx0
  obtain ⟨aF0, nF0, cF0, rfl⟩ : ∃ a l c, z16_0 = .slice a l c := by
    rcases open_slice Tryz.underlying32 t5_1_0 with ⟨hcs, _⟩ | ⟨x, l, c, m, nn, D, Pl, hcs, _⟩
    · simp at hcs; exact ⟨_, _, _, hcs⟩
    · simp at hcs; exact ⟨_, _, _, hcs⟩
  have keyF0 : nF0 ≤ maxLen ∧ ∃ M : Nat → FT, SrcC W aF0 (nF0 * 5) (MFFlight M) ∧ ∀ i, i < nF0 → ((M i).2.2.2.1).size ≤ maxLen ∧ (Lit.int .i64 ((M i).1)).wf = true := by
    rcases open_slice Tryz.underlying32 t5_1_0 with ⟨hcs, _⟩ | ⟨x, l, c, m, nn, D, Pl, hcs, _, hl, hm, hmm, _, hx⟩
    · simp at hcs
      obtain ⟨rfl, rfl, rfl⟩ := hcs
      exact ⟨by simp [maxLen], fun _ => zF, .inl (by omega), fun i hi => absurd hi (Nat.not_lt_zero _)⟩
    · simp at hcs
      obtain ⟨rfl, rfl, rfl⟩ := hcs
      have hlm : nF0 ≤ m := by rw [hmm]; split <;> omega
      have ce : Tryz.prog.cellsOf 193 = 5 := by kernel_rfl
      have ci : Tryz.prog.cellsOf 3 = 1 := by kernel_rfl
      have cs : Tryz.prog.cellsOf 9 = 1 := by kernel_rfl
      have each : ∀ i, i < m → ∃ q : FT, (∀ j, j < 5 → W.cell? (x.add (i * 5 + j)) = some (MCFlight q j)) ∧ (q.2.2.2.1).size ≤ maxLen ∧ (Lit.int .i64 (q.1)).wf = true := by
        intro i hi
        obtain ⟨cs', h1, h2⟩ := hx i hi
        rw [ce] at h1
        obtain ⟨_, hlen, hcell⟩ := World.cells?_some h1
        match cs', hlen, h2, hcell with
        | [c0, c1, c2, c3, c4], _, h2, hcell =>
          obtain ⟨y0, y1, y2, y3, y4, nf, t0, t1, t2, t3, t4⟩ := fields5 Tryz.underlying193 h2
          simp [ci, cs] at t0 t1 t2 t3 t4
          obtain ⟨m0, em0, _, wm0⟩ := DataW.trod_int Tryz.underlying3 t0
          simp at em0
          subst em0
          obtain ⟨m1, em1, _, wm1⟩ := DataW.trod_int Tryz.underlying3 t1
          simp at em1
          subst em1
          obtain ⟨m2, em2, _, wm2⟩ := DataW.trod_int Tryz.underlying3 t2
          simp at em2
          subst em2
          obtain ⟨m3, em3, _, hs3⟩ := DataW.trod_string Tryz.underlying9 t3
          simp at em3
          subst em3
          obtain ⟨m4, em4, _, wm4⟩ := DataW.trod_int Tryz.underlying3 t4
          simp at em4
          subst em4
          refine ⟨(m0, m1, m2, m3, m4), fun j hj => ?_, hs3, wm0⟩
          have e := hcell j (by omega)
          rw [add_add] at e
          rw [e]
          match j, hj with
          | 0, _ => rfl
          | 1, _ => rfl
          | 2, _ => rfl
          | 3, _ => rfl
          | 4, _ => rfl
      haveI : Inhabited FT := ⟨zF⟩
      obtain ⟨M, hM⟩ := choose_lt each
      refine ⟨Nat.le_trans hl hm, M, ?_, fun i hi => (hM i (by omega)).2⟩
      by_cases hz : nF0 = 0
      · exact .inl (by omega)
      · obtain ⟨b, off, spot⟩ := x
        have h00 := (hM 0 (by omega)).1 0 (by decide)
        have hspot : spot = none := by
          have := World.cell?_spot h00
          simpa [Addr.add] using this
        subst hspot
        have hblk : b < W.heap.size := by
          have := World.block_lt_of_cell? W _ h00
          simpa [Addr.add] using this
        refine .inr ⟨b, off, rfl, hblk, fun j hj => ?_⟩
        have e := (hM (j / 5) (by omega)).1 (j % 5) (by omega)
        rw [show j / 5 * 5 + j % 5 = j by omega, add_at] at e
        exact e
  obtain ⟨hmaxF0, fF0, hsrcF0, hwfF0⟩ := keyF0
  obtain ⟨aB0, nB0, cB0, rfl⟩ : ∃ a l c, z17_0 = .slice a l c := by
    rcases open_slice Tryz.underlying35 t1_6_0 with ⟨hcs, _⟩ | ⟨x, l, c, m, nn, D, Pl, hcs, _⟩
    · simp at hcs; exact ⟨_, _, _, hcs⟩
    · simp at hcs; exact ⟨_, _, _, hcs⟩
  have keyB0 : nB0 ≤ maxLen ∧ ∃ M : Nat → FrT, SrcC W aB0 (nB0 * 6) (MFFrame M) ∧ ∀ i, i < nB0 → ((M i).2.2.2.2.2).size ≤ maxLen := by
    rcases open_slice Tryz.underlying35 t1_6_0 with ⟨hcs, _⟩ | ⟨x, l, c, m, nn, D, Pl, hcs, _, hl, hm, hmm, _, hx⟩
    · simp at hcs
      obtain ⟨rfl, rfl, rfl⟩ := hcs
      exact ⟨by simp [maxLen], fun _ => zFr, .inl (by omega), fun i hi => absurd hi (Nat.not_lt_zero _)⟩
    · simp at hcs
      obtain ⟨rfl, rfl, rfl⟩ := hcs
      have hlm : nB0 ≤ m := by rw [hmm]; split <;> omega
      have ce : Tryz.prog.cellsOf 145 = 6 := by kernel_rfl
      have ci : Tryz.prog.cellsOf 3 = 1 := by kernel_rfl
      have cs : Tryz.prog.cellsOf 9 = 1 := by kernel_rfl
      have each : ∀ i, i < m → ∃ q : FrT, (∀ j, j < 6 → W.cell? (x.add (i * 6 + j)) = some (MCFrame q j)) ∧ (q.2.2.2.2.2).size ≤ maxLen := by
        intro i hi
        obtain ⟨cs', h1, h2⟩ := hx i hi
        rw [ce] at h1
        obtain ⟨_, hlen, hcell⟩ := World.cells?_some h1
        match cs', hlen, h2, hcell with
        | [c0, c1, c2, c3, c4, c5], _, h2, hcell =>
          obtain ⟨y0, y1, y2, y3, y4, y5, nf, t0, t1, t2, t3, t4, t5⟩ := fields6 Tryz.underlying145 h2
          simp [ci, cs] at t0 t1 t2 t3 t4 t5
          obtain ⟨m0, em0, _, wm0⟩ := DataW.trod_int Tryz.underlying3 t0
          simp at em0
          subst em0
          obtain ⟨m1, em1, _, wm1⟩ := DataW.trod_int Tryz.underlying3 t1
          simp at em1
          subst em1
          obtain ⟨m2, em2, _, wm2⟩ := DataW.trod_int Tryz.underlying3 t2
          simp at em2
          subst em2
          obtain ⟨m3, em3, _, wm3⟩ := DataW.trod_int Tryz.underlying3 t3
          simp at em3
          subst em3
          obtain ⟨m4, em4, _, wm4⟩ := DataW.trod_int Tryz.underlying3 t4
          simp at em4
          subst em4
          obtain ⟨m5, em5, _, hs5⟩ := DataW.trod_string Tryz.underlying9 t5
          simp at em5
          subst em5
          refine ⟨(m0, m1, m2, m3, m4, m5), fun j hj => ?_, hs5⟩
          have e := hcell j (by omega)
          rw [add_add] at e
          rw [e]
          match j, hj with
          | 0, _ => rfl
          | 1, _ => rfl
          | 2, _ => rfl
          | 3, _ => rfl
          | 4, _ => rfl
          | 5, _ => rfl
      haveI : Inhabited FrT := ⟨zFr⟩
      obtain ⟨M, hM⟩ := choose_lt each
      refine ⟨Nat.le_trans hl hm, M, ?_, fun i hi => (hM i (by omega)).2⟩
      by_cases hz : nB0 = 0
      · exact .inl (by omega)
      · obtain ⟨b, off, spot⟩ := x
        have h00 := (hM 0 (by omega)).1 0 (by decide)
        have hspot : spot = none := by
          have := World.cell?_spot h00
          simpa [Addr.add] using this
        subst hspot
        have hblk : b < W.heap.size := by
          have := World.block_lt_of_cell? W _ h00
          simpa [Addr.add] using this
        refine .inr ⟨b, off, rfl, hblk, fun j hj => ?_⟩
        have e := (hM (j / 6) (by omega)).1 (j % 6) (by omega)
        rw [show j / 6 * 6 + j % 6 = j by omega, add_at] at e
        exact e
  obtain ⟨hmaxB0, fB0, hsrcB0, hwfB0⟩ := keyB0
  clear hA0 hval0
  refine (lawWorldFalse _ ⟨⟨dn0, dd0, li0, le0, pt0, ag0, ke0, lg0, s0, g0, fP0, nP0⟩, fL0, nL0, ti0, fC0, nC0, fN0, nN0, nx0, fF0, nF0, fB0, nB0⟩ W ⟨aP0, cP0, aL0, cL0, aC0, cC0, aN0, cN0, aF0, cF0, aB0, cB0, rfl, ⟨hmaxP0, hmaxL0, hmaxC0, hmaxN0, hmaxF0, hmaxB0⟩, hsrcP0, hsrcL0, hsrcC0, hsrcN0, hsrcF0, hsrcB0⟩ ⟨fun j hj => (hwfF0 j hj).1, hwfB0⟩ ⟨hwfN0, fun j hj => (hwfF0 j hj).2⟩).mono fun e W' ⟨he, bel⟩ => ?_
  subst he
  exact ⟨_, rfl, _, _, _, [], _, [], hW', trodAll_mk1 (shut_bool Tryz.underlying4 _), (trodAll_cons_mk (Below.trod laidOut (by kernel_rfl) (of_decide_eq_true (by kernel_rfl)) k0 bel lt0) trodAll_mk0), rfl, bel.frame _, fun h => by cases h⟩
set_option maxRecDepth 100000 in
set_option maxHeartbeats 16000000 in
theorem closed : joinedFacts Tryz.prog 6 Tryz.f6 Rows.fnExactWorldFalseSpec Rows.fnExactWorldFalseRow = true := by
  unfold joinedFacts
  repeat rw [Bool.and_eq_true]
  repeat' apply And.intro
  all_goals as_aux_lemma => kernel_rfl
theorem over : Rows.fnExactWorldFalseRow.holds Tryz.pinned (OpenSpec.ofChange Rows.fnExactWorldFalseSpec) :=
  OpenClaim.holds_of_wide 6 Tryz.f6 rfl rfl rfl rfl rfl rfl rfl ⟨rfl, rfl, rfl, rfl, rfl⟩ rfl rfl rfl rfl rfl (by kernel_rfl) Tryz.func6 closed
    (of_decide_eq_true (by kernel_rfl)) (by unfold Func.isWrapper; first | (rw [if_pos (by decide +kernel)]; kernel_rfl) | (rw [if_neg (by decide +kernel)]; exact ⟨rfl, rfl⟩))
    (fun os started H enc _ => lifted os started H enc)
end FnExactWorldFalseRow
theorem fnExactWorldFalse_holds : Rows.FnExactWorldFalseSaid := FnExactWorldFalseRow.over
end Go.Proofs.YtddijpjgkifngaaGreat
