/- RoundOf and SlotFrom in the specification. -/
import Derived.Test.YtdahabbdhjgpdaaDoorB133
import Derived.Deep.QuietTactic
import Derived.BigQuiet
import Derived.WalkKit
import Derived.WalkSpells
import Derived.WalkLawsBesides
import Derived.Deep.RegionHeld
namespace Go.Proofs.YtdahabbdhjgpdaaDoor
open Go.RowKit
set_option linter.unusedVariables false
theorem below_drewN13 {B : Nat} {w w' : World} (h : Below B w w') (nq : Nat) : Below B w (w'.drewN nq) := ⟨h.os, h.tape, h.output, h.size, h.block⟩
/- How long the first slots are, in the specification. -/
set_option maxRecDepth 100000 in
set_option maxHeartbeats 8000000 in
theorem specUpto_any (s g : Int) (a : Option Addr) (n c : Nat) (M : Nat → SlT) (k : Nat) (w : World) (hp : plB s g M n = true) (hk : k ≤ n) (hs : SrcC w a (n * 2) (MFSlot M)) :
    Calls Tryd.prog 90 #[.agg #[.int .i64 s, .int .i64 g, .slice a n c], .int .i64 (k : Int)] w fun e w' => e = .returned (.int .i64 (upS g M k)) ∧ Below w.heap.size w w' := by
  obtain ⟨p1, p2, p3, p4⟩ := plB_t hp
  have B := Below.nw w (.cells #[.int .i64 s, .int .i64 g, .slice a n c] 27)
  have N := Tx3.new w (.int .i64 s) (.int .i64 g) (.slice a n c) 27
  obtain ⟨b, off, rfl, hf⟩ : ∃ b off, a = some ⟨b, off, none⟩ ∧ Cs w b off (n * 2) (MFSlot M) := by
    rcases hs with q | q
    · exact absurd q (by omega)
    · exact q
  have HF : Hid (Cs w b off (n * 2) (MFSlot M)) := hf
  have HP2 : Hid (0 ≤ g ∧ g ≤ 100000) := p2
  have HP4 : Hid (slA M n = true) := p4
  clear hf hs hp p1 p2 p4
  go_enter Tryd.func90, Tryd.ntmps90
  go_upto_region 1 with fail
  generalize w.alloc (.cells #[.int .i64 s, .int .i64 g, .slice (some ⟨b, off, none⟩) n c] 27) = v at *
  go_wp2_with fail
  go_loopw [5, 6] (fun s5 i wr => ∃ (j : Nat), j ≤ k ∧ i = .int .i64 j ∧ s5 = .int .i64 (upS g M j) ∧ Tx3 wr w.heap.size (.int .i64 s) (.int .i64 g) (.slice (some ⟨b, off, none⟩) n c) ∧ Below w.heap.size w wr) (fun _ i _ => k - (intOf i).toNat)
  case atStart => exact ⟨0, Nat.zero_le _, rfl, rfl, N, B⟩
  case round =>
    clear N B
    obtain ⟨j, hj, rfl, rfl, N, B⟩ := hrel
    by_cases hlt : j < k
    · have hjn : j < n := by omega
      obtain ⟨o, l, hM⟩ := tupSlot M j
      obtain ⟨c1, c2⟩ := (HF.out.below B HF.out.1).elSlot hjn hM
      have hb := upS_bd HP2.out HP4.out j (by omega)
      have hl := (slB_t (slA_at HP4.out hjn)).2
      have hg := HP2.out
      rw [hM] at hl
      have HU : Hid (upS g M (j + 1) = upS g M j + l + g) := by rw [Hid, upS, hM]
      have HLT : Hid (j < k) := hlt
      have HJ : Hid (j < n) := hjn
      have hli : (j : Int) < (k : Int) := by omega
      have hli2 : (j : Int) < (n : Int) := by omega
      have hw1 : IntKind.i64.wrap (upS g M j + l) = upS g M j + l := Go.IntWalk.i64_in _ ⟨by omega, by omega⟩
      have hw2 : IntKind.i64.wrap (upS g M j + l + g) = upS g M j + l + g := Go.IntWalk.i64_in _ ⟨by omega, by omega⟩
      clear hM hb hl hg
      generalize upS g M j = u at *
      obtain ⟨n0, n1, n2, n3, n4, n5, n6⟩ := id N
      go_wp2_with fail
      go_quiet (fail)
      clear n0 n1 n2 n3 n4 n5 n6
      go_wp2_with fail
      go_roundw
      case rel => exact ⟨j + 1, HLT.out, by go_num, by rw [HU.out], N, below_drewN13 B nq⟩
      case measure => have hlt' := HLT.out; simp [intOf]; omega
    · have hkn : j = k := by omega
      subst hkn
      have hli : ¬ (j : Int) < (j : Int) := by omega
      go_wp2_with fail
      go_ret
      exact ⟨rfl, B⟩
set_option maxHeartbeats 4000000 in
theorem specRoundOf_any (s g : Int) (a : Option Addr) (n c : Nat) (M : Nat → SlT) (w : World) (hm : n ≤ maxLen) (hs : SrcC w a (n * 2) (MFSlot M)) :
    Calls Tryd.prog 62 #[.agg #[.int .i64 s, .int .i64 g, .slice a n c]] w fun e w' => e = .returned (.int .i64 (rnI s g M n)) ∧ Below w.heap.size w w' := by
  have B := Below.nw w (.cells #[.int .i64 s, .int .i64 g, .slice a n c] 27)
  have N := Tx3.new w (.int .i64 s) (.int .i64 g) (.slice a n c) 27
  have HS : Hid (SrcC w a (n * 2) (MFSlot M)) := hs
  clear hs
  have C1 := fun w' h => specPlanOk_any s g a n c M w' hm h
  cases h1 : plB s g M n
  · rw [rnI_f h1]
    rw [h1] at C1
    go_enter Tryd.func62, Tryd.ntmps62
    go_upto_region 1 with fail
    generalize w.alloc (.cells #[.int .i64 s, .int .i64 g, .slice a n c] 27) = v at *
    obtain ⟨n0, n1, n2, n3, n4, n5, n6⟩ := id N
    go_wp2_with fail
    refine (C1 _ (HS.out.below B)).mono ?_
    rintro e v1 ⟨rfl, hb⟩
    clear n0 n1 n2 n3 n4 n5 n6
    replace B := B.trans (hb.mono B.size)
    clear hb
    go_wp2_with fail
    go_ret
    exact ⟨rfl, B⟩
  · rw [rnI_t h1]
    have C2 := fun w' h => specUpto_any s g a n c M n w' h1 (Nat.le_refl _) h
    rw [h1] at C1
    generalize upS g M n = u at *
    go_enter Tryd.func62, Tryd.ntmps62
    go_upto_region 1 with fail
    generalize w.alloc (.cells #[.int .i64 s, .int .i64 g, .slice a n c] 27) = v at *
    obtain ⟨n0, n1, n2, n3, n4, n5, n6⟩ := id N
    go_wp2_with fail
    refine (C1 _ (HS.out.below B)).mono ?_
    rintro e v1 ⟨rfl, hb⟩
    clear n0 n1 n2 n3 n4 n5 n6
    replace B := B.trans (hb.mono B.size)
    replace N := N.below hb
    clear hb
    obtain ⟨n0, n1, n2, n3, n4, n5, n6⟩ := id N
    go_wp2_with fail
    refine (C2 _ (HS.out.below B)).mono ?_
    rintro e v2 ⟨rfl, hb⟩
    clear n0 n1 n2 n3 n4 n5 n6
    replace B := B.trans (hb.mono B.size)
    clear hb
    go_wp2_with fail
    go_ret
    exact ⟨rfl, B⟩
end Go.Proofs.YtdahabbdhjgpdaaDoor
