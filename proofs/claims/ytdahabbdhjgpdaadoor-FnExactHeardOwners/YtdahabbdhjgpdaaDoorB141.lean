/- Plans in the program: which are right, how long a round is, which round a time lies in. -/
import Derived.Test.YtdahabbdhjgpdaaDoorB131
import Derived.Deep.QuietTactic
import Derived.BigQuiet
import Derived.WalkKit
import Derived.WalkSpells
import Derived.WalkLawsBesides
import Derived.Deep.RegionHeld
namespace Go.Proofs.YtdahabbdhjgpdaaDoor
open Go.RowKit
set_option linter.unusedVariables false
/- The program's slots and plans: which are right; how long a round is; which round a time lies in. -/
set_option maxHeartbeats 2000000 in
theorem slotOk_any (o l : Int) (w : World) :
    Calls Tryd.prog 75 #[.agg #[.int .i64 o, .int .i64 l]] w fun e w' => e = .returned (.bool (slB o l)) ∧ Below w.heap.size w w' := by
  have B := Below.nw w (.cells #[.int .i64 o, .int .i64 l] 72)
  have C1 := fun w' => isNode_any o w'
  cases h1 : nodB o
  · have e0 : slB o l = false := by unfold slB; rw [h1]; rfl
    rw [e0]
    go_enter Tryd.func75, Tryd.ntmps75
    go_wp2_with fail
    refine (C1 _).mono ?_
    rintro e w' ⟨rfl, rfl⟩
    rw [h1]
    go_wp2_with fail
    go_ret
    exact ⟨rfl, B⟩
  · have e0 : slB o l = lnB l := by unfold slB; rw [h1]; rfl
    rw [e0]
    clear e0
    by_cases ha : 1 ≤ l
    · by_cases hb : l ≤ 1000000
      · have e0 : lnB l = true := decide_eq_true ⟨ha, hb⟩
        rw [e0]
        clear e0
        go_enter Tryd.func75, Tryd.ntmps75
        go_wp2_with fail
        refine (C1 _).mono ?_
        rintro e w' ⟨rfl, rfl⟩
        rw [h1]
        go_wp2_with fail
        go_ret
        exact ⟨rfl, B⟩
      · have e0 : lnB l = false := decide_eq_false (by omega)
        rw [e0]
        clear e0
        go_enter Tryd.func75, Tryd.ntmps75
        go_wp2_with fail
        refine (C1 _).mono ?_
        rintro e w' ⟨rfl, rfl⟩
        rw [h1]
        go_wp2_with fail
        go_ret
        exact ⟨ret_bool (decide_eq_false (by omega)), B⟩
    · have e0 : lnB l = false := decide_eq_false (by omega)
      rw [e0]
      clear e0
      go_enter Tryd.func75, Tryd.ntmps75
      go_wp2_with fail
      refine (C1 _).mono ?_
      rintro e w' ⟨rfl, rfl⟩
      rw [h1]
      go_wp2_with fail
      go_ret
      exact ⟨rfl, B⟩
set_option maxRecDepth 100000 in
set_option maxHeartbeats 8000000 in
theorem planOk_any (s g : Int) (a : Option Addr) (n c : Nat) (M : Nat → SlT) (w : World) (hm : n ≤ maxLen) (hs : SrcC w a (n * 2) (MFSlot M)) :
    Calls Tryd.prog 44 #[.agg #[.int .i64 s, .int .i64 g, .slice a n c]] w fun e w' => e = .returned (.bool (plB s g M n)) ∧ Below w.heap.size w w' := by
  unfold maxLen at hm
  have B := Below.nw w (.cells #[.int .i64 s, .int .i64 g, .slice a n c] 27)
  have N := Tx3.new w (.int .i64 s) (.int .i64 g) (.slice a n c) 27
  have C1 := fun w' => isTime_any s w'
  cases h1 : okT s
  · have e0 : plB s g M n = false := by unfold plB; rw [h1]; rfl
    rw [e0]
    clear e0 hs
    go_enter Tryd.func44, Tryd.ntmps44; go_upto_region 1 with fail; generalize w.alloc (.cells #[.int .i64 s, .int .i64 g, .slice a n c] 27) = v at *; obtain ⟨n0, n1, n2, n3, n4, n5, n6⟩ := id N; go_wp2_with fail; refine (C1 _).mono ?_; rintro e w' ⟨rfl, rfl⟩; rw [h1]; go_wp2_with fail; go_ret; exact ⟨rfl, B⟩
  by_cases h2 : g < 0
  · have e0 : plB s g M n = false := by unfold plB; rw [h1, show gpB g = false from decide_eq_false (by omega)]; rfl
    rw [e0]
    clear e0 hs
    go_enter Tryd.func44, Tryd.ntmps44; go_upto_region 1 with fail; generalize w.alloc (.cells #[.int .i64 s, .int .i64 g, .slice a n c] 27) = v at *; obtain ⟨n0, n1, n2, n3, n4, n5, n6⟩ := id N; go_wp2_with fail; refine (C1 _).mono ?_; rintro e w' ⟨rfl, rfl⟩; rw [h1]; go_wp2_with fail; go_ret; exact ⟨rfl, B⟩
  by_cases h3 : 100000 < g
  · have e0 : plB s g M n = false := by unfold plB; rw [h1, show gpB g = false from decide_eq_false (by omega)]; rfl
    rw [e0]
    clear e0 hs
    go_enter Tryd.func44, Tryd.ntmps44; go_upto_region 1 with fail; generalize w.alloc (.cells #[.int .i64 s, .int .i64 g, .slice a n c] 27) = v at *; obtain ⟨n0, n1, n2, n3, n4, n5, n6⟩ := id N; go_wp2_with fail; refine (C1 _).mono ?_; rintro e w' ⟨rfl, rfl⟩; rw [h1]; go_wp2_with fail; go_ret; exact ⟨rfl, B⟩
  have e2 : gpB g = true := decide_eq_true (by omega)
  by_cases h4 : (n : Int) < 1
  · have e0 : plB s g M n = false := by unfold plB; rw [h1, e2, show cnB n = false from decide_eq_false (by omega)]; rfl
    rw [e0]
    clear e0 hs e2
    go_enter Tryd.func44, Tryd.ntmps44; go_upto_region 1 with fail; generalize w.alloc (.cells #[.int .i64 s, .int .i64 g, .slice a n c] 27) = v at *; obtain ⟨n0, n1, n2, n3, n4, n5, n6⟩ := id N; go_wp2_with fail; refine (C1 _).mono ?_; rintro e w' ⟨rfl, rfl⟩; rw [h1]; go_wp2_with fail; go_ret; exact ⟨rfl, B⟩
  by_cases h5 : 12 < (n : Int)
  · have e0 : plB s g M n = false := by unfold plB; rw [h1, e2, show cnB n = false from decide_eq_false (by omega)]; rfl
    rw [e0]
    clear e0 hs e2
    go_enter Tryd.func44, Tryd.ntmps44; go_upto_region 1 with fail; generalize w.alloc (.cells #[.int .i64 s, .int .i64 g, .slice a n c] 27) = v at *; obtain ⟨n0, n1, n2, n3, n4, n5, n6⟩ := id N; go_wp2_with fail; refine (C1 _).mono ?_; rintro e w' ⟨rfl, rfl⟩; rw [h1]; go_wp2_with fail; go_ret; exact ⟨rfl, B⟩
  have e0 : plB s g M n = slA M n := by unfold plB; rw [h1, e2, show cnB n = true from decide_eq_true (by omega)]; rfl
  rw [e0]
  clear e0 e2
  obtain ⟨b, off, rfl, hf⟩ : ∃ b off, a = some ⟨b, off, none⟩ ∧ Cs w b off (n * 2) (MFSlot M) := by
    rcases hs with q | q
    · exact absurd q (by omega)
    · exact q
  have HF : Hid (Cs w b off (n * 2) (MFSlot M)) := hf
  clear hf hs
  go_enter Tryd.func44, Tryd.ntmps44; go_upto_region 1 with fail; generalize w.alloc (.cells #[.int .i64 s, .int .i64 g, .slice (some ⟨b, off, none⟩) n c] 27) = v at *
  obtain ⟨n0, n1, n2, n3, n4, n5, n6⟩ := id N; go_wp2_with fail; refine (C1 _).mono ?_; rintro e w' ⟨rfl, rfl⟩; rw [h1]
  clear C1 h1
  go_wp2_with fail
  clear h2 h3 h4 h5 N
  clear n0 n1 n2 n3 n4 n5 n6
  go_loopw [34] (fun i wr => ∃ (k : Nat), k ≤ n ∧ i = .int .i64 k ∧ slA M k = true ∧ Below w.heap.size w wr) (fun i _ => n - (intOf i).toNat)
  case atStart => exact ⟨0, Nat.zero_le _, rfl, rfl, B⟩
  case round =>
    clear B
    obtain ⟨k, hk, rfl, hA, B⟩ := hrel
    by_cases hlt : k < n
    · obtain ⟨o, l, hM⟩ := tupSlot M k
      obtain ⟨c1, c2⟩ := (HF.out.below B HF.out.1).elSlot hlt hM
      have HA : Hid (slA M (k + 1) = slB o l) := by rw [Hid, slA, hA, hM]; rfl
      have HLT : Hid (k < n) := hlt
      have hli : (k : Int) < (n : Int) := by omega
      have C1 := fun w' => slotOk_any o l w'
      have A1 := Below.nw wr (.cells #[.int .i64 o, .int .i64 l] 72)
      replace B := B.trans (A1.mono B.size)
      clear hM hA HF A1
      go_wp2_with fail
      refine (C1 _).mono ?_
      rintro e v1 ⟨rfl, hb⟩
      replace B := B.trans (hb.mono B.size)
      clear hb
      cases h1 : slB o l
      · have HN : Hid (slA M (k + 1) = false) := by rw [Hid, HA.out, h1]
        clear HA
        go_wp2_with fail
        go_ret
        exact ⟨ret_bool (slA_no HN.out HLT.out).symm, B⟩
      · have HT : Hid (slA M (k + 1) = true) := by rw [Hid, HA.out, h1]
        clear HA
        go_wp2_with fail
        go_roundw
        case rel => exact ⟨k + 1, HLT.out, by go_num, HT.out, B⟩
        case measure => have hlt' := HLT.out; simp [intOf]; omega
    · have hkn : k = n := by omega
      subst hkn
      have hli : ¬ (k : Int) < (k : Int) := by omega
      go_wp2_with fail
      go_ret
      exact ⟨by first | rfl | exact ret_bool hA.symm, B⟩

/- How long a round is. -/
theorem upS_next {g : Int} {M : Nat → SlT} {j : Nat} {o l : Int} (h : M j = (o, l)) : upS g M (j + 1) = upS g M j + (l + g) := by rw [upS, h]; show upS g M j + l + g = _; omega
set_option maxRecDepth 100000 in
set_option maxHeartbeats 8000000 in
theorem planRound_any (s g : Int) (a : Option Addr) (n c : Nat) (M : Nat → SlT) (w : World) (hp : plB s g M n = true) (hs : SrcC w a (n * 2) (MFSlot M)) :
    Calls Tryd.prog 56 #[.agg #[.int .i64 s, .int .i64 g, .slice a n c]] w fun e w' => e = .returned (.int .i64 (upS g M n)) ∧ Below w.heap.size w w' := by
  obtain ⟨p1, p2, p3, p4⟩ := plB_t hp
  have B := Below.nw w (.cells #[.int .i64 s, .int .i64 g, .slice a n c] 27)
  have N := Tx3.new w (.int .i64 s) (.int .i64 g) (.slice a n c) 27
  obtain ⟨b, off, rfl, hf⟩ : ∃ b off, a = some ⟨b, off, none⟩ ∧ Cs w b off (n * 2) (MFSlot M) := by
    rcases hs with q | q
    · exact absurd q (by omega)
    · exact q
  have HF : Hid (Cs w b off (n * 2) (MFSlot M)) := hf
  have HP2 : Hid (0 ≤ g ∧ g ≤ 100000) := p2
  have HP4 : Hid (slA M n = true) := p4
  have hn : n ≤ 12 := p3.2
  clear hf hs hp p1 p2 p3 p4
  go_enter Tryd.func56, Tryd.ntmps56
  go_upto_region 1 with fail
  generalize w.alloc (.cells #[.int .i64 s, .int .i64 g, .slice (some ⟨b, off, none⟩) n c] 27) = v at *
  obtain ⟨n0, n1, n2, n3, n4, n5, n6⟩ := id N
  go_wp2_with fail
  clear n0 n1 n2 n3 n4 n5 n6
  go_loopw [3, 9] (fun s5 i wr => ∃ (j : Nat), j ≤ n ∧ i = .int .i64 j ∧ s5 = .int .i64 (upS g M j) ∧ Tx3 wr w.heap.size (.int .i64 s) (.int .i64 g) (.slice (some ⟨b, off, none⟩) n c) ∧ Below w.heap.size w wr) (fun _ i _ => n - (intOf i).toNat)
  case atStart => exact ⟨0, Nat.zero_le _, rfl, rfl, N, B⟩
  case round =>
    clear N B
    obtain ⟨j, hj, rfl, rfl, N, B⟩ := hrel
    by_cases hlt : j < n
    · obtain ⟨o, l, hM⟩ := tupSlot M j
      obtain ⟨c1, c2⟩ := (HF.out.below B HF.out.1).elSlot hlt hM
      have hb := upS_bd HP2.out HP4.out j (by omega)
      have hl := (slB_t (slA_at HP4.out hlt)).2
      have hg := HP2.out
      rw [hM] at hl
      have HU : Hid (upS g M (j + 1) = upS g M j + (l + g)) := upS_next hM
      have HLT : Hid (j < n) := hlt
      have hli : (j : Int) < (n : Int) := by omega
      have hw1 : IntKind.i64.wrap (l + g) = l + g := Go.IntWalk.i64_in _ ⟨by omega, by omega⟩
      have hw2 : IntKind.i64.wrap (upS g M j + (l + g)) = upS g M j + (l + g) := Go.IntWalk.i64_in _ ⟨by omega, by omega⟩
      clear hM hb hl hg
      generalize upS g M j = u at *
      have A1 := Below.nw wr (.cells #[.int .i64 o, .int .i64 l] 72)
      replace B := B.trans (A1.mono B.size)
      have N1 := N.below A1
      clear A1
      obtain ⟨n0, n1, n2, n3, n4, n5, n6⟩ := id N
      go_upto_region 5 with fail
      clear n0 n1 n2 n3 n4 n5 n6
      clear N
      obtain ⟨n0, n1, n2, n3, n4, n5, n6⟩ := id N1
      go_wp2_with fail
      go_roundw
      case rel => exact ⟨j + 1, HLT.out, by go_num, by rw [HU.out], N1, B⟩
      case measure => have hlt' := HLT.out; simp [intOf]; omega
    · have hkn : j = n := by omega
      subst hkn
      have hli : ¬ (j : Int) < (j : Int) := by omega
      go_wp2_with fail
      go_ret
      exact ⟨rfl, B⟩
/- Which round a time lies in. -/
def raI (s g : Int) (M : Nat → SlT) (n : Nat) (t : Int) : Int := (imx 0 (t - s)).tdiv (upS g M n)
set_option maxHeartbeats 4000000 in
theorem planHas_any (s g : Int) (a : Option Addr) (n c : Nat) (M : Nat → SlT) (i : Int) (w : World) (hm : n ≤ maxLen) (hs : SrcC w a (n * 2) (MFSlot M)) :
    Calls Tryd.prog 77 #[.agg #[.int .i64 s, .int .i64 g, .slice a n c], .int .i64 i] w fun e w' => e = .returned (.bool (sfB s g M n i)) ∧ Below w.heap.size w w' := by
  have B := Below.nw w (.cells #[.int .i64 s, .int .i64 g, .slice a n c] 27)
  have N := Tx3.new w (.int .i64 s) (.int .i64 g) (.slice a n c) 27
  have HS : Hid (SrcC w a (n * 2) (MFSlot M)) := hs
  clear hs
  have C1 := fun w' h => planOk_any s g a n c M w' hm h
  unfold sfB
  cases h1 : plB s g M n
  · rw [h1] at C1
    go_enter Tryd.func77, Tryd.ntmps77
    go_upto_region 1 with fail
    generalize w.alloc (.cells #[.int .i64 s, .int .i64 g, .slice a n c] 27) = v at *
    obtain ⟨n0, n1, n2, n3, n4, n5, n6⟩ := id N
    go_wp2_with fail
    refine (C1 _ (HS.out.below B)).mono ?_
    rintro e v1 ⟨rfl, hb⟩
    clear n0 n1 n2 n3 n4 n5 n6
    replace B := B.trans (hb.mono B.size)
    clear hb
    go_wp2_with fail
    go_ret
    exact ⟨rfl, B⟩
  · rw [h1] at C1
    by_cases h2 : 0 ≤ i
    · have e0 : ixB n i = decide (i < (n : Int)) := by unfold ixB; by_cases h3 : i < (n : Int) <;> simp [h3] <;> omega
      rw [e0]
      go_enter Tryd.func77, Tryd.ntmps77
      go_upto_region 1 with fail
      generalize w.alloc (.cells #[.int .i64 s, .int .i64 g, .slice a n c] 27) = v at *
      obtain ⟨n0, n1, n2, n3, n4, n5, n6⟩ := id N
      go_wp2_with fail
      refine (C1 _ (HS.out.below B)).mono ?_
      rintro e v1 ⟨rfl, hb⟩
      clear n0 n1 n2 n3 n4 n5 n6
      replace B := B.trans (hb.mono B.size)
      replace N := N.below hb
      clear hb
      obtain ⟨n0, n1, n2, n3, n4, n5, n6⟩ := id N
      go_wp2_with fail
      go_ret
      exact ⟨by first | rfl | simp, B⟩
    · have e0 : ixB n i = false := decide_eq_false (by omega)
      rw [e0]
      go_enter Tryd.func77, Tryd.ntmps77
      go_upto_region 1 with fail
      generalize w.alloc (.cells #[.int .i64 s, .int .i64 g, .slice a n c] 27) = v at *
      obtain ⟨n0, n1, n2, n3, n4, n5, n6⟩ := id N
      go_wp2_with fail
      refine (C1 _ (HS.out.below B)).mono ?_
      rintro e v1 ⟨rfl, hb⟩
      clear n0 n1 n2 n3 n4 n5 n6
      replace B := B.trans (hb.mono B.size)
      clear hb
      go_wp2_with fail
      go_ret
      exact ⟨by first | rfl | simp, B⟩
set_option maxHeartbeats 4000000 in
theorem implRoundOf_any (s g : Int) (a : Option Addr) (n c : Nat) (M : Nat → SlT) (w : World) (hm : n ≤ maxLen) (hs : SrcC w a (n * 2) (MFSlot M)) :
    Calls Tryd.prog 17 #[.agg #[.int .i64 s, .int .i64 g, .slice a n c]] w fun e w' => e = .returned (.int .i64 (rnI s g M n)) ∧ Below w.heap.size w w' := by
  have B := Below.nw w (.cells #[.int .i64 s, .int .i64 g, .slice a n c] 27)
  have N := Tx3.new w (.int .i64 s) (.int .i64 g) (.slice a n c) 27
  have HS : Hid (SrcC w a (n * 2) (MFSlot M)) := hs
  clear hs
  have C1 := fun w' h => planOk_any s g a n c M w' hm h
  cases h1 : plB s g M n
  · rw [rnI_f h1]
    rw [h1] at C1
    go_enter Tryd.func17, Tryd.ntmps17
    go_upto_region 1 with fail
    generalize w.alloc (.cells #[.int .i64 s, .int .i64 g, .slice a n c] 27) = v at *
    obtain ⟨n0, n1, n2, n3, n4, n5, n6⟩ := id N
    go_wp2_with fail
    refine (C1 _ (HS.out.below B)).mono ?_
    rintro e v1 ⟨rfl, hb⟩
    clear n0 n1 n2 n3 n4 n5 n6
    replace B := B.trans (hb.mono B.size)
    clear hb
    go_wp2_with fail
    go_ret
    exact ⟨rfl, B⟩
  · rw [rnI_t h1]
    have C2 := fun w' h => planRound_any s g a n c M w' h1 h
    rw [h1] at C1
    generalize upS g M n = u at *
    go_enter Tryd.func17, Tryd.ntmps17
    go_upto_region 1 with fail
    generalize w.alloc (.cells #[.int .i64 s, .int .i64 g, .slice a n c] 27) = v at *
    obtain ⟨n0, n1, n2, n3, n4, n5, n6⟩ := id N
    go_wp2_with fail
    refine (C1 _ (HS.out.below B)).mono ?_
    rintro e v1 ⟨rfl, hb⟩
    clear n0 n1 n2 n3 n4 n5 n6
    replace B := B.trans (hb.mono B.size)
    replace N := N.below hb
    clear hb
    obtain ⟨n0, n1, n2, n3, n4, n5, n6⟩ := id N
    go_wp2_with fail
    refine (C2 _ (HS.out.below B)).mono ?_
    rintro e v2 ⟨rfl, hb⟩
    clear n0 n1 n2 n3 n4 n5 n6
    replace B := B.trans (hb.mono B.size)
    clear hb
    go_wp2_with fail
    go_ret
    exact ⟨rfl, B⟩
end Go.Proofs.YtdahabbdhjgpdaaDoor
