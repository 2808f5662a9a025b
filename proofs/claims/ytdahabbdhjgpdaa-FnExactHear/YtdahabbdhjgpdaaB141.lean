/- Plans in the program: which are right, how long a round is, which round a time lies in. -/
import Derived.Test.YtdahabbdhjgpdaaB131
import Derived.Deep.QuietTactic
import Derived.BigQuiet
import Derived.WalkKit
import Derived.WalkSpells
import Derived.WalkLawsBesides
import Derived.Deep.RegionHeld
namespace Go.Proofs.Ytdahabbdhjgpdaa
open Go.RowKit
set_option linter.unusedVariables false
/- The program's slots and plans: which are right; how long a round is; which round a time lies in. -/
set_option maxHeartbeats 2000000 in
theorem slotOk_any (o l : Int) (w : World) :
    Calls Try.prog 39 #[.agg #[.int .i64 o, .int .i64 l]] w fun e w' => e = .returned (.bool (slB o l)) ∧ Below w.heap.size w w' := by
  have B := Below.nw w (.cells #[.int .i64 o, .int .i64 l] 63)
  have C1 := fun w' => isNode_any o w'
  cases h1 : nodB o
  · have e0 : slB o l = false := by unfold slB; rw [h1]; rfl
    rw [e0]
    go_enter Try.func39, Try.ntmps39
    go_wp2_with fail
    refine (C1 _).mono ?_
    rintro e w' ⟨rfl, rfl⟩
    rw [h1]
    go_wp2_with fail
    go_ret
    exact ⟨rfl, B⟩
  · have e0 : slB o l = lnB l := by unfold slB; rw [h1]; rfl
    rw [e0]
    clear e0
    by_cases ha : 1 ≤ l
    · by_cases hb : l ≤ 1000000
      · have e0 : lnB l = true := decide_eq_true ⟨ha, hb⟩
        rw [e0]
        clear e0
        go_enter Try.func39, Try.ntmps39
        go_wp2_with fail
        refine (C1 _).mono ?_
        rintro e w' ⟨rfl, rfl⟩
        rw [h1]
        go_wp2_with fail
        go_ret
        exact ⟨rfl, B⟩
      · have e0 : lnB l = false := decide_eq_false (by omega)
        rw [e0]
        clear e0
        go_enter Try.func39, Try.ntmps39
        go_wp2_with fail
        refine (C1 _).mono ?_
        rintro e w' ⟨rfl, rfl⟩
        rw [h1]
        go_wp2_with fail
        go_ret
        exact ⟨ret_bool (decide_eq_false (by omega)), B⟩
    · have e0 : lnB l = false := decide_eq_false (by omega)
      rw [e0]
      clear e0
      go_enter Try.func39, Try.ntmps39
      go_wp2_with fail
      refine (C1 _).mono ?_
      rintro e w' ⟨rfl, rfl⟩
      rw [h1]
      go_wp2_with fail
      go_ret
      exact ⟨rfl, B⟩
set_option maxRecDepth 100000 in
set_option maxHeartbeats 8000000 in
theorem planOk_any (s g : Int) (a : Option Addr) (n c : Nat) (M : Nat → SlT) (w : World) (hm : n ≤ maxLen) (hs : SrcC w a (n * 2) (MFSlot M)) :
    Calls Try.prog 30 #[.agg #[.int .i64 s, .int .i64 g, .slice a n c]] w fun e w' => e = .returned (.bool (plB s g M n)) ∧ Below w.heap.size w w' := by
  unfold maxLen at hm
  have B := Below.nw w (.cells #[.int .i64 s, .int .i64 g, .slice a n c] 42)
  have N := Tx3.new w (.int .i64 s) (.int .i64 g) (.slice a n c) 42
  have C1 := fun w' => isTime_any s w'
  cases h1 : okT s
  · have e0 : plB s g M n = false := by unfold plB; rw [h1]; rfl
    rw [e0]
    clear e0 hs
    go_enter Try.func30, Try.ntmps30; go_upto_region 1 with fail; generalize w.alloc (.cells #[.int .i64 s, .int .i64 g, .slice a n c] 42) = v at *; obtain ⟨n0, n1, n2, n3, n4, n5, n6⟩ := id N; go_wp2_with fail; refine (C1 _).mono ?_; rintro e w' ⟨rfl, rfl⟩; rw [h1]; go_wp2_with fail; go_ret; exact ⟨rfl, B⟩
  by_cases h2 : g < 0
  · have e0 : plB s g M n = false := by unfold plB; rw [h1, show gpB g = false from decide_eq_false (by omega)]; rfl
    rw [e0]
    clear e0 hs
    go_enter Try.func30, Try.ntmps30; go_upto_region 1 with fail; generalize w.alloc (.cells #[.int .i64 s, .int .i64 g, .slice a n c] 42) = v at *; obtain ⟨n0, n1, n2, n3, n4, n5, n6⟩ := id N; go_wp2_with fail; refine (C1 _).mono ?_; rintro e w' ⟨rfl, rfl⟩; rw [h1]; go_wp2_with fail; go_ret; exact ⟨rfl, B⟩
  by_cases h3 : 100000 < g
  · have e0 : plB s g M n = false := by unfold plB; rw [h1, show gpB g = false from decide_eq_false (by omega)]; rfl
    rw [e0]
    clear e0 hs
    go_enter Try.func30, Try.ntmps30; go_upto_region 1 with fail; generalize w.alloc (.cells #[.int .i64 s, .int .i64 g, .slice a n c] 42) = v at *; obtain ⟨n0, n1, n2, n3, n4, n5, n6⟩ := id N; go_wp2_with fail; refine (C1 _).mono ?_; rintro e w' ⟨rfl, rfl⟩; rw [h1]; go_wp2_with fail; go_ret; exact ⟨rfl, B⟩
  have e2 : gpB g = true := decide_eq_true (by omega)
  by_cases h4 : (n : Int) < 1
  · have e0 : plB s g M n = false := by unfold plB; rw [h1, e2, show cnB n = false from decide_eq_false (by omega)]; rfl
    rw [e0]
    clear e0 hs e2
    go_enter Try.func30, Try.ntmps30; go_upto_region 1 with fail; generalize w.alloc (.cells #[.int .i64 s, .int .i64 g, .slice a n c] 42) = v at *; obtain ⟨n0, n1, n2, n3, n4, n5, n6⟩ := id N; go_wp2_with fail; refine (C1 _).mono ?_; rintro e w' ⟨rfl, rfl⟩; rw [h1]; go_wp2_with fail; go_ret; exact ⟨rfl, B⟩
  by_cases h5 : 12 < (n : Int)
  · have e0 : plB s g M n = false := by unfold plB; rw [h1, e2, show cnB n = false from decide_eq_false (by omega)]; rfl
    rw [e0]
    clear e0 hs e2
    go_enter Try.func30, Try.ntmps30; go_upto_region 1 with fail; generalize w.alloc (.cells #[.int .i64 s, .int .i64 g, .slice a n c] 42) = v at *; obtain ⟨n0, n1, n2, n3, n4, n5, n6⟩ := id N; go_wp2_with fail; refine (C1 _).mono ?_; rintro e w' ⟨rfl, rfl⟩; rw [h1]; go_wp2_with fail; go_ret; exact ⟨rfl, B⟩
  have e0 : plB s g M n = slA M n := by unfold plB; rw [h1, e2, show cnB n = true from decide_eq_true (by omega)]; rfl
  rw [e0]
  clear e0 e2
  obtain ⟨b, off, rfl, hf⟩ : ∃ b off, a = some ⟨b, off, none⟩ ∧ Cs w b off (n * 2) (MFSlot M) := by
    rcases hs with q | q
    · exact absurd q (by omega)
    · exact q
  have HF : Hid (Cs w b off (n * 2) (MFSlot M)) := hf
  clear hf hs
  go_enter Try.func30, Try.ntmps30; go_upto_region 1 with fail; generalize w.alloc (.cells #[.int .i64 s, .int .i64 g, .slice (some ⟨b, off, none⟩) n c] 42) = v at *
  obtain ⟨n0, n1, n2, n3, n4, n5, n6⟩ := id N; go_wp2_with fail; refine (C1 _).mono ?_; rintro e w' ⟨rfl, rfl⟩; rw [h1]
  clear C1 h1
  go_wp2_with fail
  clear h2 h3 h4 h5 N
  clear n0 n1 n2 n3 n4 n5 n6
  go_loopw [34] (fun i wr => ∃ (k : Nat), k ≤ n ∧ i = .int .i64 k ∧ slA M k = true ∧ Below w.heap.size w wr) (fun i _ => n - (intOf i).toNat)
  case atStart => exact ⟨0, Nat.zero_le _, rfl, rfl, B⟩
  case round =>
    clear B
    obtain ⟨k, hk, rfl, hA, B⟩ := hrel
    by_cases hlt : k < n
    · obtain ⟨o, l, hM⟩ := tupSlot M k
      obtain ⟨c1, c2⟩ := (HF.out.below B HF.out.1).elSlot hlt hM
      have HA : Hid (slA M (k + 1) = slB o l) := by rw [Hid, slA, hA, hM]; rfl
      have HLT : Hid (k < n) := hlt
      have hli : (k : Int) < (n : Int) := by omega
      have C1 := fun w' => slotOk_any o l w'
      have A1 := Below.nw wr (.cells #[.int .i64 o, .int .i64 l] 63)
      replace B := B.trans (A1.mono B.size)
      clear hM hA HF A1
      go_wp2_with fail
      refine (C1 _).mono ?_
      rintro e v1 ⟨rfl, hb⟩
      replace B := B.trans (hb.mono B.size)
      clear hb
      cases h1 : slB o l
      · have HN : Hid (slA M (k + 1) = false) := by rw [Hid, HA.out, h1]
        clear HA
        go_wp2_with fail
        go_ret
        exact ⟨ret_bool (slA_no HN.out HLT.out).symm, B⟩
      · have HT : Hid (slA M (k + 1) = true) := by rw [Hid, HA.out, h1]
        clear HA
        go_wp2_with fail
        go_roundw
        case rel => exact ⟨k + 1, HLT.out, by go_num, HT.out, B⟩
        case measure => have hlt' := HLT.out; simp [intOf]; omega
    · have hkn : k = n := by omega
      subst hkn
      have hli : ¬ (k : Int) < (k : Int) := by omega
      go_wp2_with fail
      go_ret
      exact ⟨by first | rfl | exact ret_bool hA.symm, B⟩

/- How long a round is. -/
theorem upS_next {g : Int} {M : Nat → SlT} {j : Nat} {o l : Int} (h : M j = (o, l)) : upS g M (j + 1) = upS g M j + (l + g) := by rw [upS, h]; show upS g M j + l + g = _; omega
def raI (s g : Int) (M : Nat → SlT) (n : Nat) (t : Int) : Int := (imx 0 (t - s)).tdiv (upS g M n)
set_option maxHeartbeats 4000000 in
theorem planHas_any (s g : Int) (a : Option Addr) (n c : Nat) (M : Nat → SlT) (i : Int) (w : World) (hm : n ≤ maxLen) (hs : SrcC w a (n * 2) (MFSlot M)) :
    Calls Try.prog 41 #[.agg #[.int .i64 s, .int .i64 g, .slice a n c], .int .i64 i] w fun e w' => e = .returned (.bool (sfB s g M n i)) ∧ Below w.heap.size w w' := by
  have B := Below.nw w (.cells #[.int .i64 s, .int .i64 g, .slice a n c] 42)
  have N := Tx3.new w (.int .i64 s) (.int .i64 g) (.slice a n c) 42
  have HS : Hid (SrcC w a (n * 2) (MFSlot M)) := hs
  clear hs
  have C1 := fun w' h => planOk_any s g a n c M w' hm h
  unfold sfB
  cases h1 : plB s g M n
  · rw [h1] at C1
    go_enter Try.func41, Try.ntmps41
    go_upto_region 1 with fail
    generalize w.alloc (.cells #[.int .i64 s, .int .i64 g, .slice a n c] 42) = v at *
    obtain ⟨n0, n1, n2, n3, n4, n5, n6⟩ := id N
    go_wp2_with fail
    refine (C1 _ (HS.out.below B)).mono ?_
    rintro e v1 ⟨rfl, hb⟩
    clear n0 n1 n2 n3 n4 n5 n6
    replace B := B.trans (hb.mono B.size)
    clear hb
    go_wp2_with fail
    go_ret
    exact ⟨rfl, B⟩
  · rw [h1] at C1
    by_cases h2 : 0 ≤ i
    · have e0 : ixB n i = decide (i < (n : Int)) := by unfold ixB; by_cases h3 : i < (n : Int) <;> simp [h3] <;> omega
      rw [e0]
      go_enter Try.func41, Try.ntmps41
      go_upto_region 1 with fail
      generalize w.alloc (.cells #[.int .i64 s, .int .i64 g, .slice a n c] 42) = v at *
      obtain ⟨n0, n1, n2, n3, n4, n5, n6⟩ := id N
      go_wp2_with fail
      refine (C1 _ (HS.out.below B)).mono ?_
      rintro e v1 ⟨rfl, hb⟩
      clear n0 n1 n2 n3 n4 n5 n6
      replace B := B.trans (hb.mono B.size)
      replace N := N.below hb
      clear hb
      obtain ⟨n0, n1, n2, n3, n4, n5, n6⟩ := id N
      go_wp2_with fail
      go_ret
      exact ⟨by first | rfl | simp, B⟩
    · have e0 : ixB n i = false := decide_eq_false (by omega)
      rw [e0]
      go_enter Try.func41, Try.ntmps41
      go_upto_region 1 with fail
      generalize w.alloc (.cells #[.int .i64 s, .int .i64 g, .slice a n c] 42) = v at *
      obtain ⟨n0, n1, n2, n3, n4, n5, n6⟩ := id N
      go_wp2_with fail
      refine (C1 _ (HS.out.below B)).mono ?_
      rintro e v1 ⟨rfl, hb⟩
      clear n0 n1 n2 n3 n4 n5 n6
      replace B := B.trans (hb.mono B.size)
      clear hb
      go_wp2_with fail
      go_ret
      exact ⟨by first | rfl | simp, B⟩
end Go.Proofs.Ytdahabbdhjgpdaa
