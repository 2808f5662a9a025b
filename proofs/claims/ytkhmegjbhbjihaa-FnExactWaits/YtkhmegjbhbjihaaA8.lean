/- Contracts of Waits. -/
import Derived.Test.YtkhmegjbhbjihaaA5
import Derived.Test.YtkhmegjbhbjihaaA6
import Derived.WalkKit
import Derived.WalkSpells
import Derived.WalkLawsBesides
import Derived.Deep.RegionHeld
namespace Go.Proofs.Ytkhmegjbhbjihaa
open Go.RowKit
set_option linter.unusedVariables false
def wtN (x : Int) (M : Nat → KT) : Nat → Nat
  | 0 => 0
  | k + 1 => wtN x M k + (if (M k).2.1 = x then 1 else 0)
theorem wtN_le {x : Int} {M : Nat → KT} : ∀ k, wtN x M k ≤ k
  | 0 => Nat.le_refl _
  | k + 1 => by
    have := wtN_le (x := x) (M := M) k
    rw [wtN]
    split <;> omega
def wtI (ep us : Int) (M : Nat → KT) (n : Nat) (x : Int) : Int := bif tabB ep us M n then (wtN x M n : Int) else 0
theorem tabB_len {ep us : Int} {M : Nat → KT} {n : Nat} (h : tabB ep us M n = true) : n ≤ 16 := by
  rw [tabB] at h
  simp only [Bool.and_eq_true, decide_eq_true_eq] at h
  exact h.1.2
set_option maxHeartbeats 1000000 in
theorem specWaits_zero (ep us : Int) (a : Option Addr) (c : Nat) (M : Nat → KT) (x : Int) (w : World) :
    Calls Try.prog 37 #[.agg #[.int .i64 ep, .int .i64 us, .slice a 0 c], .int .i64 x] w fun e w' => e = .returned (.int .i64 (wtI ep us M 0 x)) ∧ Below w.heap.size w w' := by
  have HI : Hid (wtI ep us M 0 x = 0) := by rw [Hid, wtI]; cases tabB ep us M 0 <;> rfl
  have A0 := Below.nw w (.cells #[.int .i64 ep, .int .i64 us, .slice a 0 c] 35)
  go_enter Try.func37, Try.ntmps37
  go_wp2_with fail
  go_loopw [5, 6] (fun q i wr => q = .int .i64 0 ∧ i = .int .i64 0 ∧ w.alloc (.cells #[.int .i64 ep, .int .i64 us, .slice a 0 c] 35) = wr) (fun _ i _ => 0)
  case atStart => exact ⟨rfl, rfl, by first | rfl | trivial⟩
  case round =>
    obtain ⟨rfl, rfl, rfl⟩ := hrel
    go_wp2_with fail
    go_ret
    exact ⟨congrArg (fun z => Ending.returned (Value.int .i64 z)) HI.out.symm, A0⟩
set_option maxHeartbeats 4000000 in
theorem specWaits_bad (ep us : Int) (b off n c : Nat) (M : Nat → KT) (x : Int) (w : World) (hm : n ≤ maxLen) (h0 : 0 < n) (hf : Cs w b off (n * 4) (MFAsk M)) (ht : tabB ep us M n = false) :
    Calls Try.prog 37 #[.agg #[.int .i64 ep, .int .i64 us, .slice (some ⟨b, off, none⟩) n c], .int .i64 x] w fun e w' => e = .returned (.int .i64 (wtI ep us M n x)) ∧ Below w.heap.size w w' := by
  have HI : Hid (wtI ep us M n x = 0) := by rw [Hid, wtI, ht]; rfl
  have A0 := Below.nw w (.cells #[.int .i64 ep, .int .i64 us, .slice (some ⟨b, off, none⟩) n c] 35)
  have N := IB3.new w ep us (some ⟨b, off, none⟩) n c 35
  have C := specTab_any ep us (some ⟨b, off, none⟩) n c M _ hm (.inr ⟨_, _, rfl, hf.below A0 hf.1⟩)
  rw [ht] at C
  have hli : (0 : Int) < (n : Int) := by omega
  clear hf ht
  go_enter Try.func37, Try.ntmps37
  go_wp2_with fail
  generalize w.alloc (.cells #[.int .i64 ep, .int .i64 us, .slice (some ⟨b, off, none⟩) n c] 35) = w0 at *
  go_loopw [5, 6] (fun q i wr => q = .int .i64 0 ∧ i = .int .i64 0 ∧ w0 = wr) (fun _ i _ => 0)
  case atStart => exact ⟨rfl, rfl, by first | rfl | trivial⟩
  case round =>
    obtain ⟨rfl, rfl, rfl⟩ := hrel
    obtain ⟨n9, n0, n1, n2⟩ := id N
    go_wp2_with fail
    refine C.mono ?_
    rintro e w1 ⟨rfl, hb⟩
    have B := A0.trans (hb.mono A0.size)
    go_wp2_with fail
    go_ret
    exact ⟨congrArg (fun z => Ending.returned (Value.int .i64 z)) HI.out.symm, B⟩
set_option maxHeartbeats 4000000 in
theorem specWaits_good (ep us : Int) (b off n c : Nat) (M : Nat → KT) (x : Int) (w : World) (hm : n ≤ maxLen) (hf : Cs w b off (n * 4) (MFAsk M)) (ht : tabB ep us M n = true) :
    Calls Try.prog 37 #[.agg #[.int .i64 ep, .int .i64 us, .slice (some ⟨b, off, none⟩) n c], .int .i64 x] w fun e w' => e = .returned (.int .i64 (wtI ep us M n x)) ∧ Below w.heap.size w w' := by
  have HI : Hid (wtI ep us M n x = (wtN x M n : Int)) := by rw [Hid, wtI, ht]; rfl
  have hn := tabB_len ht
  have A0 := Below.nw w (.cells #[.int .i64 ep, .int .i64 us, .slice (some ⟨b, off, none⟩) n c] 35)
  have N := IB3.new w ep us (some ⟨b, off, none⟩) n c 35
  have HF := hf.below A0 hf.1
  have hb0 := HF.1
  have HC : Hid (∀ w' : World, Cs w' b off (n * 4) (MFAsk M) → Calls Try.prog 17 #[.agg #[.int .i64 ep, .int .i64 us, .slice (some ⟨b, off, none⟩) n c]] w' fun e w'' => e = .returned (.bool true) ∧ Below w'.heap.size w' w'') := fun w' h => by have := specTab_any ep us (some ⟨b, off, none⟩) n c M w' hm (.inr ⟨_, _, rfl, h⟩); rw [ht] at this; exact this
  clear hf ht
  go_enter Try.func37, Try.ntmps37
  go_wp2_with fail
  generalize w.alloc (.cells #[.int .i64 ep, .int .i64 us, .slice (some ⟨b, off, none⟩) n c] 35) = w0 at *
  go_loopw [5, 6] (fun q i wr => ∃ k : Nat, k ≤ n ∧ i = .int .i64 k ∧ q = .int .i64 (wtN x M k) ∧ Below w0.heap.size w0 wr) (fun _ i _ => n - (intOf i).toNat)
  case atStart => exact ⟨0, Nat.zero_le _, rfl, rfl, Below.refl _ _⟩
  case round =>
    obtain ⟨k, hk, rfl, rfl, hB⟩ := hrel
    have hwl := wtN_le (x := x) (M := M) k
    by_cases hlt : k < n
    · have hli : (k : Int) < (n : Int) := by omega
      obtain ⟨n9, n0, n1, n2⟩ := id (N.below hB)
      go_wp2_with fail
      refine (HC.out _ (HF.below hB hb0)).mono ?_
      rintro e w1 ⟨rfl, hb⟩
      clear n9 n0 n1 n2
      have B := hB.trans (hb.mono hB.size)
      clear hb hB
      obtain ⟨x0, x1, x2, x3, hM⟩ := tupAsk M k
      obtain ⟨c0, c1, c2, c3⟩ := (HF.below B hb0).elAsk hlt hM
      obtain ⟨n9, n0, n1, n2⟩ := id (N.below B)
      have hbr : b < w1.heap.size := Nat.lt_of_lt_of_le hb0 B.size
      have HW : Hid (wtN x M (k + 1) = wtN x M k + (if x1 = x then 1 else 0)) := by rw [Hid, wtN, hM]
      clear hM
      generalize wtN x M k = q at *
      by_cases hx : x1 = x
      · go_wp2_with fail
        go_roundw
        case rel => exact ⟨k + 1, by omega, by go_num, by rw [HW.out, if_pos hx]; simp, B⟩
        case measure => simp [intOf]; omega
      · go_wp2_with fail
        go_roundw
        case rel => exact ⟨k + 1, by omega, by go_num, by rw [HW.out, if_neg hx]; simp, B⟩
        case measure => simp [intOf]; omega
    · have hkn : k = n := by omega
      subst hkn
      have hli : ¬ (k : Int) < (k : Int) := by omega
      obtain ⟨n9, n0, n1, n2⟩ := id (N.below hB)
      go_wp2_with fail
      go_ret
      exact ⟨congrArg (fun z => Ending.returned (Value.int .i64 z)) HI.out.symm, A0.trans (hB.mono A0.size)⟩
theorem specWaits_any (ep us : Int) (a : Option Addr) (n c : Nat) (M : Nat → KT) (x : Int) (w : World) (hm : n ≤ maxLen) (hf : SrcC w a (n * 4) (MFAsk M)) :
    Calls Try.prog 37 #[.agg #[.int .i64 ep, .int .i64 us, .slice a n c], .int .i64 x] w fun e w' => e = .returned (.int .i64 (wtI ep us M n x)) ∧ Below w.heap.size w w' := by
  by_cases h0 : n = 0
  · subst h0; exact specWaits_zero ep us a c M x w
  · rcases hf with h | ⟨b, off, rfl, hf⟩
    · omega
    · cases ht : tabB ep us M n
      · exact specWaits_bad ep us b off n c M x w hm (by omega) hf ht
      · exact specWaits_good ep us b off n c M x w hm hf ht
set_option maxHeartbeats 4000000 in
theorem implWaits_any (ep us : Int) (a : Option Addr) (n c : Nat) (M : Nat → KT) (x : Int) (w : World) (hm : n ≤ maxLen) (hf : SrcC w a (n * 4) (MFAsk M)) (hw : ∀ i, i < n → (Lit.int .i64 (M i).1).wf = true) :
    Calls Try.prog 38 #[.agg #[.int .i64 ep, .int .i64 us, .slice a n c], .int .i64 x] w fun e w' => e = .returned (.int .i64 (wtI ep us M n x)) ∧ Below w.heap.size w w' := by
  have A0 := Below.nw w (.cells #[.int .i64 ep, .int .i64 us, .slice a n c] 35)
  have N := IB3.new w ep us a n c 35
  have C := implTab_any ep us a n c M _ hm (hf.below A0) hw
  have HF : Hid (SrcC w a (n * 4) (MFAsk M)) := hf
  clear hf hw
  cases ht : tabB ep us M n
  · have HI : Hid (wtI ep us M n x = 0) := by rw [Hid, wtI, ht]; rfl
    rw [ht] at C
    clear ht
    go_enter Try.func38, Try.ntmps38
    go_wp2_with fail
    refine C.mono ?_
    rintro e w1 ⟨rfl, hb⟩
    have B := A0.trans (hb.mono A0.size)
    go_wp2_with fail
    go_ret
    exact ⟨congrArg (fun z => Ending.returned (Value.int .i64 z)) HI.out.symm, B⟩
  · have HI : Hid (wtI ep us M n x = (wtN x M n : Int)) := by rw [Hid, wtI, ht]; rfl
    have hn := tabB_len ht
    rw [ht] at C
    clear ht
    go_enter Try.func38, Try.ntmps38
    go_wp2_with fail
    refine C.mono ?_
    rintro e w1 ⟨rfl, hb⟩
    have B1 := A0.trans (hb.mono A0.size)
    replace N := N.below hb
    clear hb C
    generalize hj : w.heap.size = jt at *
    obtain ⟨n9, n0, n1, n2⟩ := id N
    go_wp2_with fail
    clear n9 n0 n1 n2
    go_loopw [5, 14] (fun q i wr => ∃ k : Nat, k ≤ n ∧ i = .int .i64 k ∧ q = .int .i64 (wtN x M k) ∧ Below jt w wr) (fun _ i _ => n - (intOf i).toNat)
    case atStart => exact ⟨0, Nat.zero_le _, rfl, rfl, B1⟩
    case round =>
      obtain ⟨k, hk, rfl, rfl, B⟩ := hrel
      have hwl := wtN_le (x := x) (M := M) k
      by_cases hlt : k < n
      · have hli : (k : Int) < (n : Int) := by omega
        rcases HF.out with h0 | ⟨b, off, rfl, hf⟩
        · omega
        have hbw := hf.1
        obtain ⟨x0, x1, x2, x3, hM⟩ := tupAsk M k
        obtain ⟨c0, c1, c2, c3⟩ := (hf.below B (by rw [← hj]; exact hbw)).elAsk hlt hM
        have HW : Hid (wtN x M (k + 1) = wtN x M k + (if x1 = x then 1 else 0)) := by rw [Hid, wtN, hM]
        clear hM hf
        generalize wtN x M k = q at *
        have B2 := B.trans ((Below.nw wr (.cells #[.int .i64 x0, .int .i64 x1, .int .i64 x2, .int .i64 x3] 44)).mono (hj ▸ B.size))
        by_cases hx : x1 = x
        · subst hx
          go_wp2_with fail
          go_roundw
          case rel => exact ⟨k + 1, by omega, by go_num, by rw [HW.out, if_pos rfl]; simp, B2⟩
          case measure => simp [intOf]; omega
        · go_wp2_with fail
          go_roundw
          case rel => exact ⟨k + 1, by omega, by go_num, by rw [HW.out, if_neg hx]; simp, B2⟩
          case measure => simp [intOf]; omega
      · have hkn : k = n := by omega
        subst hkn
        have hli : ¬ (k : Int) < (k : Int) := by omega
        go_wp2_with fail
        go_ret
        exact ⟨congrArg (fun z => Ending.returned (Value.int .i64 z)) HI.out.symm, B⟩
end Go.Proofs.Ytkhmegjbhbjihaa
