/- Contracts of Waits. -/
import Derived.Test.YtcaelkpjkmpheaaA5
import Derived.Test.YtcaelkpjkmpheaaA6
import Derived.WalkKit
import Derived.WalkSpells
import Derived.WalkLawsBesides
import Derived.Deep.RegionHeld
namespace Go.Proofs.Ytcaelkpjkmpheaa
open Go.RowKit
set_option linter.unusedVariables false
def wtN (x : Int) (M : Nat → KT) : Nat → Nat
  | 0 => 0
  | k + 1 => wtN x M k + (if (M k).2.1 = x then 1 else 0)
theorem wtN_le {x : Int} {M : Nat → KT} : ∀ k, wtN x M k ≤ k
  | 0 => Nat.le_refl _
  | k + 1 => by
    have := wtN_le (x := x) (M := M) k
    rw [wtN]
    split <;> omega
def wtI (ep us : Int) (M : Nat → KT) (n : Nat) (x : Int) : Int := bif tabB ep us M n then (wtN x M n : Int) else 0
theorem tabB_len {ep us : Int} {M : Nat → KT} {n : Nat} (h : tabB ep us M n = true) : n ≤ 16 := by
  rw [tabB] at h
  simp only [Bool.and_eq_true, decide_eq_true_eq] at h
  exact h.1.2
set_option maxHeartbeats 4000000 in
theorem implWaits_any (ep us : Int) (a : Option Addr) (n c : Nat) (M : Nat → KT) (x : Int) (w : World) (hm : n ≤ maxLen) (hf : SrcC w a (n * 4) (MFAsk M)) (hw : ∀ i, i < n → (Lit.int .i64 (M i).1).wf = true) :
    Calls Try.prog 20 #[.agg #[.int .i64 ep, .int .i64 us, .slice a n c], .int .i64 x] w fun e w' => e = .returned (.int .i64 (wtI ep us M n x)) ∧ Below w.heap.size w w' := by
  have A0 := Below.nw w (.cells #[.int .i64 ep, .int .i64 us, .slice a n c] 26)
  have N := IB3.new w ep us a n c 26
  have C := implTab_any ep us a n c M _ hm (hf.below A0) hw
  have HF : Hid (SrcC w a (n * 4) (MFAsk M)) := hf
  clear hf hw
  cases ht : tabB ep us M n
  · have HI : Hid (wtI ep us M n x = 0) := by rw [Hid, wtI, ht]; rfl
    rw [ht] at C
    clear ht
    go_enter Try.func20, Try.ntmps20
    go_wp2_with fail
    refine C.mono ?_
    rintro e w1 ⟨rfl, hb⟩
    have B := A0.trans (hb.mono A0.size)
    go_wp2_with fail
    go_ret
    exact ⟨congrArg (fun z => Ending.returned (Value.int .i64 z)) HI.out.symm, B⟩
  · have HI : Hid (wtI ep us M n x = (wtN x M n : Int)) := by rw [Hid, wtI, ht]; rfl
    have hn := tabB_len ht
    rw [ht] at C
    clear ht
    go_enter Try.func20, Try.ntmps20
    go_wp2_with fail
    refine C.mono ?_
    rintro e w1 ⟨rfl, hb⟩
    have B1 := A0.trans (hb.mono A0.size)
    replace N := N.below hb
    clear hb C
    generalize hj : w.heap.size = jt at *
    obtain ⟨n9, n0, n1, n2⟩ := id N
    go_wp2_with fail
    clear n9 n0 n1 n2
    go_loopw [5, 14] (fun q i wr => ∃ k : Nat, k ≤ n ∧ i = .int .i64 k ∧ q = .int .i64 (wtN x M k) ∧ Below jt w wr) (fun _ i _ => n - (intOf i).toNat)
    case atStart => exact ⟨0, Nat.zero_le _, rfl, rfl, B1⟩
    case round =>
      obtain ⟨k, hk, rfl, rfl, B⟩ := hrel
      have hwl := wtN_le (x := x) (M := M) k
      by_cases hlt : k < n
      · have hli : (k : Int) < (n : Int) := by omega
        rcases HF.out with h0 | ⟨b, off, rfl, hf⟩
        · omega
        have hbw := hf.1
        obtain ⟨x0, x1, x2, x3, hM⟩ := tupAsk M k
        obtain ⟨c0, c1, c2, c3⟩ := (hf.below B (by rw [← hj]; exact hbw)).elAsk hlt hM
        have HW : Hid (wtN x M (k + 1) = wtN x M k + (if x1 = x then 1 else 0)) := by rw [Hid, wtN, hM]
        clear hM hf
        generalize wtN x M k = q at *
        have B2 := B.trans ((Below.nw wr (.cells #[.int .i64 x0, .int .i64 x1, .int .i64 x2, .int .i64 x3] 34)).mono (hj ▸ B.size))
        by_cases hx : x1 = x
        · subst hx
          go_wp2_with fail
          go_roundw
          case rel => exact ⟨k + 1, by omega, by go_num, by rw [HW.out, if_pos rfl]; simp, B2⟩
          case measure => simp [intOf]; omega
        · go_wp2_with fail
          go_roundw
          case rel => exact ⟨k + 1, by omega, by go_num, by rw [HW.out, if_neg hx]; simp, B2⟩
          case measure => simp [intOf]; omega
      · have hkn : k = n := by omega
        subst hkn
        have hli : ¬ (k : Int) < (k : Int) := by omega
        go_wp2_with fail
        go_ret
        exact ⟨congrArg (fun z => Ending.returned (Value.int .i64 z)) HI.out.symm, B⟩
end Go.Proofs.Ytcaelkpjkmpheaa
