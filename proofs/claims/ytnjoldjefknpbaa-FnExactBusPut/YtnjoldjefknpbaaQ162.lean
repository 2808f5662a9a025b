/- Rows of frames: their size and their marks from any number on. -/
import Derived.Test.YtnjoldjefknpbaaQ151
import Derived.Deep.RegionHeld3
import Derived.WalkKit
import Derived.WalkSpells
import Derived.WalkLawsBesides
import Derived.Deep.RegionHeld
namespace Go.Proofs.Ytnjoldjefknpbaa
open Go.RowKit
set_option linter.unusedVariables false
set_option maxHeartbeats 1000000 in
theorem szFrameS_longZ (a : Option Addr) (n c : Nat) (z0 : Int) (hz0 : 0 ≤ z0 ∧ z0 ≤ 1048576) (w : World) (hm : n ≤ maxLen) (h : z0 < (n : Int)) :
    Calls Try.prog 37 #[.slice a n c, .int .i64 z0] w fun e w' => e = .returned (.int .i64 (-1)) ∧ Below w.heap.size w w' := by
  unfold maxLen at hm
  have hd : decide (z0 - (n : Int) < 0) = true := by simp; omega
  go_enter Try.func37, Try.ntmps37
  go_wp2_with fail
  go_ret
  exact ⟨rfl, Below.refl _ _⟩
set_option maxHeartbeats 2000000 in
theorem szFrameS_someZ (b off n c : Nat) (M : Nat → FrT) (z0 : Int) (hz0 : 0 ≤ z0 ∧ z0 ≤ 1048576) (w : World) (hn : (n : Int) ≤ z0) (hf : Cs w b off (n * 6) (MFFrame M)) (hs : ∀ i, i < n → ((M i).2.2.2.2.2).size ≤ maxLen) :
    Calls Try.prog 37 #[.slice (some ⟨b, off, none⟩) n c, .int .i64 z0] w fun e w' => ∃ L : Int, e = .returned (.int .i64 L) ∧ (0 ≤ L → L ≤ z0 ∧ ∀ i, i < n → ((M i).2.2.2.2.2).size ≤ 1048576) ∧ Below w.heap.size w w' := by
  have hd : decide (z0 - (n : Int) < 0) = false := by simp; omega
  have HS : Hid (∀ i, i < n → ((M i).2.2.2.2.2).size ≤ maxLen) := hs
  clear hs
  go_enter Try.func37, Try.ntmps37
  go_wp2_with fail
  go_loopw [1, 5] (fun l i wr => ∃ (k : Nat) (L : Int), k ≤ n ∧ i = .int .i64 k ∧ l = .int .i64 L ∧ 0 ≤ L ∧ L ≤ z0 ∧ (∀ i, i < k → ((M i).2.2.2.2.2).size ≤ 1048576) ∧ Below w.heap.size w wr) (fun _ i _ => n - (intOf i).toNat)
  case atStart => exact ⟨0, _, Nat.zero_le _, rfl, rfl, by omega, by omega, fun i hi => absurd hi (Nat.not_lt_zero _), Below.refl _ _⟩
  case round =>
    obtain ⟨k, L, hk, rfl, rfl, L0, L1, hall, hB⟩ := hrel
    have HA : Hid (∀ i, i < k → ((M i).2.2.2.2.2).size ≤ 1048576) := hall
    clear hall
    by_cases hlt : k < n
    · obtain ⟨x0, x1, x2, x3, x4, x5, hM⟩ := tupFrame M k
      obtain ⟨c0, c1, c2, c3, c4, c5⟩ := (hf.below hB hf.1).elFrame hlt hM
      have hx := HS.out k hlt
      rw [hM] at hx
      have hli : (k : Int) < (n : Int) := by omega
      by_cases hle : (x5.size : Int) ≤ L
      · go_wp2_with fail
        refine (szFrame_left x0 x1 x2 x3 x4 x5 L _ hx L0 (Int.le_trans L1 hz0.2)).mono ?_
        rintro e w' ⟨rfl, hb⟩
        rw [if_pos hle]
        have hnl : ¬ L - (x5.size : Int) < 0 := by omega
        go_wp2_with fail
        go_roundw
        case rel =>
          refine ⟨k + 1, _, by omega, by go_num, rfl, by omega, by omega, fun i hi => ?_, hB.trans (hb.mono hB.size)⟩
          by_cases e : i = k
          · subst e; rw [hM]; show x5.size ≤ 1048576; omega
          · exact HA.out i (by omega)
        case measure => simp [intOf]; omega
      · have HL : Hid (¬ (x5.size : Int) ≤ L) := hle
        go_wp2_with fail
        refine (szFrame_left x0 x1 x2 x3 x4 x5 L _ hx L0 (Int.le_trans L1 hz0.2)).mono ?_
        rintro e w' ⟨rfl, hb⟩
        rw [if_neg (Int.not_le.2 HL.out)]
        go_wp2_with fail
        go_ret
        exact ⟨-1, rfl, fun h => absurd h (by decide), hB.trans (hb.mono hB.size)⟩
    · have hkn : k = n := by omega
      subst hkn
      have hli : ¬ (k : Int) < (k : Int) := by omega
      go_wp2_with fail
      go_ret
      exact ⟨L, rfl, fun _ => ⟨L1, HA.out⟩, hB⟩
set_option maxHeartbeats 1000000 in
theorem szFrameS_zeroZ (a : Option Addr) (c : Nat) (z0 : Int) (hz0 : 0 ≤ z0 ∧ z0 ≤ 1048576) (w : World) :
    Calls Try.prog 37 #[.slice a 0 c, .int .i64 z0] w fun e w' => e = .returned (.int .i64 z0) ∧ Below w.heap.size w w' := by
  go_enter Try.func37, Try.ntmps37
  go_wp2_with fail
  go_loopw [1, 5] (fun l i wr => i = .int .i64 0 ∧ l = .int .i64 z0 ∧ w = wr) (fun _ i _ => 0)
  case atStart => exact ⟨rfl, rfl, by first | rfl | trivial⟩
  case round =>
    obtain ⟨rfl, rfl, rfl⟩ := hrel
    go_wp2_with fail
    go_ret
    exact ⟨rfl, Below.refl _ _⟩
theorem szFrameS_at (a : Option Addr) (n c : Nat) (M : Nat → FrT) (z0 : Int) (hz0 : 0 ≤ z0 ∧ z0 ≤ 1048576) (w : World) (hm : n ≤ maxLen) (h : SrcC w a (n * 6) (MFFrame M)) (hs : ∀ i, i < n → ((M i).2.2.2.2.2).size ≤ maxLen) :
    Calls Try.prog 37 #[.slice a n c, .int .i64 z0] w fun e w' => ∃ L : Int, e = .returned (.int .i64 L) ∧ (0 ≤ L → L ≤ z0 ∧ n ≤ 1048576 ∧ ∀ i, i < n → ((M i).2.2.2.2.2).size ≤ 1048576) ∧ Below w.heap.size w w' := by
  by_cases hl : z0 < (n : Int)
  · exact (szFrameS_longZ a n c z0 hz0 w hm hl).mono fun e w' ⟨h1, h2⟩ => ⟨-1, h1, fun h => absurd h (by decide), h2⟩
  · rcases h with h0 | ⟨b, off, rfl, hf⟩
    · have hn0 : n = 0 := by omega
      subst hn0
      exact (szFrameS_zeroZ a c z0 hz0 w).mono fun e w' ⟨h1, h2⟩ => ⟨_, h1, fun _ => ⟨Int.le_refl _, by omega, fun i hi => absurd hi (Nat.not_lt_zero _)⟩, h2⟩
    · exact (szFrameS_someZ b off n c M z0 hz0 w (by omega) hf hs).mono fun e w' ⟨L, h1, h2, h3⟩ => ⟨L, h1, fun h => ⟨(h2 h).1, by omega, (h2 h).2⟩, h3⟩
def mkFrameQ (q0 : Int) (c : Nat) : Value := if c % 6 = 5 then .string (txt (q0 + (c : Int))) else .int .i64 (q0 + (c : Int))
theorem mkFrameQ_i {q0 : Int} {k j : Nat} {x : Int} (hj : j < 6) (hs : j ≠ 5) (h : x = q0 + ((k * 6 + j : Nat) : Int)) : mkFrameQ q0 (k * 6 + j) = .int .i64 x := by
  have e : (k * 6 + j) % 6 = j := by omega
  rw [mkFrameQ, e, if_neg (by omega), h]
theorem mkFrameQ_s {q0 : Int} {k j : Nat} {x : Int} (hj : j < 6) (hs : j = 5) (h : x = q0 + ((k * 6 + j : Nat) : Int)) : mkFrameQ q0 (k * 6 + j) = .string (txt x) := by
  have e : (k * 6 + j) % 6 = j := by omega
  rw [mkFrameQ, e, if_pos (by omega), h]
set_option maxHeartbeats 8000000 in
theorem markFrameS_rowQ (b N n c : Nat) (q0 : Int) (w : World) (hn : n ≤ 1048576) (hq : 0 < q0) (hq1 : q0 ≤ 8388608) (hN : n * 6 ≤ N) (h : RowF w b 33 N 0 (mkFrameQ q0)) :
    Calls Try.prog 42 #[.slice (some ⟨b, 0, none⟩) n c, .int .i64 q0] w fun e w' => e = .returned (.int .i64 (q0 + (n : Int) * 6)) ∧ RowF w' b 33 N (n * 6) (mkFrameQ q0) ∧ But b w w' := by
  go_enter Try.func42, Try.ntmps42
  go_wp2_with fail
  go_loopw [1, 5] (fun q i wr => ∃ (k : Nat) (Q : Int), k ≤ n ∧ i = .int .i64 k ∧ q = .int .i64 Q ∧ Q = q0 + (k : Int) * 6 ∧ RowF wr b 33 N (k * 6) (mkFrameQ q0) ∧ But b w wr) (fun _ i _ => n - (intOf i).toNat)
  case atStart => exact ⟨0, q0, Nat.zero_le _, rfl, rfl, by omega, h.eqm (by omega), But.refl _ _⟩
  case round =>
    obtain ⟨k, Q, hk, rfl, rfl, hQ, row, hB⟩ := hrel
    clear h
    have HQ : Hid (Q = q0 + (k : Int) * 6) := hQ
    by_cases hlt : k < n
    · have hli : (k : Int) < (n : Int) := by omega
      have Q0 : 0 < Q := by omega
      have Q1 : Q ≤ 8388608 + 1048576 * 6 := by omega
      clear hQ
      have hlr := row.lt
      obtain ⟨⟨v0, e0⟩, f0⟩ := row.facts (k * 6) (by omega)
      obtain ⟨⟨v1, e1⟩, f1⟩ := row.facts (k * 6 + 1) (by omega)
      obtain ⟨⟨v2, e2⟩, f2⟩ := row.facts (k * 6 + 2) (by omega)
      obtain ⟨⟨v3, e3⟩, f3⟩ := row.facts (k * 6 + 3) (by omega)
      obtain ⟨⟨v4, e4⟩, f4⟩ := row.facts (k * 6 + 4) (by omega)
      obtain ⟨⟨v5, e5⟩, f5⟩ := row.facts (k * 6 + 5) (by omega)
      go_wp2_with fail
      refine (markText_any _ _ (by omega) (by omega)).mono ?_
      rintro e w' ⟨rfl, hb⟩
      have row' := RowF.below' hb (RowF.put (RowF.put (RowF.put (RowF.put (RowF.put row (k * 6 + 1) (by omega) (mkFrameQ_i (k := k) (j := 0) (by decide) (by decide) (by have := HQ.out; omega))) (k * 6 + 2) (by omega) (mkFrameQ_i (k := k) (j := 1) (by decide) (by decide) (by have := HQ.out; omega))) (k * 6 + 3) (by omega) (mkFrameQ_i (k := k) (j := 2) (by decide) (by decide) (by have := HQ.out; omega))) (k * 6 + 4) (by omega) (mkFrameQ_i (k := k) (j := 3) (by decide) (by decide) (by have := HQ.out; omega))) (k * 6 + 5) (by omega) (mkFrameQ_i (k := k) (j := 4) (by decide) (by decide) (by have := HQ.out; omega)))
      have hB' : But b w w' := But.trans (((((hB.setCell _ _).setCell _ _).setCell _ _).setCell _ _).setCell _ _) (But.of_below hb)
      clear e0 f0 e1 f1 e2 f2 e3 f3 e4 f4 e5 f5 hb row hB hlr
      have row := row'
      have hB := hB'
      clear row' hB'
      have hlr := row.lt
      obtain ⟨⟨v0, e0⟩, f0⟩ := row.facts (k * 6) (by omega)
      obtain ⟨⟨v1, e1⟩, f1⟩ := row.facts (k * 6 + 1) (by omega)
      obtain ⟨⟨v2, e2⟩, f2⟩ := row.facts (k * 6 + 2) (by omega)
      obtain ⟨⟨v3, e3⟩, f3⟩ := row.facts (k * 6 + 3) (by omega)
      obtain ⟨⟨v4, e4⟩, f4⟩ := row.facts (k * 6 + 4) (by omega)
      obtain ⟨⟨v5, e5⟩, f5⟩ := row.facts (k * 6 + 5) (by omega)
      go_wp2_with fail
      go_roundw
      case rel => exact ⟨k + 1, _, by omega, by go_num, rfl, by have := HQ.out; omega, (RowF.put row ((k + 1) * 6) (by omega) (mkFrameQ_s (k := k) (j := 5) (by decide) (by decide) (by have := HQ.out; omega))), (hB.setCell _ _)⟩
      case measure => simp [intOf]; omega
    · have hkn : k = n := by omega
      subst hkn
      have hli : ¬ (k : Int) < (k : Int) := by omega
      subst hQ
      go_wp2_with fail
      go_ret
      exact ⟨rfl, row, hB⟩
set_option maxHeartbeats 400000 in
theorem markFrameS_zeroQ (a : Option Addr) (c : Nat) (q0 : Int) (w : World) :
    Calls Try.prog 42 #[.slice a 0 c, .int .i64 q0] w fun e w' => e = .returned (.int .i64 q0) ∧ w = w' := by
  go_enter Try.func42, Try.ntmps42
  go_wp2_with fail
  go_loopw [1, 5] (fun q i wr => i = .int .i64 0 ∧ q = .int .i64 q0 ∧ w = wr) (fun _ i _ => 0)
  case atStart => exact ⟨rfl, rfl, by first | rfl | trivial⟩
  case round =>
    obtain ⟨rfl, rfl, rfl⟩ := hrel
    go_wp2_with fail
    go_ret
    exact ⟨rfl, rfl⟩
theorem markFrameS_at (a : Option Addr) (n c base : Nat) (q0 : Int) (xs : List Value) (w : World) (hn : n ≤ 1048576) (hq : 0 < q0) (hq1 : q0 ≤ 8388608) (hb : base ≤ w.heap.size) (h : w.ownsRow base 33 6 (.slice a n c) n xs) :
    Calls Try.prog 42 #[.slice a n c, .int .i64 q0] w fun e w' => e = .returned (.int .i64 (q0 + (n : Int) * 6)) ∧ SrcC w' a (n * 6) (mkFrameQ q0) ∧ Below base w w' := by
  rcases h.2 with ⟨he, h0⟩ | ⟨g, cap, cur, he, _⟩
  · subst h0
    exact (markFrameS_zeroQ a c q0 w).mono fun e w' ⟨h1, h2⟩ => ⟨by rw [h1]; simp, .inl (by omega), h2 ▸ Below.refl _ _⟩
  · simp at he
    obtain ⟨rfl, rfl⟩ := he
    obtain ⟨h1, h2, _, h3⟩ := ownF_row (mkFrameQ q0) h
    exact (markFrameS_rowQ g (c * 6) n c q0 w hn hq hq1 (Nat.mul_le_mul_right _ h2) h3).mono fun e w' ⟨r1, r2, r3⟩ => ⟨r1, .inr ⟨g, 0, rfl, r2.cs (Nat.mul_le_mul_right _ h2)⟩, r3.below h1 hb⟩
end Go.Proofs.Ytnjoldjefknpbaa
