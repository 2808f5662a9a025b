/- Contracts for lists of intervals: l1All, szIvalS, eqIvalS. -/
import Derived.Test.YtmnheknjllobdaaW2
import Derived.WalkKit
import Derived.WalkSpells
import Derived.WalkLawsBesides
import Derived.Deep.RegionHeld
namespace Go.Proofs.Ytmnheknjllobdaa
open Go.RowKit
set_option linter.unusedVariables false
def Prs (w : World) (b off n : Nat) (f : Nat → Int × Int) : Prop :=
  b < w.heap.size ∧ ∀ i, i < n → w.cell? ⟨b, off + i * 2, none⟩ = some (.int .i64 (f i).1) ∧ w.cell? ⟨b, off + i * 2 + 1, none⟩ = some (.int .i64 (f i).2)
theorem Prs.below {w w' : World} {B b off n : Nat} {f : Nat → Int × Int} (h : Prs w b off n f) (hb : Below B w w') (hB : b < B) : Prs w' b off n f :=
  ⟨Nat.lt_of_lt_of_le h.1 hb.size, fun i hi => ⟨by rw [hb.cell (p := ⟨b, off + i * 2, none⟩) hB]; exact (h.2 i hi).1, by rw [hb.cell (p := ⟨b, off + i * 2 + 1, none⟩) hB]; exact (h.2 i hi).2⟩⟩
def allOk (f : Nat → Int × Int) : Nat → Bool
  | 0 => true
  | n + 1 => allOk f n && okI (f n).1 (f n).2
theorem allOk_no {f : Nat → Int × Int} {k : Nat} (h : okI (f k).1 (f k).2 = false) : ∀ n, k < n → allOk f n = false
  | 0, hn => absurd hn (Nat.not_lt_zero _)
  | n + 1, hn => by
    rcases Nat.lt_succ_iff_lt_or_eq.1 hn with h1 | h1
    · simp [allOk, allOk_no h n h1]
    · subst h1; simp [allOk, h]
set_option maxHeartbeats 400000 in
theorem l1All_long (b off n c : Nat) (w : World) (hn : 64 < n) (hm : n ≤ maxLen) :
    Calls Try.prog 37 #[.slice (some ⟨b, off, none⟩) n c, .int .i64 64] w fun e w' => e = .returned (.bool false) ∧ Below w.heap.size w w' := by
  unfold maxLen at hm
  have hd : decide (64 < (n : Int)) = true := by simp; omega
  go_enter Try.func37, Try.ntmps37
  go_wp2_with fail
  go_ret
  exact ⟨rfl, Below.refl _ _⟩
set_option maxHeartbeats 400000 in
theorem l1All_any (b off n c : Nat) (f : Nat → Int × Int) (w : World) (hn : n ≤ 64) (hf : Prs w b off n f) :
    Calls Try.prog 37 #[.slice (some ⟨b, off, none⟩) n c, .int .i64 64] w fun e w' => e = .returned (.bool (allOk f n)) ∧ Below w.heap.size w w' := by
  have hd : decide (64 < (n : Int)) = false := by simp; omega
  go_enter Try.func37, Try.ntmps37
  go_wp2_with fail
  go_loopw [5] (fun i wr => ∃ k : Nat, k ≤ n ∧ i = .int .i64 k ∧ allOk f k = true ∧ Below w.heap.size w wr) (fun i _ => n - (intOf i).toNat)
  case atStart => exact ⟨0, Nat.zero_le _, rfl, rfl, Below.refl _ _⟩
  case round =>
    obtain ⟨k, hk, rfl, hall, hB⟩ := hrel
    have HA : Hid (allOk f k = true) := hall
    clear hall
    by_cases hlt : k < n
    · have c0 : wr.cell? ⟨b, off + k * 2, none⟩ = some (.int .i64 (f k).1) := ((hf.below hB hf.1).2 k hlt).1
      have c1 : wr.cell? ⟨b, off + k * 2 + 1, none⟩ = some (.int .i64 (f k).2) := ((hf.below hB hf.1).2 k hlt).2
      have hsz := hB.size
      cases hok : okI (f k).1 (f k).2
      · have HN : Hid (allOk f n = false) := allOk_no hok n hlt
        go_wp2_with (first | (go_at_call 50; refine (specIvalOk_any _ _ _).mono ?_; rintro e w' ⟨rfl, hb⟩))
        go_ret
        exact ⟨ret_bool HN.out.symm, hB.trans (hb.mono hsz)⟩
      · go_wp2_with (first | (go_at_call 50; refine (specIvalOk_any _ _ _).mono ?_; rintro e w' ⟨rfl, hb⟩))
        go_roundw
        case rel => exact ⟨k + 1, by omega, by go_num, by simp [allOk, HA.out, hok], hB.trans (hb.mono hsz)⟩
        case measure => simp [intOf]; omega
    · go_wp2_with fail
      go_ret
      exact ⟨ret_bool (by rw [← HA.out]; congr 1; omega), hB⟩
set_option maxHeartbeats 400000 in
theorem szIvalS_any (a : Option Addr) (n c : Nat) (w : World) (hm : n ≤ maxLen) :
    Calls Try.prog 11 #[.slice a n c, .int .i64 1048576] w fun e w' => e = .returned (.int .i64 (if (n : Int) ≤ 1048576 then 1048576 - (n : Int) else -1)) ∧ w = w' := by
  unfold maxLen at hm
  by_cases h : (n : Int) ≤ 1048576
  · rw [if_pos h]
    have hd : decide (1048576 - (n : Int) < 0) = false := by simp; omega
    go_enter Try.func11, Try.ntmps11
    go_wp2
    go_ret
    exact ⟨rfl, rfl⟩
  · rw [if_neg h]
    have hd : decide (1048576 - (n : Int) < 0) = true := by simp; omega
    go_enter Try.func11, Try.ntmps11
    go_wp2
    go_ret
    exact ⟨rfl, rfl⟩
set_option maxHeartbeats 1600000 in
theorem eqIvalS_same (b off b' off' n c c' : Nat) (f : Nat → Int × Int) (w : World) (hn : n ≤ maxLen) (hf : Prs w b off n f) (hg : Prs w b' off' n f) :
    Calls Try.prog 15 #[.slice (some ⟨b, off, none⟩) n c, .slice (some ⟨b', off', none⟩) n c'] w fun e w' => e = .returned (.bool true) ∧ Below w.heap.size w w' := by
  unfold maxLen at hn
  go_enter Try.func15, Try.ntmps15
  go_wp2_with fail
  go_loopw [5] (fun i wr => ∃ k : Nat, k ≤ n ∧ i = .int .i64 k ∧ Below w.heap.size w wr) (fun i _ => n - (intOf i).toNat)
  case atStart => exact ⟨0, Nat.zero_le _, rfl, Below.refl _ _⟩
  case round =>
    obtain ⟨k, hk, rfl, hB⟩ := hrel
    by_cases hlt : k < n
    · have c0 : wr.cell? ⟨b, off + k * 2, none⟩ = some (.int .i64 (f k).1) := ((hf.below hB hf.1).2 k hlt).1
      have c1 : wr.cell? ⟨b, off + k * 2 + 1, none⟩ = some (.int .i64 (f k).2) := ((hf.below hB hf.1).2 k hlt).2
      have d0 : wr.cell? ⟨b', off' + k * 2, none⟩ = some (.int .i64 (f k).1) := ((hg.below hB hg.1).2 k hlt).1
      have d1 : wr.cell? ⟨b', off' + k * 2 + 1, none⟩ = some (.int .i64 (f k).2) := ((hg.below hB hg.1).2 k hlt).2
      have hsz := hB.size
      have hli : (k : Int) < (n : Int) := by omega
      go_wp2_with fail
      go_region_held (fun w' => w'.cell? ⟨b, off + k * 2, none⟩ = some (.int .i64 (f k).1) ∧ w'.cell? ⟨b, off + k * 2 + 1, none⟩ = some (.int .i64 (f k).2) ∧ w'.cell? ⟨b', off' + k * 2, none⟩ = some (.int .i64 (f k).1) ∧ w'.cell? ⟨b', off' + k * 2 + 1, none⟩ = some (.int .i64 (f k).2)) (first | (simp [*]; done) | (refine ⟨?_, ?_, ?_, ?_⟩ <;> (rw [hb.cell (by first | (simp; omega) | omega)]; simp [*]; done))) (first | (go_at_call 24; refine (eqIval_same _ _ _).mono ?_; rintro e w' ⟨rfl, hb⟩; (have hb1 : b < wr.heap.size := Nat.lt_of_lt_of_le hf.1 hsz); (have hb2 : b' < wr.heap.size := Nat.lt_of_lt_of_le hg.1 hsz)))
      all_goals go_wp2_with fail
      all_goals go_roundw
      all_goals first | (case rel => exact ⟨k + 1, by omega, by go_num, (Below.drew hB).trans (hb.mono hsz)⟩) | skip
      all_goals first | (case measure => simp [intOf]; omega) | skip
    · go_wp2_with fail
      go_ret
      exact ⟨rfl, hB⟩
end Go.Proofs.Ytmnheknjllobdaa
