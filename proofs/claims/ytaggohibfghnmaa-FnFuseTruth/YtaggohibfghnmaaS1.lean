/- Contracts for lists of intervals: l1All, szIvalS, eqIvalS. -/
import Derived.Test.YtaggohibfghnmaaW2
import Derived.WalkKit
import Derived.WalkSpells
import Derived.WalkLawsBesides
import Derived.Deep.RegionHeld
namespace Go.Proofs.Ytaggohibfghnmaa
open Go.RowKit
set_option linter.unusedVariables false
def Prs (w : World) (b off n : Nat) (f : Nat → Int × Int) : Prop :=
  b < w.heap.size ∧ ∀ i, i < n → w.cell? ⟨b, off + i * 2, none⟩ = some (.int .i64 (f i).1) ∧ w.cell? ⟨b, off + i * 2 + 1, none⟩ = some (.int .i64 (f i).2)
theorem Prs.below {w w' : World} {B b off n : Nat} {f : Nat → Int × Int} (h : Prs w b off n f) (hb : Below B w w') (hB : b < B) : Prs w' b off n f :=
  ⟨Nat.lt_of_lt_of_le h.1 hb.size, fun i hi => ⟨by rw [hb.cell (p := ⟨b, off + i * 2, none⟩) hB]; exact (h.2 i hi).1, by rw [hb.cell (p := ⟨b, off + i * 2 + 1, none⟩) hB]; exact (h.2 i hi).2⟩⟩
def allOk (f : Nat → Int × Int) : Nat → Bool
  | 0 => true
  | n + 1 => allOk f n && okI (f n).1 (f n).2
theorem allOk_no {f : Nat → Int × Int} {k : Nat} (h : okI (f k).1 (f k).2 = false) : ∀ n, k < n → allOk f n = false
  | 0, hn => absurd hn (Nat.not_lt_zero _)
  | n + 1, hn => by
    rcases Nat.lt_succ_iff_lt_or_eq.1 hn with h1 | h1
    · simp [allOk, allOk_no h n h1]
    · subst h1; simp [allOk, h]
set_option maxHeartbeats 400000 in
theorem l1All_long (b off n c : Nat) (w : World) (hn : 64 < n) (hm : n ≤ maxLen) :
    Calls Try.prog 50 #[.slice (some ⟨b, off, none⟩) n c, .int .i64 64] w fun e w' => e = .returned (.bool false) ∧ Below w.heap.size w w' := by
  unfold maxLen at hm
  have hd : decide (64 < (n : Int)) = true := by simp; omega
  go_enter Try.func50, Try.ntmps50
  go_wp2_with fail
  go_ret
  exact ⟨rfl, Below.refl _ _⟩
set_option maxHeartbeats 400000 in
theorem l1All_any (b off n c : Nat) (f : Nat → Int × Int) (w : World) (hn : n ≤ 64) (hf : Prs w b off n f) :
    Calls Try.prog 50 #[.slice (some ⟨b, off, none⟩) n c, .int .i64 64] w fun e w' => e = .returned (.bool (allOk f n)) ∧ Below w.heap.size w w' := by
  have hd : decide (64 < (n : Int)) = false := by simp; omega
  go_enter Try.func50, Try.ntmps50
  go_wp2_with fail
  go_loopw [5] (fun i wr => ∃ k : Nat, k ≤ n ∧ i = .int .i64 k ∧ allOk f k = true ∧ Below w.heap.size w wr) (fun i _ => n - (intOf i).toNat)
  case atStart => exact ⟨0, Nat.zero_le _, rfl, rfl, Below.refl _ _⟩
  case round =>
    obtain ⟨k, hk, rfl, hall, hB⟩ := hrel
    have HA : Hid (allOk f k = true) := hall
    clear hall
    by_cases hlt : k < n
    · have c0 : wr.cell? ⟨b, off + k * 2, none⟩ = some (.int .i64 (f k).1) := ((hf.below hB hf.1).2 k hlt).1
      have c1 : wr.cell? ⟨b, off + k * 2 + 1, none⟩ = some (.int .i64 (f k).2) := ((hf.below hB hf.1).2 k hlt).2
      have hsz := hB.size
      cases hok : okI (f k).1 (f k).2
      · have HN : Hid (allOk f n = false) := allOk_no hok n hlt
        go_wp2_with (first | (go_at_call 25; refine (specIvalOk_any _ _ _).mono ?_; rintro e w' ⟨rfl, hb⟩))
        go_ret
        exact ⟨ret_bool HN.out.symm, hB.trans (hb.mono hsz)⟩
      · go_wp2_with (first | (go_at_call 25; refine (specIvalOk_any _ _ _).mono ?_; rintro e w' ⟨rfl, hb⟩))
        go_roundw
        case rel => exact ⟨k + 1, by omega, by go_num, by simp [allOk, HA.out, hok], hB.trans (hb.mono hsz)⟩
        case measure => simp [intOf]; omega
    · go_wp2_with fail
      go_ret
      exact ⟨ret_bool (by rw [← HA.out]; congr 1; omega), hB⟩
end Go.Proofs.Ytaggohibfghnmaa
