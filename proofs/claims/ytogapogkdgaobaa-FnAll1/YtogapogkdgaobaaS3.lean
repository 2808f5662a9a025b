/- What intervals two by two come to, and spec.MeetAll where it refuses. -/
import Derived.Test.YtogapogkdgaobaaS1
import Derived.Deep.OwnRows
import Derived.Test.YtogapogkdgaobaaW4
import Derived.WalkKit
import Derived.WalkSpells
import Derived.WalkLawsBesides
import Derived.Deep.RegionHeld
namespace Go.Proofs.Ytogapogkdgaobaa
open Go.RowKit
set_option linter.unusedVariables false
def acc (B : Int → Int → Int → Int → Bool) (X Y : Int → Int → Int) (f : Nat → Int × Int) : Nat → Bool × Int × Int
  | 0 => (okI (f 0).1 (f 0).2, sel (okI (f 0).1 (f 0).2) (f 0).1, sel (okI (f 0).1 (f 0).2) (f 0).2)
  | k + 1 =>
    ((acc B X Y f k).1 && B (acc B X Y f k).2.1 (acc B X Y f k).2.2 (f (k + 1)).1 (f (k + 1)).2,
     sel ((acc B X Y f k).1 && B (acc B X Y f k).2.1 (acc B X Y f k).2.2 (f (k + 1)).1 (f (k + 1)).2) (X (acc B X Y f k).2.1 (f (k + 1)).1),
     sel ((acc B X Y f k).1 && B (acc B X Y f k).2.1 (acc B X Y f k).2.2 (f (k + 1)).1 (f (k + 1)).2) (Y (acc B X Y f k).2.2 (f (k + 1)).2))
section
variable {B : Int → Int → Int → Int → Bool} {X Y : Int → Int → Int} {f : Nat → Int × Int}
theorem acc_zero : ∀ {m : Nat}, (acc B X Y f m).1 = false → acc B X Y f m = (false, 0, 0)
  | 0, h => by simp only [acc] at h ⊢; rw [h]; rfl
  | m + 1, h => by simp only [acc] at h ⊢; rw [h]; rfl
theorem acc_no {k : Nat} (h : (acc B X Y f k).1 = false) : ∀ m, k ≤ m → (acc B X Y f m).1 = false
  | 0, hm => by have : k = 0 := by omega
                subst this; exact h
  | m + 1, hm => by
    by_cases e : k = m + 1
    · subst e; exact h
    · simp [acc, acc_no h m (by omega)]
theorem acc_step {k : Nat} {x y : Int} (h : acc B X Y f k = (true, x, y)) : acc B X Y f (k + 1) = (B x y (f (k + 1)).1 (f (k + 1)).2, sel (B x y (f (k + 1)).1 (f (k + 1)).2) (X x (f (k + 1)).1), sel (B x y (f (k + 1)).1 (f (k + 1)).2) (Y y (f (k + 1)).2)) := by
  simp [acc, h]
theorem acc_ok (hB : ∀ a b c d, B a b c d = true → okI c d = true) : ∀ {m : Nat}, (acc B X Y f m).1 = true → allOk f (m + 1) = true
  | 0, h => by simp only [acc] at h; simp [allOk, h]
  | m + 1, h => by
    simp only [acc, Bool.and_eq_true] at h
    have h1 := acc_ok hB (m := m) h.1
    have h2 := hB _ _ _ _ h.2
    rw [allOk, h1, h2]; rfl
theorem acc_bad (hB : ∀ a b c d, B a b c d = true → okI c d = true) {n : Nat} (hn : 1 ≤ n) (h : allOk f n = false) : acc B X Y f (n - 1) = (false, 0, 0) := by
  apply acc_zero
  cases e : (acc B X Y f (n - 1)).1
  · rfl
  · have := acc_ok hB e
    rw [show n - 1 + 1 = n by omega, h] at this
    exact absurd this (by simp)
theorem acc_first {n : Nat} (hn : 1 ≤ n) (h : allOk f n = true) : acc B X Y f 0 = (true, (f 0).1, (f 0).2) := by
  have h0 : okI (f 0).1 (f 0).2 = true := by
    cases e : okI (f 0).1 (f 0).2
    · rw [allOk_no e n (by omega)] at h; exact absurd h (by simp)
    · rfl
  simp only [acc, h0]; rfl
end
theorem meetB_ok (a b c d : Int) (h : meetB a b c d = true) : okI c d = true := by
  simp only [meetB, okII, Bool.and_eq_true] at h; exact h.1.2
theorem joinB_ok (a b c d : Int) (h : joinB a b c d = true) : okI c d = true := by
  simp only [joinB, okII, Bool.and_eq_true] at h; exact h.2
set_option maxHeartbeats 400000 in
theorem specMeetAll_none (b off c : Nat) (w : World) :
    Calls Try.prog 27 #[.slice (some ⟨b, off, none⟩) 0 c] w fun e w' => e = .returned (.tuple #[.agg #[.int .i64 0, .int .i64 0], .bool false]) ∧ Below w.heap.size w w' := by
  go_enter Try.func27, Try.ntmps27
  go_wp2_with fail
  exact bodyPost_ret (v := .tuple #[.agg #[.int .i64 0, .int .i64 0], .bool false]) (by simp (maxDischargeDepth := 6) [results, Try.results27, go_sem, *]) rfl ⟨rfl, by repeat (first | exact Below.refl _ _ | refine Below.drew ?_ | refine Below.alloc ?_ (by first | (simp; done) | (simp; omega) | omega) _ | refine Below.setCell ?_ (by first | (simp; done) | (simp; omega) | omega) _ | refine Below.trans ?_ (Below.mono (by assumption) (by first | (simp; done) | (simp; omega) | omega)))⟩
set_option maxHeartbeats 400000 in
theorem specMeetAll_long (b off n c : Nat) (w : World) (hn : 64 < n) (hm : n ≤ maxLen) :
    Calls Try.prog 27 #[.slice (some ⟨b, off, none⟩) n c] w fun e w' => e = .returned (.tuple #[.agg #[.int .i64 0, .int .i64 0], .bool false]) ∧ Below w.heap.size w w' := by
  have hne : ((n : Int) == 0) = false := by rw [beq_eq_false_iff_ne]; omega
  go_enter Try.func27, Try.ntmps27
  go_wp2_with (first | (go_at_call 50; refine (l1All_long _ _ _ _ _ hn hm).mono ?_; rintro e w' ⟨rfl, hb⟩; obtain ⟨hc, hf⟩ := bcell hb; (first | have hB := Below.trans (Below.trans hB (by repeat (first | exact Below.refl _ _ | refine Below.drew ?_ | refine Below.alloc ?_ (by first | (simp; done) | (simp; omega) | omega) _ | refine Below.setCell ?_ (by first | (simp; done) | (simp; omega) | omega) _ | refine Below.trans ?_ (Below.mono (by assumption) (by first | (simp; done) | (simp; omega) | omega))))) (Below.mono hb (by first | (simp; done) | (simp; omega) | omega)) | have hB := hb); obtain ⟨hC, hF⟩ := bcell hB; have hz := hb.size; (try simp at hz); (try (have hz0 : w.heap.size < w'.heap.size := by omega)); (try (have hz1 : w.heap.size + 1 < w'.heap.size := by omega)); (try (have hz2 : w.heap.size + 1 + 1 < w'.heap.size := by omega)); (try (have hz3 : w.heap.size + 1 + 1 + 1 < w'.heap.size := by omega))))
  exact bodyPost_ret (v := .tuple #[.agg #[.int .i64 0, .int .i64 0], .bool false]) (by simp (maxDischargeDepth := 6) [results, Try.results27, go_sem, *]) rfl ⟨rfl, by repeat (first | exact Below.refl _ _ | refine Below.drew ?_ | refine Below.alloc ?_ (by first | (simp; done) | (simp; omega) | omega) _ | refine Below.setCell ?_ (by first | (simp; done) | (simp; omega) | omega) _ | refine Below.trans ?_ (Below.mono (by assumption) (by first | (simp; done) | (simp; omega) | omega)))⟩
set_option maxHeartbeats 400000 in
theorem specMeetAll_bad (b off n c : Nat) (f : Nat → Int × Int) (w : World) (h1 : 1 ≤ n) (hn : n ≤ 64) (hf : Prs w b off n f) (ha : allOk f n = false) :
    Calls Try.prog 27 #[.slice (some ⟨b, off, none⟩) n c] w fun e w' => e = .returned (.tuple #[.agg #[.int .i64 0, .int .i64 0], .bool false]) ∧ Below w.heap.size w w' := by
  have hne : ((n : Int) == 0) = false := by rw [beq_eq_false_iff_ne]; omega
  go_enter Try.func27, Try.ntmps27
  go_wp2_with (first | (go_at_call 50; refine (l1All_any _ _ _ _ f _ hn (by exact hf.below ((Below.refl _ _).alloc (Nat.le_refl _) _) hf.1)).mono ?_; rintro e w' ⟨rfl, hb⟩; obtain ⟨hc, hf⟩ := bcell hb; (first | have hB := Below.trans (Below.trans hB (by repeat (first | exact Below.refl _ _ | refine Below.drew ?_ | refine Below.alloc ?_ (by first | (simp; done) | (simp; omega) | omega) _ | refine Below.setCell ?_ (by first | (simp; done) | (simp; omega) | omega) _ | refine Below.trans ?_ (Below.mono (by assumption) (by first | (simp; done) | (simp; omega) | omega))))) (Below.mono hb (by first | (simp; done) | (simp; omega) | omega)) | have hB := hb); obtain ⟨hC, hF⟩ := bcell hB; have hz := hb.size; (try simp at hz); (try (have hz0 : w.heap.size < w'.heap.size := by omega)); (try (have hz1 : w.heap.size + 1 < w'.heap.size := by omega)); (try (have hz2 : w.heap.size + 1 + 1 < w'.heap.size := by omega)); (try (have hz3 : w.heap.size + 1 + 1 + 1 < w'.heap.size := by omega))))
  exact bodyPost_ret (v := .tuple #[.agg #[.int .i64 0, .int .i64 0], .bool false]) (by simp (maxDischargeDepth := 6) [results, Try.results27, go_sem, *]) rfl ⟨rfl, by repeat (first | exact Below.refl _ _ | refine Below.drew ?_ | refine Below.alloc ?_ (by first | (simp; done) | (simp; omega) | omega) _ | refine Below.setCell ?_ (by first | (simp; done) | (simp; omega) | omega) _ | refine Below.trans ?_ (Below.mono (by assumption) (by first | (simp; done) | (simp; omega) | omega)))⟩
end Go.Proofs.Ytogapogkdgaobaa
