/- Contracts of upTo. -/
import Derived.Test.YtdgfneloaopleaaM1
import Derived.Test.YtdgfneloaopleaaO1
import Derived.Test.YtdgfneloaopleaaS1
import Derived.WalkMore
import Derived.WalkKit
import Derived.WalkSpells
import Derived.WalkLawsBesides
import Derived.Deep.RegionHeld
namespace Go.Proofs.Ytdgfneloaopleaa
open Go.RowKit
set_option linter.unusedVariables false
section
variable {g : Nat → Int} {x : Int} {m k : Nat}
theorem in_stop (hs : ∀ i j, i ≤ j → j < m → g i ≤ g j) (hk : k < m) (hle : ∀ i, i < k → g i ≤ x) (h : x < g k) : inB g x m = decide (0 < k) := by
  unfold inB
  rw [decide_eq_decide]
  constructor
  · intro ⟨h1, h2⟩
    by_cases e : k = 0
    · subst e; omega
    · omega
  · intro h0
    have h1 := hle 0 h0
    have h2 := hs k (m - 1) (by omega) (by omega)
    exact ⟨h1, by omega⟩
theorem in_end (hm : 1 ≤ m) (hle : ∀ i, i < m → g i ≤ x) : inB g x m = decide (0 < m ∧ g (m - 1) = x) := by
  unfold inB
  rw [decide_eq_decide]
  have h0 := hle 0 (by omega)
  have h1 := hle (m - 1) (by omega)
  constructor
  · intro ⟨_, h2⟩; exact ⟨by omega, by omega⟩
  · intro ⟨_, h2⟩; exact ⟨h0, by omega⟩
theorem in_less (hs : ∀ i j, i ≤ j → j < m → g i ≤ g j) (hk : k < m) (h : g k < x) : decide (0 < k ∧ g (k - 1) = x) = decide (0 < k + 1 ∧ g (k + 1 - 1) = x) := by
  rw [decide_eq_decide]
  have h1 := hs (k - 1) k (by omega) hk
  have e : k + 1 - 1 = k := by omega
  rw [e]
  constructor
  · intro ⟨_, h2⟩; omega
  · intro ⟨_, h2⟩; omega
end
set_option maxHeartbeats 2000000 in
theorem upToT_any (b off m c : Nat) (f : Nat → Int × Int) (x : Int) (w : World) (h1 : 1 ≤ m) (hm : m ≤ 201) (hs : ∀ i j, i ≤ j → j < m → (f i).1 ≤ (f j).1) (hf : Prs w b off m f) :
    Calls Try.prog 72 #[.slice (some ⟨b, off, none⟩) m c, .int .i64 x] w fun e w' => e = .returned (.tuple #[.int .i64 (lastLe (t1 f) x m : Int), .bool (inB (t1 f) x m)]) ∧ Below w.heap.size w w' := by
  have HF : Hid (Prs w b off m f) := hf
  have HS : Hid (∀ i j, i ≤ j → j < m → (f i).1 ≤ (f j).1) := hs
  clear hf hs
  go_enter Try.func72, Try.ntmps72
  go_wp2_with fail
  go_step3
  go_wp2_with fail
  go_step3
  go_wp2_with fail
  go_loopw [6, 7, 12] (fun s6 s7 i wr => ∃ k : Nat, k ≤ m ∧ i = .int .i64 k ∧ s6 = .int .i64 (lastLe (t1 f) x k : Int) ∧ s7 = .bool (decide (0 < k ∧ (f (k - 1)).1 = x)) ∧ (∀ i, i < k → (f i).1 ≤ x) ∧ Below w.heap.size w wr) (fun _ _ i _ => m - (intOf i).toNat)
  case atStart => exact ⟨0, Nat.zero_le _, rfl, rfl, by simp, fun i hi => absurd hi (Nat.not_lt_zero _), Below.refl _ _⟩
  case round =>
    obtain ⟨k, hk, rfl, rfl, rfl, hall, B⟩ := hrel
    have HA : Hid (∀ i, i < k → (f i).1 ≤ x) := hall
    clear hall
    by_cases hlt : k < m
    · have e0 : wr.cell? ⟨b, off + k * 2, none⟩ = some (.int .i64 (f k).1) := ((HF.out.below B HF.out.1).2 k hlt).1
      have e1 : wr.cell? ⟨b, off + k * 2 + 1, none⟩ = some (.int .i64 (f k).2) := ((HF.out.below B HF.out.1).2 k hlt).2
      have hli : (k : Int) < (m : Int) := by omega
      have A := Below.alc wr (.cells #[.int .i64 (f k).1, .int .i64 (f k).2] 94)
      have B1 := B.trans (A.mono B.size)
      clear A
      by_cases c1 : (f k).1 < x
      · have HL : Hid (lastLe (t1 f) x (k + 1) = k) := lastLe_y (by show (f k).1 ≤ x; omega)
        have HW : Hid (decide (0 < k ∧ (f (k - 1)).1 = x) = decide (0 < k + 1 ∧ (f (k + 1 - 1)).1 = x)) := in_less (g := t1 f) HS.out hlt c1
        have HA2 : Hid (∀ i, i < k + 1 → (f i).1 ≤ x) := fun i hi => by
          by_cases e : i = k
          · subst e; omega
          · exact HA.out i (by omega)
        go_wp2_with fail
        go_roundw
        case rel => exact ⟨k + 1, by omega, by go_num, by rw [HL.out], by rw [HW.out], HA2.out, B1⟩
        case measure => simp [intOf]; omega
      by_cases c2 : (f k).1 = x
      · have HL : Hid (lastLe (t1 f) x (k + 1) = k) := lastLe_y (by show (f k).1 ≤ x; omega)
        have HW : Hid (true = decide (0 < k + 1 ∧ (f (k + 1 - 1)).1 = x)) := by rw [Hid, show k + 1 - 1 = k by omega]; exact (decide_eq_true ⟨by omega, c2⟩).symm
        have HA2 : Hid (∀ i, i < k + 1 → (f i).1 ≤ x) := fun i hi => by
          by_cases e : i = k
          · subst e; omega
          · exact HA.out i (by omega)
        have c3 : ((f k).1 == x) = true := by simp [c2]
        have C2 : Hid ((f k).1 = x) := c2
        clear c2
        go_wp2_with fail
        go_roundw
        case rel => exact ⟨k + 1, by omega, by go_num, by rw [HL.out], by rw [← HW.out], HA2.out, B1⟩
        case measure => simp [intOf]; omega
      · have c3 : ((f k).1 == x) = false := by simp [c2]
        have HL : Hid (lastLe (t1 f) x m = lastLe (t1 f) x k) := lastLe_rest (by omega) fun i h1 h2 => by
          have := HS.out k i h1 h2
          show x < (f i).1
          omega
        have HI : Hid (inB (t1 f) x m = decide (0 < k)) := in_stop (g := t1 f) HS.out hlt HA.out (by show x < (f k).1; omega)
        have hk0 : decide (0 < (k : Int)) = decide (0 < k) := by rw [decide_eq_decide]; omega
        go_wp2_with fail
        try rw [Exit.noGoto_ret]
        exact bodyPost_ret (v := .tuple #[.int .i64 (lastLe (t1 f) x k : Int), .bool (decide (0 < k))]) (by simp (maxDischargeDepth := 6) [results, Try.results72, go_sem, *]) rfl ⟨by rw [HL.out, HI.out], B1⟩
    · have hkm : m = k := by omega
      subst hkm
      have hli : ¬ (m : Int) < (m : Int) := by omega
      have HI : Hid (inB (t1 f) x m = decide (0 < m ∧ (f (m - 1)).1 = x)) := in_end (g := t1 f) h1 HA.out
      go_wp2_with fail
      try rw [Exit.noGoto_ret]
      exact bodyPost_ret (v := .tuple #[.int .i64 (lastLe (t1 f) x m : Int), .bool (decide (0 < m ∧ (f (m - 1)).1 = x))]) (by simp (maxDischargeDepth := 6) [results, Try.results72, go_sem, *]) rfl ⟨by rw [HI.out], B⟩
set_option maxHeartbeats 2000000 in
theorem upToC_any (b off m c : Nat) (f : Nat → Int × Int) (x : Int) (w : World) (h1 : 1 ≤ m) (hm : m ≤ 201) (hs : ∀ i j, i ≤ j → j < m → (f i).1 ≤ (f j).1) (hf : Prs w b off m f) :
    Calls Try.prog 84 #[.slice (some ⟨b, off, none⟩) m c, .int .i64 x] w fun e w' => e = .returned (.tuple #[.int .i64 (lastLe (t1 f) x m : Int), .bool (inB (t1 f) x m)]) ∧ Below w.heap.size w w' := by
  have HF : Hid (Prs w b off m f) := hf
  have HS : Hid (∀ i j, i ≤ j → j < m → (f i).1 ≤ (f j).1) := hs
  clear hf hs
  go_enter Try.func84, Try.ntmps84
  go_wp2_with fail
  go_step3
  go_wp2_with fail
  go_step3
  go_wp2_with fail
  go_loopw [6, 7, 12] (fun s6 s7 i wr => ∃ k : Nat, k ≤ m ∧ i = .int .i64 k ∧ s6 = .int .i64 (lastLe (t1 f) x k : Int) ∧ s7 = .bool (decide (0 < k ∧ (f (k - 1)).1 = x)) ∧ (∀ i, i < k → (f i).1 ≤ x) ∧ Below w.heap.size w wr) (fun _ _ i _ => m - (intOf i).toNat)
  case atStart => exact ⟨0, Nat.zero_le _, rfl, rfl, by simp, fun i hi => absurd hi (Nat.not_lt_zero _), Below.refl _ _⟩
  case round =>
    obtain ⟨k, hk, rfl, rfl, rfl, hall, B⟩ := hrel
    have HA : Hid (∀ i, i < k → (f i).1 ≤ x) := hall
    clear hall
    by_cases hlt : k < m
    · have e0 : wr.cell? ⟨b, off + k * 2, none⟩ = some (.int .i64 (f k).1) := ((HF.out.below B HF.out.1).2 k hlt).1
      have e1 : wr.cell? ⟨b, off + k * 2 + 1, none⟩ = some (.int .i64 (f k).2) := ((HF.out.below B HF.out.1).2 k hlt).2
      have hli : (k : Int) < (m : Int) := by omega
      have A := Below.alc wr (.cells #[.int .i64 (f k).1, .int .i64 (f k).2] 103)
      have B1 := B.trans (A.mono B.size)
      clear A
      by_cases c1 : (f k).1 < x
      · have HL : Hid (lastLe (t1 f) x (k + 1) = k) := lastLe_y (by show (f k).1 ≤ x; omega)
        have HW : Hid (decide (0 < k ∧ (f (k - 1)).1 = x) = decide (0 < k + 1 ∧ (f (k + 1 - 1)).1 = x)) := in_less (g := t1 f) HS.out hlt c1
        have HA2 : Hid (∀ i, i < k + 1 → (f i).1 ≤ x) := fun i hi => by
          by_cases e : i = k
          · subst e; omega
          · exact HA.out i (by omega)
        go_wp2_with fail
        go_roundw
        case rel => exact ⟨k + 1, by omega, by go_num, by rw [HL.out], by rw [HW.out], HA2.out, B1⟩
        case measure => simp [intOf]; omega
      by_cases c2 : (f k).1 = x
      · have HL : Hid (lastLe (t1 f) x (k + 1) = k) := lastLe_y (by show (f k).1 ≤ x; omega)
        have HW : Hid (true = decide (0 < k + 1 ∧ (f (k + 1 - 1)).1 = x)) := by rw [Hid, show k + 1 - 1 = k by omega]; exact (decide_eq_true ⟨by omega, c2⟩).symm
        have HA2 : Hid (∀ i, i < k + 1 → (f i).1 ≤ x) := fun i hi => by
          by_cases e : i = k
          · subst e; omega
          · exact HA.out i (by omega)
        have c3 : ((f k).1 == x) = true := by simp [c2]
        have C2 : Hid ((f k).1 = x) := c2
        clear c2
        go_wp2_with fail
        go_roundw
        case rel => exact ⟨k + 1, by omega, by go_num, by rw [HL.out], by rw [← HW.out], HA2.out, B1⟩
        case measure => simp [intOf]; omega
      · have c3 : ((f k).1 == x) = false := by simp [c2]
        have HL : Hid (lastLe (t1 f) x m = lastLe (t1 f) x k) := lastLe_rest (by omega) fun i h1 h2 => by
          have := HS.out k i h1 h2
          show x < (f i).1
          omega
        have HI : Hid (inB (t1 f) x m = decide (0 < k)) := in_stop (g := t1 f) HS.out hlt HA.out (by show x < (f k).1; omega)
        have hk0 : decide (0 < (k : Int)) = decide (0 < k) := by rw [decide_eq_decide]; omega
        go_wp2_with fail
        try rw [Exit.noGoto_ret]
        exact bodyPost_ret (v := .tuple #[.int .i64 (lastLe (t1 f) x k : Int), .bool (decide (0 < k))]) (by simp (maxDischargeDepth := 6) [results, Try.results84, go_sem, *]) rfl ⟨by rw [HL.out, HI.out], B1⟩
    · have hkm : m = k := by omega
      subst hkm
      have hli : ¬ (m : Int) < (m : Int) := by omega
      have HI : Hid (inB (t1 f) x m = decide (0 < m ∧ (f (m - 1)).1 = x)) := in_end (g := t1 f) h1 HA.out
      go_wp2_with fail
      try rw [Exit.noGoto_ret]
      exact bodyPost_ret (v := .tuple #[.int .i64 (lastLe (t1 f) x m : Int), .bool (decide (0 < m ∧ (f (m - 1)).1 = x))]) (by simp (maxDischargeDepth := 6) [results, Try.results84, go_sem, *]) rfl ⟨by rw [HI.out], B⟩
end Go.Proofs.Ytdgfneloaopleaa
