/- Contracts of the small functions of marks in the specification. -/
import Derived.Test.YtdgfneloaopleaaO1
import Derived.Test.YtdgfneloaopleaaM1
import Derived.Test.YtdgfneloaopleaaS1
import Derived.WalkKit
import Derived.WalkSpells
import Derived.WalkLawsBesides
import Derived.Deep.RegionHeld
namespace Go.Proofs.Ytdgfneloaopleaa
open Go.RowKit
set_option linter.unusedVariables false
set_option maxHeartbeats 400000 in
theorem l1In_any (x l h : Int) (w : World) :
    Calls Try.prog 70 #[.int .i64 x, .int .i64 l, .int .i64 h] w fun e w' => e = .returned (.bool (decide (l ≤ x ∧ x ≤ h))) ∧ w = w' := by
  go_enter Try.func70, Try.ntmps70
  go_wp2
  all_goals go_ret
  all_goals exact ⟨ret_bool (by rw [Bool.eq_iff_iff]; simp; try omega), rfl⟩
set_option maxHeartbeats 1000000 in
theorem l3Marks_bad (n d : Int) (a : Option Addr) (m c : Nat) (w : World) (hm : m ≤ maxLen) (h : (okD n d && decide (1 ≤ m ∧ m ≤ 201)) = false) :
    Calls Try.prog 39 #[.agg #[.int .i64 n, .int .i64 d], .slice a m c] w fun e w' => e = .returned (.bool false) ∧ Below w.heap.size w w' := by
  unfold maxLen at hm
  have B0 := Below.alc w (.cells #[.int .i64 n, .int .i64 d] 25)
  cases ho : okD n d
  · go_enter Try.func39, Try.ntmps39
    go_wp2_with fail
    refine (specDriftOk_any _ _ _).mono ?_
    rintro e w1 ⟨rfl, hb⟩
    rw [ho]
    have B1 := B0.trans (hb.mono B0.size)
    clear hb
    go_wp2_with fail
    go_ret
    exact ⟨rfl, B1⟩
  · have hi : decide ((1 : Int) ≤ (m : Int) ∧ (m : Int) ≤ 201) = false := by simp [ho] at h; simp; omega
    go_enter Try.func39, Try.ntmps39
    go_wp2_with fail
    refine (specDriftOk_any _ _ _).mono ?_
    rintro e w1 ⟨rfl, hb⟩
    rw [ho]
    have B1 := B0.trans (hb.mono B0.size)
    clear hb
    go_wp2_with fail
    refine (l1In_any _ _ _ _).mono ?_
    rintro e w' ⟨rfl, rfl⟩
    rw [hi]
    go_wp2_with fail
    go_ret
    exact ⟨rfl, B1⟩
set_option maxHeartbeats 1000000 in
theorem l3Marks_any (n d : Int) (b off m c : Nat) (f : Nat → Int × Int) (w : World) (ho : okD n d = true) (h1 : 1 ≤ m) (h2 : m ≤ 201) (hf : Prs w b off m f) :
    Calls Try.prog 39 #[.agg #[.int .i64 n, .int .i64 d], .slice (some ⟨b, off, none⟩) m c] w fun e w' => e = .returned (.bool (mkB n d f m)) ∧ Below w.heap.size w w' := by
  have B0 := Below.alc w (.cells #[.int .i64 n, .int .i64 d] 25)
  have HO : Hid (okD n d = true) := ho
  have hi : decide ((1 : Int) ≤ (m : Int) ∧ (m : Int) ≤ 201) = true := by simp; omega
  have HF : Hid (Prs w b off m f) := hf
  clear hf
  go_enter Try.func39, Try.ntmps39
  go_wp2_with fail
  refine (specDriftOk_any _ _ _).mono ?_
  rintro e w1 ⟨rfl, hb⟩
  rw [HO.out]
  have B1 := B0.trans (hb.mono B0.size)
  clear hb ho
  go_wp2_with fail
  refine (l1In_any _ _ _ _).mono ?_
  rintro e w' ⟨rfl, rfl⟩
  rw [hi]
  go_wp2_with fail
  go_loopw [5] (fun i wr => ∃ k : Nat, k ≤ m ∧ i = .int .i64 k ∧ (∀ j, j < k → okT (f j).1 = true ∧ okT (f j).2 = true) ∧ Below w.heap.size w wr) (fun i _ => m - (intOf i).toNat)
  case atStart => exact ⟨0, Nat.zero_le _, rfl, fun j hj => absurd hj (Nat.not_lt_zero _), B1⟩
  case round =>
    obtain ⟨k, hk, rfl, hall, hB⟩ := hrel
    have HA : Hid (∀ j, j < k → okT (f j).1 = true ∧ okT (f j).2 = true) := hall
    clear hall B1 B0
    by_cases hlt : k < m
    · have c0 : wr.cell? ⟨b, off + k * 2, none⟩ = some (.int .i64 (f k).1) := ((HF.out.below hB HF.out.1).2 k hlt).1
      have c1 : wr.cell? ⟨b, off + k * 2 + 1, none⟩ = some (.int .i64 (f k).2) := ((HF.out.below hB HF.out.1).2 k hlt).2
      have hli : (k : Int) < (m : Int) := by omega
      cases ok1 : okT (f k).1
      · have HN : Hid (mkB n d f m = false) := mkB_i hlt (by simp [ok1])
        go_wp2_with (go_at_call 65; refine (l2Time_any _ _).mono ?_; rintro e w' ⟨rfl, rfl⟩)
        go_ret
        exact ⟨ret_bool HN.out.symm, hB⟩
      cases ok2 : okT (f k).2
      · have HN : Hid (mkB n d f m = false) := mkB_i hlt (by simp [ok2])
        go_wp2_with (go_at_call 65; refine (l2Time_any _ _).mono ?_; rintro e w' ⟨rfl, rfl⟩)
        go_ret
        exact ⟨ret_bool HN.out.symm, hB⟩
      have HA2 : Hid (∀ j, j < k + 1 → okT (f j).1 = true ∧ okT (f j).2 = true) := fun j hj => by
        by_cases e : j = k
        · subst e; exact ⟨ok1, ok2⟩
        · exact HA.out j (by omega)
      go_wp2_with (go_at_call 65; refine (l2Time_any _ _).mono ?_; rintro e w' ⟨rfl, rfl⟩)
      go_roundw
      case rel => exact ⟨k + 1, by omega, by go_num, HA2.out, hB⟩
      case measure => simp [intOf]; omega
    · have hkm : k = m := by omega
      have hli : ¬ (k : Int) < (m : Int) := by omega
      have HN : Hid (mkB n d f m = true) := mkB_of HO.out h1 h2 (by subst hkm; exact HA.out)
      go_wp2_with fail
      go_ret
      exact ⟨ret_bool HN.out.symm, hB⟩
set_option maxHeartbeats 1000000 in
theorem l3Two_any (n d at' ac bt bc : Int) (w : World) (h1 : okT at' = true) (h2 : okT ac = true) (h3 : okT bt = true) (h4 : okT bc = true) :
    Calls Try.prog 40 #[.agg #[.int .i64 n, .int .i64 d], .agg #[.int .i64 at', .int .i64 ac], .agg #[.int .i64 bt, .int .i64 bc]] w fun e w' => e = .returned (.bool (mcB n d (bt - at') (bc - ac))) ∧ Below w.heap.size w w' := by
  have ⟨a1, a2⟩ := okT_t h1
  have ⟨b1, b2⟩ := okT_t h2
  have ⟨c1, c2⟩ := okT_t h3
  have ⟨d1, d2⟩ := okT_t h4
  go_enter Try.func40, Try.ntmps40
  go_wp2_with (go_at_call 71; refine (specMayCount_any _ _ _ _ _).mono ?_; rintro e w' ⟨rfl, hb⟩)
  go_ret
  exact ⟨rfl, by repeat (first | exact Below.refl _ _ | refine Below.drew ?_ | refine Below.alloc ?_ (by first | (simp; done) | (simp; omega) | omega) _ | refine Below.setCell ?_ (by first | (simp; done) | (simp; omega) | omega) _ | refine Below.trans ?_ (Below.mono (by assumption) (by first | (simp; done) | (simp; omega) | omega)))⟩
theorem l3Two_v (n d at' ac bt bc : Int) (v : Bool) (w : World) (h1 : okT at' = true) (h2 : okT ac = true) (h3 : okT bt = true) (h4 : okT bc = true) (h : mcB n d (bt - at') (bc - ac) = v) :
    Calls Try.prog 40 #[.agg #[.int .i64 n, .int .i64 d], .agg #[.int .i64 at', .int .i64 ac], .agg #[.int .i64 bt, .int .i64 bc]] w fun e w' => e = .returned (.bool v) ∧ Below w.heap.size w w' := by
  subst h; exact l3Two_any n d at' ac bt bc w h1 h2 h3 h4
theorem l3Marks_v (n d : Int) (b off m c : Nat) (f : Nat → Int × Int) (v : Bool) (w : World) (ho : okD n d = true) (h1 : 1 ≤ m) (h2 : m ≤ 201) (hf : Prs w b off m f) (h : mkB n d f m = v) :
    Calls Try.prog 39 #[.agg #[.int .i64 n, .int .i64 d], .slice (some ⟨b, off, none⟩) m c] w fun e w' => e = .returned (.bool v) ∧ Below w.heap.size w w' := by
  subst h; exact l3Marks_any n d b off m c f w ho h1 h2 hf
set_option maxHeartbeats 1000000 in
theorem specMarksOk_bad (n d : Int) (a : Option Addr) (m c : Nat) (w : World) (hm : m ≤ maxLen) (h : (okD n d && decide (1 ≤ m ∧ m ≤ 201)) = false) :
    Calls Try.prog 35 #[.agg #[.int .i64 n, .int .i64 d], .slice a m c] w fun e w' => e = .returned (.bool false) ∧ Below w.heap.size w w' := by
  have B0 := Below.alc w (.cells #[.int .i64 n, .int .i64 d] 25)
  go_enter Try.func35, Try.ntmps35
  go_wp2_with fail
  refine (l3Marks_bad n d a m c _ hm h).mono ?_
  rintro e w1 ⟨rfl, hb⟩
  have B1 := B0.trans (hb.mono B0.size)
  clear hb
  go_wp2_with fail
  go_ret
  exact ⟨rfl, B1⟩
set_option maxHeartbeats 1000000 in
theorem specMarksAll_bad (n d : Int) (a : Option Addr) (m c : Nat) (w : World) (hm : m ≤ maxLen) (h : (okD n d && decide (1 ≤ m ∧ m ≤ 201)) = false) :
    Calls Try.prog 17 #[.agg #[.int .i64 n, .int .i64 d], .slice a m c] w fun e w' => e = .returned (.bool false) ∧ Below w.heap.size w w' := by
  have B0 := Below.alc w (.cells #[.int .i64 n, .int .i64 d] 25)
  go_enter Try.func17, Try.ntmps17
  go_wp2_with fail
  refine (l3Marks_bad n d a m c _ hm h).mono ?_
  rintro e w1 ⟨rfl, hb⟩
  have B1 := B0.trans (hb.mono B0.size)
  clear hb
  go_wp2_with fail
  go_ret
  exact ⟨rfl, B1⟩
end Go.Proofs.Ytdgfneloaopleaa
