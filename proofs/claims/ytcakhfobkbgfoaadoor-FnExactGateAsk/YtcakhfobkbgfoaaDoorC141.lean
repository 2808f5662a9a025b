/- GateSpan and BusyStill in the specification. -/
import Derived.Test.YtcakhfobkbgfoaaDoorC140
import Derived.WalkKit
import Derived.WalkSpells
import Derived.WalkLawsBesides
import Derived.Deep.RegionHeld
namespace Go.Proofs.YtcakhfobkbgfoaaDoor
open Go.RowKit
set_option linter.unusedVariables false
theorem mo_any (n d x : Int) (w : World) : Calls Tryd.prog 15 #[.agg #[.int .i64 n, .int .i64 d], .int .i64 x] w fun e w' => e = .returned (.tuple #[.int .i64 (moT n d x), .bool (moB n d x)]) ∧ Below w.heap.size w w' := specMostTime_any n d x w
theorem le_any (n d x : Int) (w : World) : Calls Tryd.prog 16 #[.agg #[.int .i64 n, .int .i64 d], .int .i64 x] w fun e w' => e = .returned (.tuple #[.int .i64 (leT n d x), .bool (leB n d x)]) ∧ Below w.heap.size w w' := specLeastTime_any n d x w
set_option maxHeartbeats 4000000 in
theorem specGateSpan_any (lo hi n d x : Int) (w : World) :
    Calls Tryd.prog 19 #[.agg #[.int .i64 lo, .int .i64 hi], .agg #[.int .i64 n, .int .i64 d], .int .i64 x] w fun e w' => e = .returned (.tuple #[.agg #[.int .i64 (gsL lo hi n d x), .int .i64 (gsH lo hi n d x)], .bool (gsB lo hi n d x)]) ∧ Below w.heap.size w w' := by
  have CM := fun w' => mo_any n d x w'
  cases h1 : moB n d x
  · obtain ⟨e1, e2, e3⟩ := gs_mo (lo := lo) (hi := hi) h1
    rw [e1, e2, e3]
    rw [h1] at CM
    clear e1 e2 e3 h1
    generalize moT n d x = m at *
    go_enter Tryd.func19, Tryd.ntmps19
    go_wp2_with (go_at_call 15; refine (CM _).mono ?_; rintro e w' ⟨rfl, hb⟩; obtain ⟨hc, hf⟩ := bcell hb; (first | have hB := Below.trans (Below.trans hB (by repeat (first | exact Below.refl _ _ | refine Below.drew ?_ | refine Below.alloc ?_ (by first | (simp; done) | (simp; omega) | omega) _ | refine Below.setCell ?_ (by first | (simp; done) | (simp; omega) | omega) _ | refine Below.trans ?_ (Below.mono (by assumption) (by first | (simp; done) | (simp; omega) | omega))))) (Below.mono hb (by first | (simp; done) | (simp; omega) | omega)) | have hB := hb); obtain ⟨hC, hF⟩ := bcell hB; have hz := hb.size; (try simp at hz); (try (have hz0 : w.heap.size < w'.heap.size := by omega)); (try (have hz1 : w.heap.size + 1 < w'.heap.size := by omega)); (try (have hz2 : w.heap.size + 1 + 1 < w'.heap.size := by omega)); (try (have hz3 : w.heap.size + 1 + 1 + 1 < w'.heap.size := by omega)))
    exact bodyPost_ret (v := .tuple #[.agg #[.int .i64 0, .int .i64 0], .bool false]) (by simp (maxDischargeDepth := 6) [results, Tryd.results19, go_sem, *]) rfl ⟨rfl, by repeat (first | exact Below.refl _ _ | refine Below.drew ?_ | refine Below.alloc ?_ (by first | (simp; done) | (simp; omega) | omega) _ | refine Below.setCell ?_ (by first | (simp; done) | (simp; omega) | omega) _ | refine Below.trans ?_ (Below.mono (by assumption) (by first | (simp; done) | (simp; omega) | omega)))⟩
  by_cases h2 : x < 1
  · obtain ⟨e1, e2, e3⟩ := gs_lt (lo := lo) (hi := hi) (n := n) (d := d) h2
    rw [e1, e2, e3]
    rw [h1] at CM
    clear e1 e2 e3 h1
    generalize moT n d x = m at *
    go_enter Tryd.func19, Tryd.ntmps19
    go_wp2_with (go_at_call 15; refine (CM _).mono ?_; rintro e w' ⟨rfl, hb⟩; obtain ⟨hc, hf⟩ := bcell hb; (first | have hB := Below.trans (Below.trans hB (by repeat (first | exact Below.refl _ _ | refine Below.drew ?_ | refine Below.alloc ?_ (by first | (simp; done) | (simp; omega) | omega) _ | refine Below.setCell ?_ (by first | (simp; done) | (simp; omega) | omega) _ | refine Below.trans ?_ (Below.mono (by assumption) (by first | (simp; done) | (simp; omega) | omega))))) (Below.mono hb (by first | (simp; done) | (simp; omega) | omega)) | have hB := hb); obtain ⟨hC, hF⟩ := bcell hB; have hz := hb.size; (try simp at hz); (try (have hz0 : w.heap.size < w'.heap.size := by omega)); (try (have hz1 : w.heap.size + 1 < w'.heap.size := by omega)); (try (have hz2 : w.heap.size + 1 + 1 < w'.heap.size := by omega)); (try (have hz3 : w.heap.size + 1 + 1 + 1 < w'.heap.size := by omega)))
    exact bodyPost_ret (v := .tuple #[.agg #[.int .i64 0, .int .i64 0], .bool false]) (by simp (maxDischargeDepth := 6) [results, Tryd.results19, go_sem, *]) rfl ⟨rfl, by repeat (first | exact Below.refl _ _ | refine Below.drew ?_ | refine Below.alloc ?_ (by first | (simp; done) | (simp; omega) | omega) _ | refine Below.setCell ?_ (by first | (simp; done) | (simp; omega) | omega) _ | refine Below.trans ?_ (Below.mono (by assumption) (by first | (simp; done) | (simp; omega) | omega)))⟩
  obtain ⟨e1, e2, e3⟩ := gs_sp (lo := lo) (hi := hi) h1 h2
  rw [e1, e2, e3]
  rw [h1] at CM
  clear e1 e2 e3 h1
  generalize moT n d x = m at *
  have CS := fun w' => specSpread_any lo hi 0 m w'
  generalize sel (spreadB lo hi 0 m) (lo - 0) = X at *
  generalize sel (spreadB lo hi 0 m) (hi + m) = Y at *
  generalize spreadB lo hi 0 m = Q at *
  go_enter Tryd.func19, Tryd.ntmps19
  go_wp2_with (first | (go_at_call 15; refine (CM _).mono ?_; rintro e w' ⟨rfl, hb⟩; obtain ⟨hc, hf⟩ := bcell hb; (first | have hB := Below.trans (Below.trans hB (by repeat (first | exact Below.refl _ _ | refine Below.drew ?_ | refine Below.alloc ?_ (by first | (simp; done) | (simp; omega) | omega) _ | refine Below.setCell ?_ (by first | (simp; done) | (simp; omega) | omega) _ | refine Below.trans ?_ (Below.mono (by assumption) (by first | (simp; done) | (simp; omega) | omega))))) (Below.mono hb (by first | (simp; done) | (simp; omega) | omega)) | have hB := hb); obtain ⟨hC, hF⟩ := bcell hB; have hz := hb.size; (try simp at hz); (try (have hz0 : w.heap.size < w'.heap.size := by omega)); (try (have hz1 : w.heap.size + 1 < w'.heap.size := by omega)); (try (have hz2 : w.heap.size + 1 + 1 < w'.heap.size := by omega)); (try (have hz3 : w.heap.size + 1 + 1 + 1 < w'.heap.size := by omega))) | (go_at_call 63; refine (CS _).mono ?_; rintro e w' ⟨rfl, hb⟩; obtain ⟨hc, hf⟩ := bcell hb; (first | have hB := Below.trans (Below.trans hB (by repeat (first | exact Below.refl _ _ | refine Below.drew ?_ | refine Below.alloc ?_ (by first | (simp; done) | (simp; omega) | omega) _ | refine Below.setCell ?_ (by first | (simp; done) | (simp; omega) | omega) _ | refine Below.trans ?_ (Below.mono (by assumption) (by first | (simp; done) | (simp; omega) | omega))))) (Below.mono hb (by first | (simp; done) | (simp; omega) | omega)) | have hB := hb); obtain ⟨hC, hF⟩ := bcell hB; have hz := hb.size; (try simp at hz); (try (have hz0 : w.heap.size < w'.heap.size := by omega)); (try (have hz1 : w.heap.size + 1 < w'.heap.size := by omega)); (try (have hz2 : w.heap.size + 1 + 1 < w'.heap.size := by omega)); (try (have hz3 : w.heap.size + 1 + 1 + 1 < w'.heap.size := by omega))))
  exact bodyPost_ret (v := .tuple #[.agg #[.int .i64 X, .int .i64 Y], .bool Q]) (by simp (maxDischargeDepth := 6) [results, Tryd.results19, go_sem, *]) rfl ⟨rfl, by repeat (first | exact Below.refl _ _ | refine Below.drew ?_ | refine Below.alloc ?_ (by first | (simp; done) | (simp; omega) | omega) _ | refine Below.setCell ?_ (by first | (simp; done) | (simp; omega) | omega) _ | refine Below.trans ?_ (Below.mono (by assumption) (by first | (simp; done) | (simp; omega) | omega)))⟩
theorem ln_any (x : Int) (w : World) : Calls Tryd.prog 51 #[.int .i64 x, .int .i64 1, .int .i64 1000000000000] w fun e w' => e = .returned (.bool (lgB x)) ∧ w = w' := l1In_any x 1 1000000000000 w
set_option maxRecDepth 100000 in
set_option maxHeartbeats 4000000 in
theorem specBusyStill_any (n d f x c : Int) (w : World) :
    Calls Tryd.prog 29 #[.agg #[.int .i64 n, .int .i64 d], .int .i64 f, .int .i64 x, .int .i64 c] w fun e w' => e = .returned (.bool (bsB n d f x c)) ∧ Below w.heap.size w w' := by
  have C1 := fun w' => l2Time_any f w'
  have C2 := fun w' => l2Time_any c w'
  have C3 := fun w' => ln_any x w'
  cases hG : bsG f x c
  · have e1 : bsB n d f x c = true := by unfold bsB; rw [hG]
    rw [e1]
    cases h1 : okT f
    · rw [h1] at C1
      clear e1 hG h1
      go_enter Tryd.func29, Tryd.ntmps29
      go_wp2_with (first | (go_at_call 59; refine (C1 _).mono ?_; rintro e w' ⟨rfl, rfl⟩) | (go_at_call 59; refine (C2 _).mono ?_; rintro e w' ⟨rfl, rfl⟩) | (go_at_call 51; refine (C3 _).mono ?_; rintro e w' ⟨rfl, rfl⟩))
      go_ret
      exact ⟨rfl, by repeat (first | exact Below.refl _ _ | refine Below.drew ?_ | refine Below.alloc ?_ (by first | (simp; done) | (simp; omega) | omega) _ | refine Below.setCell ?_ (by first | (simp; done) | (simp; omega) | omega) _ | refine Below.trans ?_ (Below.mono (by assumption) (by first | (simp; done) | (simp; omega) | omega)))⟩
    cases h2 : okT c
    · rw [h1] at C1
      rw [h2] at C2
      clear e1 hG h1 h2
      go_enter Tryd.func29, Tryd.ntmps29
      go_wp2_with (first | (go_at_call 59; refine (C1 _).mono ?_; rintro e w' ⟨rfl, rfl⟩) | (go_at_call 59; refine (C2 _).mono ?_; rintro e w' ⟨rfl, rfl⟩) | (go_at_call 51; refine (C3 _).mono ?_; rintro e w' ⟨rfl, rfl⟩))
      go_ret
      exact ⟨rfl, by repeat (first | exact Below.refl _ _ | refine Below.drew ?_ | refine Below.alloc ?_ (by first | (simp; done) | (simp; omega) | omega) _ | refine Below.setCell ?_ (by first | (simp; done) | (simp; omega) | omega) _ | refine Below.trans ?_ (Below.mono (by assumption) (by first | (simp; done) | (simp; omega) | omega)))⟩
    rw [h1] at C1
    rw [h2] at C2
    by_cases h3 : c < f
    · clear e1 hG h1 h2
      go_enter Tryd.func29, Tryd.ntmps29
      go_wp2_with (first | (go_at_call 59; refine (C1 _).mono ?_; rintro e w' ⟨rfl, rfl⟩) | (go_at_call 59; refine (C2 _).mono ?_; rintro e w' ⟨rfl, rfl⟩) | (go_at_call 51; refine (C3 _).mono ?_; rintro e w' ⟨rfl, rfl⟩))
      go_ret
      exact ⟨rfl, by repeat (first | exact Below.refl _ _ | refine Below.drew ?_ | refine Below.alloc ?_ (by first | (simp; done) | (simp; omega) | omega) _ | refine Below.setCell ?_ (by first | (simp; done) | (simp; omega) | omega) _ | refine Below.trans ?_ (Below.mono (by assumption) (by first | (simp; done) | (simp; omega) | omega)))⟩
    have h4 : lgB x = false := by
      unfold bsG at hG
      rw [h1, h2, decide_eq_false h3] at hG
      simpa using hG
    rw [h4] at C3
    clear e1 hG h1 h2 h4
    go_enter Tryd.func29, Tryd.ntmps29
    go_wp2_with (first | (go_at_call 59; refine (C1 _).mono ?_; rintro e w' ⟨rfl, rfl⟩) | (go_at_call 59; refine (C2 _).mono ?_; rintro e w' ⟨rfl, rfl⟩) | (go_at_call 51; refine (C3 _).mono ?_; rintro e w' ⟨rfl, rfl⟩))
    go_ret
    exact ⟨rfl, by repeat (first | exact Below.refl _ _ | refine Below.drew ?_ | refine Below.alloc ?_ (by first | (simp; done) | (simp; omega) | omega) _ | refine Below.setCell ?_ (by first | (simp; done) | (simp; omega) | omega) _ | refine Below.trans ?_ (Below.mono (by assumption) (by first | (simp; done) | (simp; omega) | omega)))⟩
  have e1 : bsB n d f x c = (!leB n d (c - f) || (!moB n d x || decide (leT n d (c - f) < moT n d x))) := by unfold bsB; rw [hG]
  rw [e1]
  unfold bsG at hG
  simp only [Bool.and_eq_true, Bool.not_eq_true', decide_eq_false_iff_not] at hG
  obtain ⟨h1, h2, h3, h4⟩ := hG
  have hw : IntKind.i64.wrap (c - f) = c - f := by
    have a := okT_t h1
    have b := okT_t h2
    exact Go.IntWalk.i64_in _ ⟨by omega, by omega⟩
  rw [h1] at C1
  rw [h2] at C2
  rw [h4] at C3
  have CL := fun w' => le_any n d (c - f) w'
  have CM := fun w' => mo_any n d x w'
  clear e1 h1 h2 h4
  generalize leT n d (c - f) = l at *
  generalize moT n d x = m at *
  generalize leB n d (c - f) = P at *
  generalize moB n d x = Q at *
  cases P
  · go_enter Tryd.func29, Tryd.ntmps29
    go_wp2_with (first | (go_at_call 59; refine (C1 _).mono ?_; rintro e w' ⟨rfl, rfl⟩) | (go_at_call 59; refine (C2 _).mono ?_; rintro e w' ⟨rfl, rfl⟩) | (go_at_call 51; refine (C3 _).mono ?_; rintro e w' ⟨rfl, rfl⟩) | (go_at_call 16; refine (CL _).mono ?_; rintro e w' ⟨rfl, hb⟩; obtain ⟨hc, hf⟩ := bcell hb; (first | have hB := Below.trans (Below.trans hB (by repeat (first | exact Below.refl _ _ | refine Below.drew ?_ | refine Below.alloc ?_ (by first | (simp; done) | (simp; omega) | omega) _ | refine Below.setCell ?_ (by first | (simp; done) | (simp; omega) | omega) _ | refine Below.trans ?_ (Below.mono (by assumption) (by first | (simp; done) | (simp; omega) | omega))))) (Below.mono hb (by first | (simp; done) | (simp; omega) | omega)) | have hB := hb); obtain ⟨hC, hF⟩ := bcell hB; have hz := hb.size; (try simp at hz); (try (have hz0 : w.heap.size < w'.heap.size := by omega)); (try (have hz1 : w.heap.size + 1 < w'.heap.size := by omega)); (try (have hz2 : w.heap.size + 1 + 1 < w'.heap.size := by omega)); (try (have hz3 : w.heap.size + 1 + 1 + 1 < w'.heap.size := by omega))) | (go_at_call 15; refine (CM _).mono ?_; rintro e w' ⟨rfl, hb⟩; obtain ⟨hc, hf⟩ := bcell hb; (first | have hB := Below.trans (Below.trans hB (by repeat (first | exact Below.refl _ _ | refine Below.drew ?_ | refine Below.alloc ?_ (by first | (simp; done) | (simp; omega) | omega) _ | refine Below.setCell ?_ (by first | (simp; done) | (simp; omega) | omega) _ | refine Below.trans ?_ (Below.mono (by assumption) (by first | (simp; done) | (simp; omega) | omega))))) (Below.mono hb (by first | (simp; done) | (simp; omega) | omega)) | have hB := hb); obtain ⟨hC, hF⟩ := bcell hB; have hz := hb.size; (try simp at hz); (try (have hz0 : w.heap.size < w'.heap.size := by omega)); (try (have hz1 : w.heap.size + 1 < w'.heap.size := by omega)); (try (have hz2 : w.heap.size + 1 + 1 < w'.heap.size := by omega)); (try (have hz3 : w.heap.size + 1 + 1 + 1 < w'.heap.size := by omega))))
    go_ret
    exact ⟨rfl, by repeat (first | exact Below.refl _ _ | refine Below.drew ?_ | refine Below.alloc ?_ (by first | (simp; done) | (simp; omega) | omega) _ | refine Below.setCell ?_ (by first | (simp; done) | (simp; omega) | omega) _ | refine Below.trans ?_ (Below.mono (by assumption) (by first | (simp; done) | (simp; omega) | omega)))⟩
  cases Q
  · go_enter Tryd.func29, Tryd.ntmps29
    go_wp2_with (first | (go_at_call 59; refine (C1 _).mono ?_; rintro e w' ⟨rfl, rfl⟩) | (go_at_call 59; refine (C2 _).mono ?_; rintro e w' ⟨rfl, rfl⟩) | (go_at_call 51; refine (C3 _).mono ?_; rintro e w' ⟨rfl, rfl⟩) | (go_at_call 16; refine (CL _).mono ?_; rintro e w' ⟨rfl, hb⟩; obtain ⟨hc, hf⟩ := bcell hb; (first | have hB := Below.trans (Below.trans hB (by repeat (first | exact Below.refl _ _ | refine Below.drew ?_ | refine Below.alloc ?_ (by first | (simp; done) | (simp; omega) | omega) _ | refine Below.setCell ?_ (by first | (simp; done) | (simp; omega) | omega) _ | refine Below.trans ?_ (Below.mono (by assumption) (by first | (simp; done) | (simp; omega) | omega))))) (Below.mono hb (by first | (simp; done) | (simp; omega) | omega)) | have hB := hb); obtain ⟨hC, hF⟩ := bcell hB; have hz := hb.size; (try simp at hz); (try (have hz0 : w.heap.size < w'.heap.size := by omega)); (try (have hz1 : w.heap.size + 1 < w'.heap.size := by omega)); (try (have hz2 : w.heap.size + 1 + 1 < w'.heap.size := by omega)); (try (have hz3 : w.heap.size + 1 + 1 + 1 < w'.heap.size := by omega))) | (go_at_call 15; refine (CM _).mono ?_; rintro e w' ⟨rfl, hb⟩; obtain ⟨hc, hf⟩ := bcell hb; (first | have hB := Below.trans (Below.trans hB (by repeat (first | exact Below.refl _ _ | refine Below.drew ?_ | refine Below.alloc ?_ (by first | (simp; done) | (simp; omega) | omega) _ | refine Below.setCell ?_ (by first | (simp; done) | (simp; omega) | omega) _ | refine Below.trans ?_ (Below.mono (by assumption) (by first | (simp; done) | (simp; omega) | omega))))) (Below.mono hb (by first | (simp; done) | (simp; omega) | omega)) | have hB := hb); obtain ⟨hC, hF⟩ := bcell hB; have hz := hb.size; (try simp at hz); (try (have hz0 : w.heap.size < w'.heap.size := by omega)); (try (have hz1 : w.heap.size + 1 < w'.heap.size := by omega)); (try (have hz2 : w.heap.size + 1 + 1 < w'.heap.size := by omega)); (try (have hz3 : w.heap.size + 1 + 1 + 1 < w'.heap.size := by omega))))
    go_ret
    exact ⟨rfl, by repeat (first | exact Below.refl _ _ | refine Below.drew ?_ | refine Below.alloc ?_ (by first | (simp; done) | (simp; omega) | omega) _ | refine Below.setCell ?_ (by first | (simp; done) | (simp; omega) | omega) _ | refine Below.trans ?_ (Below.mono (by assumption) (by first | (simp; done) | (simp; omega) | omega)))⟩
  go_enter Tryd.func29, Tryd.ntmps29
  go_wp2_with (first | (go_at_call 59; refine (C1 _).mono ?_; rintro e w' ⟨rfl, rfl⟩) | (go_at_call 59; refine (C2 _).mono ?_; rintro e w' ⟨rfl, rfl⟩) | (go_at_call 51; refine (C3 _).mono ?_; rintro e w' ⟨rfl, rfl⟩) | (go_at_call 16; refine (CL _).mono ?_; rintro e w' ⟨rfl, hb⟩; obtain ⟨hc, hf⟩ := bcell hb; (first | have hB := Below.trans (Below.trans hB (by repeat (first | exact Below.refl _ _ | refine Below.drew ?_ | refine Below.alloc ?_ (by first | (simp; done) | (simp; omega) | omega) _ | refine Below.setCell ?_ (by first | (simp; done) | (simp; omega) | omega) _ | refine Below.trans ?_ (Below.mono (by assumption) (by first | (simp; done) | (simp; omega) | omega))))) (Below.mono hb (by first | (simp; done) | (simp; omega) | omega)) | have hB := hb); obtain ⟨hC, hF⟩ := bcell hB; have hz := hb.size; (try simp at hz); (try (have hz0 : w.heap.size < w'.heap.size := by omega)); (try (have hz1 : w.heap.size + 1 < w'.heap.size := by omega)); (try (have hz2 : w.heap.size + 1 + 1 < w'.heap.size := by omega)); (try (have hz3 : w.heap.size + 1 + 1 + 1 < w'.heap.size := by omega))) | (go_at_call 15; refine (CM _).mono ?_; rintro e w' ⟨rfl, hb⟩; obtain ⟨hc, hf⟩ := bcell hb; (first | have hB := Below.trans (Below.trans hB (by repeat (first | exact Below.refl _ _ | refine Below.drew ?_ | refine Below.alloc ?_ (by first | (simp; done) | (simp; omega) | omega) _ | refine Below.setCell ?_ (by first | (simp; done) | (simp; omega) | omega) _ | refine Below.trans ?_ (Below.mono (by assumption) (by first | (simp; done) | (simp; omega) | omega))))) (Below.mono hb (by first | (simp; done) | (simp; omega) | omega)) | have hB := hb); obtain ⟨hC, hF⟩ := bcell hB; have hz := hb.size; (try simp at hz); (try (have hz0 : w.heap.size < w'.heap.size := by omega)); (try (have hz1 : w.heap.size + 1 < w'.heap.size := by omega)); (try (have hz2 : w.heap.size + 1 + 1 < w'.heap.size := by omega)); (try (have hz3 : w.heap.size + 1 + 1 + 1 < w'.heap.size := by omega))))
  go_ret
  exact ⟨rfl, by repeat (first | exact Below.refl _ _ | refine Below.drew ?_ | refine Below.alloc ?_ (by first | (simp; done) | (simp; omega) | omega) _ | refine Below.setCell ?_ (by first | (simp; done) | (simp; omega) | omega) _ | refine Below.trans ?_ (Below.mono (by assumption) (by first | (simp; done) | (simp; omega) | omega)))⟩
end Go.Proofs.YtcakhfobkbgfoaaDoor
