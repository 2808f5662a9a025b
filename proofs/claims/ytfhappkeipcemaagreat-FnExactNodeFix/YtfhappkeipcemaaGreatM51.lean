/- Contracts of Rebase, Learn, Narrow, WidthAt. Contracts of Narrow. -/
import Derived.Test.YtfhappkeipcemaaGreatM35
import Derived.Test.YtfhappkeipcemaaGreatM45
namespace Go.Proofs.YtfhappkeipcemaaGreat
open Go.RowKit
set_option linter.unusedVariables false
set_option maxHeartbeats 1000000 in
theorem knownAt_any (lo hi c : Int) (w : World) :
    Calls Tryz.prog 143 #[.agg #[.int .i64 lo, .int .i64 hi], .int .i64 c] w fun e w' => e = .returned (.agg #[.bool true, .int .i64 lo, .int .i64 hi, .int .i64 c]) ∧ Below w.heap.size w w' := by
  go_enter Tryz.func143, Tryz.ntmps143
  go_wp2
  exact bodyPost_ret (v := .agg #[.bool true, .int .i64 lo, .int .i64 hi, .int .i64 c]) (by simp (maxDischargeDepth := 6) [results, Tryz.results143, go_sem, *]) rfl ⟨rfl, by repeat (first | exact Below.refl _ _ | refine Below.drew ?_ | refine Below.alloc ?_ (by first | (simp; done) | (simp; omega) | omega) _ | refine Below.setCell ?_ (by first | (simp; done) | (simp; omega) | omega) _ | refine Below.trans ?_ (Below.mono (by assumption) (by first | (simp; done) | (simp; omega) | omega)))⟩
end Go.Proofs.YtfhappkeipcemaaGreat
namespace Go.Proofs.YtfhappkeipcemaaGreat
open Go.RowKit
set_option linter.unusedVariables false
def nwC (kn : Bool) (lo hi a n d c x y : Int) : Int := if crC kn lo hi a n d c = 1 ∨ okI x y = false then 1 else if crC kn lo hi a n d c = 2 then 0 else if crC kn lo hi a n d c = 0 then (if meetB (crL kn lo hi a n d c) (crH kn lo hi a n d c) x y then 0 else 5) else crC kn lo hi a n d c
def nwK (kn : Bool) (lo hi a n d c x y : Int) : Bool := decide (nwC kn lo hi a n d c x y = 0)
def nwA (kn : Bool) (lo hi a n d c x y : Int) : Int := if nwC kn lo hi a n d c x y = 0 then c else 0
def nwLo (kn : Bool) (lo hi a n d c x y : Int) : Int := if nwC kn lo hi a n d c x y = 0 then (if crC kn lo hi a n d c = 2 then x else imx (crL kn lo hi a n d c) x) else 0
def nwH (kn : Bool) (lo hi a n d c x y : Int) : Int := if nwC kn lo hi a n d c x y = 0 then (if crC kn lo hi a n d c = 2 then y else imn (crH kn lo hi a n d c) y) else 0
def nwIs (kn : Bool) (lo hi a n d c x y : Int) (k : Bool) (l h t z : Int) : Prop := nwK kn lo hi a n d c x y = k ∧ nwLo kn lo hi a n d c x y = l ∧ nwH kn lo hi a n d c x y = h ∧ nwA kn lo hi a n d c x y = t ∧ nwC kn lo hi a n d c x y = z
theorem nw_no {kn : Bool} {lo hi a n d c x y z : Int} (h : nwC kn lo hi a n d c x y = z) (hz : z ≠ 0) : nwIs kn lo hi a n d c x y false 0 0 0 z := by
  have e : nwC kn lo hi a n d c x y ≠ 0 := by rw [h]; exact hz
  exact ⟨decide_eq_false e, by simp [nwLo, e], by simp [nwH, e], by simp [nwA, e], h⟩
theorem nw_1 {kn : Bool} {lo hi a n d c x y : Int} (h : crC kn lo hi a n d c = 1 ∨ okI x y = false) : nwIs kn lo hi a n d c x y false 0 0 0 1 :=
  nw_no (by unfold nwC; rw [if_pos h]) (by decide)
theorem nw_2 {kn : Bool} {lo hi a n d c x y : Int} (h : crC kn lo hi a n d c = 2) (ho : okI x y = true) : nwIs kn lo hi a n d c x y true x y c 0 := by
  have e : nwC kn lo hi a n d c x y = 0 := by unfold nwC; rw [if_neg (by rw [h, ho]; decide), if_pos h]
  exact ⟨decide_eq_true e, by simp [nwLo, e, h], by simp [nwH, e, h], by simp [nwA, e], e⟩
theorem nw_3 {kn : Bool} {lo hi a n d c x y : Int} (h1 : crC kn lo hi a n d c ≠ 1) (h2 : crC kn lo hi a n d c ≠ 2) (h3 : crC kn lo hi a n d c ≠ 0) (ho : okI x y = true) : nwIs kn lo hi a n d c x y false 0 0 0 (crC kn lo hi a n d c) :=
  nw_no (by unfold nwC; rw [if_neg (by rw [ho]; simp [h1]), if_neg h2, if_neg h3]) h3
theorem nw_5 {kn : Bool} {lo hi a n d c x y : Int} (h : crC kn lo hi a n d c = 0) (ho : okI x y = true) (hm : meetB (crL kn lo hi a n d c) (crH kn lo hi a n d c) x y = false) : nwIs kn lo hi a n d c x y false 0 0 0 5 :=
  nw_no (by unfold nwC; rw [if_neg (by rw [h, ho]; decide), if_neg (by rw [h]; decide), if_pos h, hm]; rfl) (by decide)
theorem nw_0 {kn : Bool} {lo hi a n d c x y : Int} (h : crC kn lo hi a n d c = 0) (ho : okI x y = true) (hm : meetB (crL kn lo hi a n d c) (crH kn lo hi a n d c) x y = true) : nwIs kn lo hi a n d c x y true (imx (crL kn lo hi a n d c) x) (imn (crH kn lo hi a n d c) y) c 0 := by
  have e : nwC kn lo hi a n d c x y = 0 := by unfold nwC; rw [if_neg (by rw [h, ho]; decide), if_neg (by rw [h]; decide), if_pos h, hm]; rfl
  exact ⟨decide_eq_true e, by simp [nwLo, e, h], by simp [nwH, e, h], by simp [nwA, e], e⟩
set_option maxHeartbeats 4000000 in
theorem specNarrow_any (kn : Bool) (lo hi a n d c x y : Int) (w : World) :
    Calls Tryz.prog 67 #[.agg #[.bool kn, .int .i64 lo, .int .i64 hi, .int .i64 a], .agg #[.int .i64 n, .int .i64 d], .int .i64 c, .agg #[.int .i64 x, .int .i64 y]] w fun e w' => e = .returned (.tuple #[.agg #[.bool (nwK kn lo hi a n d c x y), .int .i64 (nwLo kn lo hi a n d c x y), .int .i64 (nwH kn lo hi a n d c x y), .int .i64 (nwA kn lo hi a n d c x y)], .int .i64 (nwC kn lo hi a n d c x y)]) ∧ Below w.heap.size w w' := by
  have CC := fun w' => specCarryOn_any kn lo hi a n d c w'
  have CO := fun w' => specIvalOk_any x y w'
  have key : ∀ K L H T Z, nwIs kn lo hi a n d c x y K L H T Z → (Calls Tryz.prog 67 #[.agg #[.bool kn, .int .i64 lo, .int .i64 hi, .int .i64 a], .agg #[.int .i64 n, .int .i64 d], .int .i64 c, .agg #[.int .i64 x, .int .i64 y]] w fun e w' => e = .returned (.tuple #[.agg #[.bool K, .int .i64 L, .int .i64 H, .int .i64 T], .int .i64 Z]) ∧ Below w.heap.size w w') → Calls Tryz.prog 67 #[.agg #[.bool kn, .int .i64 lo, .int .i64 hi, .int .i64 a], .agg #[.int .i64 n, .int .i64 d], .int .i64 c, .agg #[.int .i64 x, .int .i64 y]] w fun e w' => e = .returned (.tuple #[.agg #[.bool (nwK kn lo hi a n d c x y), .int .i64 (nwLo kn lo hi a n d c x y), .int .i64 (nwH kn lo hi a n d c x y), .int .i64 (nwA kn lo hi a n d c x y)], .int .i64 (nwC kn lo hi a n d c x y)]) ∧ Below w.heap.size w w' := by
    rintro K L H T Z ⟨e1, e2, e3, e4, e5⟩ h
    rw [e1, e2, e3, e4, e5]; exact h
  by_cases h1 : crC kn lo hi a n d c = 1
  · refine key _ _ _ _ _ (nw_1 (.inl h1)) ?_
    rw [h1] at CC
    clear key h1
    generalize crL kn lo hi a n d c = X at *
    generalize crH kn lo hi a n d c = Y at *
    go_enter Tryz.func67, Tryz.ntmps67
    go_wp2_with (first | (go_at_call 45; refine (CC _).mono ?_; rintro e w' ⟨rfl, hb⟩; obtain ⟨hc, hf⟩ := bcell hb; (first | have hB := Below.trans (Below.trans hB (by repeat (first | exact Below.refl _ _ | refine Below.drew ?_ | refine Below.alloc ?_ (by first | (simp; done) | (simp; omega) | omega) _ | refine Below.setCell ?_ (by first | (simp; done) | (simp; omega) | omega) _ | refine Below.trans ?_ (Below.mono (by assumption) (by first | (simp; done) | (simp; omega) | omega))))) (Below.mono hb (by first | (simp; done) | (simp; omega) | omega)) | have hB := hb); obtain ⟨hC, hF⟩ := bcell hB; have hz := hb.size; (try simp at hz); (try (have hz0 : w.heap.size < w'.heap.size := by omega)); (try (have hz1 : w.heap.size + 1 < w'.heap.size := by omega)); (try (have hz2 : w.heap.size + 1 + 1 < w'.heap.size := by omega)); (try (have hz3 : w.heap.size + 1 + 1 + 1 < w'.heap.size := by omega))) | (go_at_call 65; refine (CO _).mono ?_; rintro e w' ⟨rfl, hb⟩; obtain ⟨hc, hf⟩ := bcell hb; (first | have hB := Below.trans (Below.trans hB (by repeat (first | exact Below.refl _ _ | refine Below.drew ?_ | refine Below.alloc ?_ (by first | (simp; done) | (simp; omega) | omega) _ | refine Below.setCell ?_ (by first | (simp; done) | (simp; omega) | omega) _ | refine Below.trans ?_ (Below.mono (by assumption) (by first | (simp; done) | (simp; omega) | omega))))) (Below.mono hb (by first | (simp; done) | (simp; omega) | omega)) | have hB := hb); obtain ⟨hC, hF⟩ := bcell hB; have hz := hb.size; (try simp at hz); (try (have hz0 : w.heap.size < w'.heap.size := by omega)); (try (have hz1 : w.heap.size + 1 < w'.heap.size := by omega)); (try (have hz2 : w.heap.size + 1 + 1 < w'.heap.size := by omega)); (try (have hz3 : w.heap.size + 1 + 1 + 1 < w'.heap.size := by omega))))
    exact bodyPost_ret (v := .tuple #[.agg #[.bool false, .int .i64 0, .int .i64 0, .int .i64 0], .int .i64 1]) (by simp (maxDischargeDepth := 6) [results, Tryz.results67, go_sem, *]) rfl ⟨rfl, by repeat (first | exact Below.refl _ _ | refine Below.drew ?_ | refine Below.alloc ?_ (by first | (simp; done) | (simp; omega) | omega) _ | refine Below.setCell ?_ (by first | (simp; done) | (simp; omega) | omega) _ | refine Below.trans ?_ (Below.mono (by assumption) (by first | (simp; done) | (simp; omega) | omega)))⟩
  cases ho : okI x y
  · refine key _ _ _ _ _ (nw_1 (.inr ho)) ?_
    rw [ho] at CO
    clear key
    generalize crL kn lo hi a n d c = X at *
    generalize crH kn lo hi a n d c = Y at *
    generalize crC kn lo hi a n d c = Z at *
    go_enter Tryz.func67, Tryz.ntmps67
    go_wp2_with (first | (go_at_call 45; refine (CC _).mono ?_; rintro e w' ⟨rfl, hb⟩; obtain ⟨hc, hf⟩ := bcell hb; (first | have hB := Below.trans (Below.trans hB (by repeat (first | exact Below.refl _ _ | refine Below.drew ?_ | refine Below.alloc ?_ (by first | (simp; done) | (simp; omega) | omega) _ | refine Below.setCell ?_ (by first | (simp; done) | (simp; omega) | omega) _ | refine Below.trans ?_ (Below.mono (by assumption) (by first | (simp; done) | (simp; omega) | omega))))) (Below.mono hb (by first | (simp; done) | (simp; omega) | omega)) | have hB := hb); obtain ⟨hC, hF⟩ := bcell hB; have hz := hb.size; (try simp at hz); (try (have hz0 : w.heap.size < w'.heap.size := by omega)); (try (have hz1 : w.heap.size + 1 < w'.heap.size := by omega)); (try (have hz2 : w.heap.size + 1 + 1 < w'.heap.size := by omega)); (try (have hz3 : w.heap.size + 1 + 1 + 1 < w'.heap.size := by omega))) | (go_at_call 65; refine (CO _).mono ?_; rintro e w' ⟨rfl, hb⟩; obtain ⟨hc, hf⟩ := bcell hb; (first | have hB := Below.trans (Below.trans hB (by repeat (first | exact Below.refl _ _ | refine Below.drew ?_ | refine Below.alloc ?_ (by first | (simp; done) | (simp; omega) | omega) _ | refine Below.setCell ?_ (by first | (simp; done) | (simp; omega) | omega) _ | refine Below.trans ?_ (Below.mono (by assumption) (by first | (simp; done) | (simp; omega) | omega))))) (Below.mono hb (by first | (simp; done) | (simp; omega) | omega)) | have hB := hb); obtain ⟨hC, hF⟩ := bcell hB; have hz := hb.size; (try simp at hz); (try (have hz0 : w.heap.size < w'.heap.size := by omega)); (try (have hz1 : w.heap.size + 1 < w'.heap.size := by omega)); (try (have hz2 : w.heap.size + 1 + 1 < w'.heap.size := by omega)); (try (have hz3 : w.heap.size + 1 + 1 + 1 < w'.heap.size := by omega))))
    exact bodyPost_ret (v := .tuple #[.agg #[.bool false, .int .i64 0, .int .i64 0, .int .i64 0], .int .i64 1]) (by simp (maxDischargeDepth := 6) [results, Tryz.results67, go_sem, *]) rfl ⟨rfl, by repeat (first | exact Below.refl _ _ | refine Below.drew ?_ | refine Below.alloc ?_ (by first | (simp; done) | (simp; omega) | omega) _ | refine Below.setCell ?_ (by first | (simp; done) | (simp; omega) | omega) _ | refine Below.trans ?_ (Below.mono (by assumption) (by first | (simp; done) | (simp; omega) | omega)))⟩
  rw [ho] at CO
  by_cases h2 : crC kn lo hi a n d c = 2
  · refine key _ _ _ _ _ (nw_2 h2 ho) ?_
    rw [h2] at CC
    clear key h2 h1
    generalize crL kn lo hi a n d c = X at *
    generalize crH kn lo hi a n d c = Y at *
    go_enter Tryz.func67, Tryz.ntmps67
    go_wp2_with (first | (go_at_call 45; refine (CC _).mono ?_; rintro e w' ⟨rfl, hb⟩; obtain ⟨hc, hf⟩ := bcell hb; (first | have hB := Below.trans (Below.trans hB (by repeat (first | exact Below.refl _ _ | refine Below.drew ?_ | refine Below.alloc ?_ (by first | (simp; done) | (simp; omega) | omega) _ | refine Below.setCell ?_ (by first | (simp; done) | (simp; omega) | omega) _ | refine Below.trans ?_ (Below.mono (by assumption) (by first | (simp; done) | (simp; omega) | omega))))) (Below.mono hb (by first | (simp; done) | (simp; omega) | omega)) | have hB := hb); obtain ⟨hC, hF⟩ := bcell hB; have hz := hb.size; (try simp at hz); (try (have hz0 : w.heap.size < w'.heap.size := by omega)); (try (have hz1 : w.heap.size + 1 < w'.heap.size := by omega)); (try (have hz2 : w.heap.size + 1 + 1 < w'.heap.size := by omega)); (try (have hz3 : w.heap.size + 1 + 1 + 1 < w'.heap.size := by omega))) | (go_at_call 65; refine (CO _).mono ?_; rintro e w' ⟨rfl, hb⟩; obtain ⟨hc, hf⟩ := bcell hb; (first | have hB := Below.trans (Below.trans hB (by repeat (first | exact Below.refl _ _ | refine Below.drew ?_ | refine Below.alloc ?_ (by first | (simp; done) | (simp; omega) | omega) _ | refine Below.setCell ?_ (by first | (simp; done) | (simp; omega) | omega) _ | refine Below.trans ?_ (Below.mono (by assumption) (by first | (simp; done) | (simp; omega) | omega))))) (Below.mono hb (by first | (simp; done) | (simp; omega) | omega)) | have hB := hb); obtain ⟨hC, hF⟩ := bcell hB; have hz := hb.size; (try simp at hz); (try (have hz0 : w.heap.size < w'.heap.size := by omega)); (try (have hz1 : w.heap.size + 1 < w'.heap.size := by omega)); (try (have hz2 : w.heap.size + 1 + 1 < w'.heap.size := by omega)); (try (have hz3 : w.heap.size + 1 + 1 + 1 < w'.heap.size := by omega))))
    exact bodyPost_ret (v := .tuple #[.agg #[.bool true, .int .i64 x, .int .i64 y, .int .i64 c], .int .i64 0]) (by simp (maxDischargeDepth := 6) [results, Tryz.results67, go_sem, *]) rfl ⟨rfl, by repeat (first | exact Below.refl _ _ | refine Below.drew ?_ | refine Below.alloc ?_ (by first | (simp; done) | (simp; omega) | omega) _ | refine Below.setCell ?_ (by first | (simp; done) | (simp; omega) | omega) _ | refine Below.trans ?_ (Below.mono (by assumption) (by first | (simp; done) | (simp; omega) | omega)))⟩
  by_cases h3 : crC kn lo hi a n d c = 0
  · have CM := fun w' => specMeet_any (crL kn lo hi a n d c) (crH kn lo hi a n d c) x y w'
    cases hm : meetB (crL kn lo hi a n d c) (crH kn lo hi a n d c) x y
    · refine key _ _ _ _ _ (nw_5 h3 ho hm) ?_
      rw [h3] at CC
      rw [hm, sel_f rfl, sel_f rfl] at CM
      clear key h2 h1 h3 hm
      generalize crL kn lo hi a n d c = X at *
      generalize crH kn lo hi a n d c = Y at *
      go_enter Tryz.func67, Tryz.ntmps67
      go_wp2_with (first | (go_at_call 45; refine (CC _).mono ?_; rintro e w' ⟨rfl, hb⟩; obtain ⟨hc, hf⟩ := bcell hb; (first | have hB := Below.trans (Below.trans hB (by repeat (first | exact Below.refl _ _ | refine Below.drew ?_ | refine Below.alloc ?_ (by first | (simp; done) | (simp; omega) | omega) _ | refine Below.setCell ?_ (by first | (simp; done) | (simp; omega) | omega) _ | refine Below.trans ?_ (Below.mono (by assumption) (by first | (simp; done) | (simp; omega) | omega))))) (Below.mono hb (by first | (simp; done) | (simp; omega) | omega)) | have hB := hb); obtain ⟨hC, hF⟩ := bcell hB; have hz := hb.size; (try simp at hz); (try (have hz0 : w.heap.size < w'.heap.size := by omega)); (try (have hz1 : w.heap.size + 1 < w'.heap.size := by omega)); (try (have hz2 : w.heap.size + 1 + 1 < w'.heap.size := by omega)); (try (have hz3 : w.heap.size + 1 + 1 + 1 < w'.heap.size := by omega))) | (go_at_call 65; refine (CO _).mono ?_; rintro e w' ⟨rfl, hb⟩; obtain ⟨hc, hf⟩ := bcell hb; (first | have hB := Below.trans (Below.trans hB (by repeat (first | exact Below.refl _ _ | refine Below.drew ?_ | refine Below.alloc ?_ (by first | (simp; done) | (simp; omega) | omega) _ | refine Below.setCell ?_ (by first | (simp; done) | (simp; omega) | omega) _ | refine Below.trans ?_ (Below.mono (by assumption) (by first | (simp; done) | (simp; omega) | omega))))) (Below.mono hb (by first | (simp; done) | (simp; omega) | omega)) | have hB := hb); obtain ⟨hC, hF⟩ := bcell hB; have hz := hb.size; (try simp at hz); (try (have hz0 : w.heap.size < w'.heap.size := by omega)); (try (have hz1 : w.heap.size + 1 < w'.heap.size := by omega)); (try (have hz2 : w.heap.size + 1 + 1 < w'.heap.size := by omega)); (try (have hz3 : w.heap.size + 1 + 1 + 1 < w'.heap.size := by omega))) | (go_at_call 120; refine (CM _).mono ?_; rintro e w' ⟨rfl, hb⟩; obtain ⟨hc, hf⟩ := bcell hb; (first | have hB := Below.trans (Below.trans hB (by repeat (first | exact Below.refl _ _ | refine Below.drew ?_ | refine Below.alloc ?_ (by first | (simp; done) | (simp; omega) | omega) _ | refine Below.setCell ?_ (by first | (simp; done) | (simp; omega) | omega) _ | refine Below.trans ?_ (Below.mono (by assumption) (by first | (simp; done) | (simp; omega) | omega))))) (Below.mono hb (by first | (simp; done) | (simp; omega) | omega)) | have hB := hb); obtain ⟨hC, hF⟩ := bcell hB; have hz := hb.size; (try simp at hz); (try (have hz0 : w.heap.size < w'.heap.size := by omega)); (try (have hz1 : w.heap.size + 1 < w'.heap.size := by omega)); (try (have hz2 : w.heap.size + 1 + 1 < w'.heap.size := by omega)); (try (have hz3 : w.heap.size + 1 + 1 + 1 < w'.heap.size := by omega))))
      exact bodyPost_ret (v := .tuple #[.agg #[.bool false, .int .i64 0, .int .i64 0, .int .i64 0], .int .i64 5]) (by simp (maxDischargeDepth := 6) [results, Tryz.results67, go_sem, *]) rfl ⟨rfl, by repeat (first | exact Below.refl _ _ | refine Below.drew ?_ | refine Below.alloc ?_ (by first | (simp; done) | (simp; omega) | omega) _ | refine Below.setCell ?_ (by first | (simp; done) | (simp; omega) | omega) _ | refine Below.trans ?_ (Below.mono (by assumption) (by first | (simp; done) | (simp; omega) | omega)))⟩
    · refine key _ _ _ _ _ (nw_0 h3 ho hm) ?_
      rw [h3] at CC
      rw [hm, sel_t rfl, sel_t rfl] at CM
      clear key h2 h1 h3 hm
      generalize crL kn lo hi a n d c = X at *
      generalize crH kn lo hi a n d c = Y at *
      generalize imx X x = P at *
      generalize imn Y y = Q at *
      go_enter Tryz.func67, Tryz.ntmps67
      go_wp2_with (first | (go_at_call 45; refine (CC _).mono ?_; rintro e w' ⟨rfl, hb⟩; obtain ⟨hc, hf⟩ := bcell hb; (first | have hB := Below.trans (Below.trans hB (by repeat (first | exact Below.refl _ _ | refine Below.drew ?_ | refine Below.alloc ?_ (by first | (simp; done) | (simp; omega) | omega) _ | refine Below.setCell ?_ (by first | (simp; done) | (simp; omega) | omega) _ | refine Below.trans ?_ (Below.mono (by assumption) (by first | (simp; done) | (simp; omega) | omega))))) (Below.mono hb (by first | (simp; done) | (simp; omega) | omega)) | have hB := hb); obtain ⟨hC, hF⟩ := bcell hB; have hz := hb.size; (try simp at hz); (try (have hz0 : w.heap.size < w'.heap.size := by omega)); (try (have hz1 : w.heap.size + 1 < w'.heap.size := by omega)); (try (have hz2 : w.heap.size + 1 + 1 < w'.heap.size := by omega)); (try (have hz3 : w.heap.size + 1 + 1 + 1 < w'.heap.size := by omega))) | (go_at_call 65; refine (CO _).mono ?_; rintro e w' ⟨rfl, hb⟩; obtain ⟨hc, hf⟩ := bcell hb; (first | have hB := Below.trans (Below.trans hB (by repeat (first | exact Below.refl _ _ | refine Below.drew ?_ | refine Below.alloc ?_ (by first | (simp; done) | (simp; omega) | omega) _ | refine Below.setCell ?_ (by first | (simp; done) | (simp; omega) | omega) _ | refine Below.trans ?_ (Below.mono (by assumption) (by first | (simp; done) | (simp; omega) | omega))))) (Below.mono hb (by first | (simp; done) | (simp; omega) | omega)) | have hB := hb); obtain ⟨hC, hF⟩ := bcell hB; have hz := hb.size; (try simp at hz); (try (have hz0 : w.heap.size < w'.heap.size := by omega)); (try (have hz1 : w.heap.size + 1 < w'.heap.size := by omega)); (try (have hz2 : w.heap.size + 1 + 1 < w'.heap.size := by omega)); (try (have hz3 : w.heap.size + 1 + 1 + 1 < w'.heap.size := by omega))) | (go_at_call 120; refine (CM _).mono ?_; rintro e w' ⟨rfl, hb⟩; obtain ⟨hc, hf⟩ := bcell hb; (first | have hB := Below.trans (Below.trans hB (by repeat (first | exact Below.refl _ _ | refine Below.drew ?_ | refine Below.alloc ?_ (by first | (simp; done) | (simp; omega) | omega) _ | refine Below.setCell ?_ (by first | (simp; done) | (simp; omega) | omega) _ | refine Below.trans ?_ (Below.mono (by assumption) (by first | (simp; done) | (simp; omega) | omega))))) (Below.mono hb (by first | (simp; done) | (simp; omega) | omega)) | have hB := hb); obtain ⟨hC, hF⟩ := bcell hB; have hz := hb.size; (try simp at hz); (try (have hz0 : w.heap.size < w'.heap.size := by omega)); (try (have hz1 : w.heap.size + 1 < w'.heap.size := by omega)); (try (have hz2 : w.heap.size + 1 + 1 < w'.heap.size := by omega)); (try (have hz3 : w.heap.size + 1 + 1 + 1 < w'.heap.size := by omega))))
      exact bodyPost_ret (v := .tuple #[.agg #[.bool true, .int .i64 P, .int .i64 Q, .int .i64 c], .int .i64 0]) (by simp (maxDischargeDepth := 6) [results, Tryz.results67, go_sem, *]) rfl ⟨rfl, by repeat (first | exact Below.refl _ _ | refine Below.drew ?_ | refine Below.alloc ?_ (by first | (simp; done) | (simp; omega) | omega) _ | refine Below.setCell ?_ (by first | (simp; done) | (simp; omega) | omega) _ | refine Below.trans ?_ (Below.mono (by assumption) (by first | (simp; done) | (simp; omega) | omega)))⟩
  · refine key _ _ _ _ _ (nw_3 h1 h2 h3 ho) ?_
    clear key
    generalize crL kn lo hi a n d c = X at *
    generalize crH kn lo hi a n d c = Y at *
    generalize crC kn lo hi a n d c = Z at *
    go_enter Tryz.func67, Tryz.ntmps67
    go_wp2_with (first | (go_at_call 45; refine (CC _).mono ?_; rintro e w' ⟨rfl, hb⟩; obtain ⟨hc, hf⟩ := bcell hb; (first | have hB := Below.trans (Below.trans hB (by repeat (first | exact Below.refl _ _ | refine Below.drew ?_ | refine Below.alloc ?_ (by first | (simp; done) | (simp; omega) | omega) _ | refine Below.setCell ?_ (by first | (simp; done) | (simp; omega) | omega) _ | refine Below.trans ?_ (Below.mono (by assumption) (by first | (simp; done) | (simp; omega) | omega))))) (Below.mono hb (by first | (simp; done) | (simp; omega) | omega)) | have hB := hb); obtain ⟨hC, hF⟩ := bcell hB; have hz := hb.size; (try simp at hz); (try (have hz0 : w.heap.size < w'.heap.size := by omega)); (try (have hz1 : w.heap.size + 1 < w'.heap.size := by omega)); (try (have hz2 : w.heap.size + 1 + 1 < w'.heap.size := by omega)); (try (have hz3 : w.heap.size + 1 + 1 + 1 < w'.heap.size := by omega))) | (go_at_call 65; refine (CO _).mono ?_; rintro e w' ⟨rfl, hb⟩; obtain ⟨hc, hf⟩ := bcell hb; (first | have hB := Below.trans (Below.trans hB (by repeat (first | exact Below.refl _ _ | refine Below.drew ?_ | refine Below.alloc ?_ (by first | (simp; done) | (simp; omega) | omega) _ | refine Below.setCell ?_ (by first | (simp; done) | (simp; omega) | omega) _ | refine Below.trans ?_ (Below.mono (by assumption) (by first | (simp; done) | (simp; omega) | omega))))) (Below.mono hb (by first | (simp; done) | (simp; omega) | omega)) | have hB := hb); obtain ⟨hC, hF⟩ := bcell hB; have hz := hb.size; (try simp at hz); (try (have hz0 : w.heap.size < w'.heap.size := by omega)); (try (have hz1 : w.heap.size + 1 < w'.heap.size := by omega)); (try (have hz2 : w.heap.size + 1 + 1 < w'.heap.size := by omega)); (try (have hz3 : w.heap.size + 1 + 1 + 1 < w'.heap.size := by omega))))
    exact bodyPost_ret (v := .tuple #[.agg #[.bool false, .int .i64 0, .int .i64 0, .int .i64 0], .int .i64 Z]) (by simp (maxDischargeDepth := 6) [results, Tryz.results67, go_sem, *]) rfl ⟨rfl, by repeat (first | exact Below.refl _ _ | refine Below.drew ?_ | refine Below.alloc ?_ (by first | (simp; done) | (simp; omega) | omega) _ | refine Below.setCell ?_ (by first | (simp; done) | (simp; omega) | omega) _ | refine Below.trans ?_ (Below.mono (by assumption) (by first | (simp; done) | (simp; omega) | omega)))⟩
set_option maxHeartbeats 4000000 in
theorem implNarrow_any (kn : Bool) (lo hi a n d c x y : Int) (w : World) :
    Calls Tryz.prog 123 #[.agg #[.bool kn, .int .i64 lo, .int .i64 hi, .int .i64 a], .agg #[.int .i64 n, .int .i64 d], .int .i64 c, .agg #[.int .i64 x, .int .i64 y]] w fun e w' => e = .returned (.tuple #[.agg #[.bool (nwK kn lo hi a n d c x y), .int .i64 (nwLo kn lo hi a n d c x y), .int .i64 (nwH kn lo hi a n d c x y), .int .i64 (nwA kn lo hi a n d c x y)], .int .i64 (nwC kn lo hi a n d c x y)]) ∧ Below w.heap.size w w' := by
  have CC := fun v H' => carry_any w.heap.size kn lo hi a n d c v H'
  have CY := fun v H' => mayCarry_any w.heap.size kn lo hi a n d c v H'
  have CO := fun w' => ok_any x y w'
  have B : Below w.heap.size w ((((w.alloc (.cells #[.bool kn, .int .i64 lo, .int .i64 hi, .int .i64 a] 58)).alloc (.cells #[.int .i64 n, .int .i64 d] 49)).alloc (.cells #[.int .i64 x, .int .i64 y] 46)).alloc (.cells #[.bool false, .int .i64 0, .int .i64 0, .int .i64 0] 58)) := (((Below.alc _ _).alloc (by first | (simp; done) | (simp; omega) | omega) _).alloc (by first | (simp; done) | (simp; omega) | omega) _).alloc (by first | (simp; done) | (simp; omega) | omega) _
  have H := (((BoxL.new w kn lo hi a 58).alloc (.cells #[.int .i64 n, .int .i64 d] 49)).alloc (.cells #[.int .i64 x, .int .i64 y] 46)).alloc (.cells #[.bool false, .int .i64 0, .int .i64 0, .int .i64 0] 58)
  have D := ((Bx.new (w.alloc (.cells #[.bool kn, .int .i64 lo, .int .i64 hi, .int .i64 a] 58)) n d 49).alloc (.cells #[.int .i64 x, .int .i64 y] 46)).alloc (.cells #[.bool false, .int .i64 0, .int .i64 0, .int .i64 0] 58)
  have V := (Bx.new ((w.alloc (.cells #[.bool kn, .int .i64 lo, .int .i64 hi, .int .i64 a] 58)).alloc (.cells #[.int .i64 n, .int .i64 d] 49)) x y 46).alloc (.cells #[.bool false, .int .i64 0, .int .i64 0, .int .i64 0] 58)
  have R := BoxL.new (((w.alloc (.cells #[.bool kn, .int .i64 lo, .int .i64 hi, .int .i64 a] 58)).alloc (.cells #[.int .i64 n, .int .i64 d] 49)).alloc (.cells #[.int .i64 x, .int .i64 y] 46)) false 0 0 0 58
  simp only [World.size_alloc] at R D V
  have key : ∀ K L H T Z, nwIs kn lo hi a n d c x y K L H T Z → (Calls Tryz.prog 123 #[.agg #[.bool kn, .int .i64 lo, .int .i64 hi, .int .i64 a], .agg #[.int .i64 n, .int .i64 d], .int .i64 c, .agg #[.int .i64 x, .int .i64 y]] w fun e w' => e = .returned (.tuple #[.agg #[.bool K, .int .i64 L, .int .i64 H, .int .i64 T], .int .i64 Z]) ∧ Below w.heap.size w w') → Calls Tryz.prog 123 #[.agg #[.bool kn, .int .i64 lo, .int .i64 hi, .int .i64 a], .agg #[.int .i64 n, .int .i64 d], .int .i64 c, .agg #[.int .i64 x, .int .i64 y]] w fun e w' => e = .returned (.tuple #[.agg #[.bool (nwK kn lo hi a n d c x y), .int .i64 (nwLo kn lo hi a n d c x y), .int .i64 (nwH kn lo hi a n d c x y), .int .i64 (nwA kn lo hi a n d c x y)], .int .i64 (nwC kn lo hi a n d c x y)]) ∧ Below w.heap.size w w' := by
    rintro K L H T Z ⟨e1, e2, e3, e4, e5⟩ h
    rw [e1, e2, e3, e4, e5]; exact h
  rcases cr_cases kn lo hi a n d c with ⟨hp, hc⟩ | ⟨hp, hk, hc⟩ | ⟨hp, hk, hc⟩
  · refine key _ _ _ _ _ (nw_1 (.inl hc)) ?_
    rw [hp] at CY
    clear key CC hc
    go_enter Tryz.func123, Tryz.ntmps123
    go_wp2_with fail
    refine (CY _ H).mono ?_
    rintro e v ⟨rfl, hb⟩; (replace B := B.trans (hb.mono B.size)); (replace H := H.below hb); (replace D := D.below hb); (replace V := V.below hb); (replace R := R.below hb); clear hb
    (obtain ⟨h0, h1, h2, h3, h4, h5, h6, h7, h8⟩ := id H); (obtain ⟨d0, d1, d2, d3, d4⟩ := id D); (obtain ⟨v0, v1, v2, v3, v4⟩ := id V); (obtain ⟨r0, r1, r2, r3, r4, r5, r6, r7, r8⟩ := id R)
    clear CY
    go_wp2
    exact bodyPost_ret (v := .tuple #[.agg #[.bool false, .int .i64 0, .int .i64 0, .int .i64 0], .int .i64 1]) (by simp (maxDischargeDepth := 6) [results, Tryz.results123, go_sem, *]) rfl ⟨rfl, by repeat (first | exact B | refine Below.drew ?_ | refine Below.alloc ?_ (by first | (simp; done) | (simp; omega) | omega) _ | refine Below.setCell ?_ (by first | (simp; done) | (simp; omega) | omega) _)⟩
  · subst hk
    rw [hp] at CY
    cases ho : okI x y
    · refine key _ _ _ _ _ (nw_1 (.inr ho)) ?_
      rw [ho] at CO
      clear key CC hc
      go_enter Tryz.func123, Tryz.ntmps123
      go_wp2_with fail
      refine (CY _ H).mono ?_
      rintro e v ⟨rfl, hb⟩; (replace B := B.trans (hb.mono B.size)); (replace H := H.below hb); (replace D := D.below hb); (replace V := V.below hb); (replace R := R.below hb); clear hb
      (obtain ⟨h0, h1, h2, h3, h4, h5, h6, h7, h8⟩ := id H); (obtain ⟨d0, d1, d2, d3, d4⟩ := id D); (obtain ⟨v0, v1, v2, v3, v4⟩ := id V); (obtain ⟨r0, r1, r2, r3, r4, r5, r6, r7, r8⟩ := id R)
      clear CY
      go_wp2_with fail
      refine (CO _).mono ?_
      clear h0 h1 h2 h3 h4 h5 h6 h7 h8 d0 d1 d2 d3 d4 v0 v1 v2 v3 v4 r0 r1 r2 r3 r4 r5 r6 r7 r8
      rintro e v ⟨rfl, hb⟩; (replace B := B.trans (hb.mono B.size)); (replace H := H.below hb); (replace D := D.below hb); (replace V := V.below hb); (replace R := R.below hb); clear hb
      (obtain ⟨h0, h1, h2, h3, h4, h5, h6, h7, h8⟩ := id H); (obtain ⟨d0, d1, d2, d3, d4⟩ := id D); (obtain ⟨v0, v1, v2, v3, v4⟩ := id V); (obtain ⟨r0, r1, r2, r3, r4, r5, r6, r7, r8⟩ := id R)
      go_wp2
      exact bodyPost_ret (v := .tuple #[.agg #[.bool false, .int .i64 0, .int .i64 0, .int .i64 0], .int .i64 1]) (by simp (maxDischargeDepth := 6) [results, Tryz.results123, go_sem, *]) rfl ⟨rfl, by repeat (first | exact B | refine Below.drew ?_ | refine Below.alloc ?_ (by first | (simp; done) | (simp; omega) | omega) _ | refine Below.setCell ?_ (by first | (simp; done) | (simp; omega) | omega) _)⟩
    refine key _ _ _ _ _ (nw_2 hc ho) ?_
    rw [ho] at CO
    clear key CC hc
    go_enter Tryz.func123, Tryz.ntmps123
    go_wp2_with fail
    refine (CY _ H).mono ?_
    rintro e v ⟨rfl, hb⟩; (replace B := B.trans (hb.mono B.size)); (replace H := H.below hb); (replace D := D.below hb); (replace V := V.below hb); (replace R := R.below hb); clear hb
    (obtain ⟨h0, h1, h2, h3, h4, h5, h6, h7, h8⟩ := id H); (obtain ⟨d0, d1, d2, d3, d4⟩ := id D); (obtain ⟨v0, v1, v2, v3, v4⟩ := id V); (obtain ⟨r0, r1, r2, r3, r4, r5, r6, r7, r8⟩ := id R)
    clear CY
    go_wp2_with fail
    refine (CO _).mono ?_
    clear h0 h1 h2 h3 h4 h5 h6 h7 h8 d0 d1 d2 d3 d4 v0 v1 v2 v3 v4 r0 r1 r2 r3 r4 r5 r6 r7 r8
    rintro e v ⟨rfl, hb⟩; (replace B := B.trans (hb.mono B.size)); (replace H := H.below hb); (replace D := D.below hb); (replace V := V.below hb); (replace R := R.below hb); clear hb
    (obtain ⟨h0, h1, h2, h3, h4, h5, h6, h7, h8⟩ := id H); (obtain ⟨d0, d1, d2, d3, d4⟩ := id D); (obtain ⟨v0, v1, v2, v3, v4⟩ := id V); (obtain ⟨r0, r1, r2, r3, r4, r5, r6, r7, r8⟩ := id R)
    go_wp2_with fail
    refine (knownAt_any _ _ _ _).mono ?_
    clear h0 h1 h2 h3 h4 h5 h6 h7 h8 d0 d1 d2 d3 d4 v0 v1 v2 v3 v4 r0 r1 r2 r3 r4 r5 r6 r7 r8
    rintro e v ⟨rfl, hb⟩; (replace B := B.trans (hb.mono B.size)); (replace H := H.below hb); (replace D := D.below hb); (replace V := V.below hb); (replace R := R.below hb); clear hb
    (obtain ⟨h0, h1, h2, h3, h4, h5, h6, h7, h8⟩ := id H); (obtain ⟨d0, d1, d2, d3, d4⟩ := id D); (obtain ⟨v0, v1, v2, v3, v4⟩ := id V); (obtain ⟨r0, r1, r2, r3, r4, r5, r6, r7, r8⟩ := id R)
    go_wp2
    exact bodyPost_ret (v := .tuple #[.agg #[.bool true, .int .i64 x, .int .i64 y, .int .i64 c], .int .i64 0]) (by simp (maxDischargeDepth := 6) [results, Tryz.results123, go_sem, *]) rfl ⟨rfl, by repeat (first | exact B | refine Below.drew ?_ | refine Below.alloc ?_ (by first | (simp; done) | (simp; omega) | omega) _ | refine Below.setCell ?_ (by first | (simp; done) | (simp; omega) | omega) _)⟩
  · subst hk
    rw [hp] at CY
    cases ho : okI x y
    · refine key _ _ _ _ _ (nw_1 (.inr ho)) ?_
      rw [ho] at CO
      clear key CC hc
      go_enter Tryz.func123, Tryz.ntmps123
      go_wp2_with fail
      refine (CY _ H).mono ?_
      rintro e v ⟨rfl, hb⟩; (replace B := B.trans (hb.mono B.size)); (replace H := H.below hb); (replace D := D.below hb); (replace V := V.below hb); (replace R := R.below hb); clear hb
      (obtain ⟨h0, h1, h2, h3, h4, h5, h6, h7, h8⟩ := id H); (obtain ⟨d0, d1, d2, d3, d4⟩ := id D); (obtain ⟨v0, v1, v2, v3, v4⟩ := id V); (obtain ⟨r0, r1, r2, r3, r4, r5, r6, r7, r8⟩ := id R)
      clear CY
      go_wp2_with fail
      refine (CO _).mono ?_
      clear h0 h1 h2 h3 h4 h5 h6 h7 h8 d0 d1 d2 d3 d4 v0 v1 v2 v3 v4 r0 r1 r2 r3 r4 r5 r6 r7 r8
      rintro e v ⟨rfl, hb⟩; (replace B := B.trans (hb.mono B.size)); (replace H := H.below hb); (replace D := D.below hb); (replace V := V.below hb); (replace R := R.below hb); clear hb
      (obtain ⟨h0, h1, h2, h3, h4, h5, h6, h7, h8⟩ := id H); (obtain ⟨d0, d1, d2, d3, d4⟩ := id D); (obtain ⟨v0, v1, v2, v3, v4⟩ := id V); (obtain ⟨r0, r1, r2, r3, r4, r5, r6, r7, r8⟩ := id R)
      go_wp2
      exact bodyPost_ret (v := .tuple #[.agg #[.bool false, .int .i64 0, .int .i64 0, .int .i64 0], .int .i64 1]) (by simp (maxDischargeDepth := 6) [results, Tryz.results123, go_sem, *]) rfl ⟨rfl, by repeat (first | exact B | refine Below.drew ?_ | refine Below.alloc ?_ (by first | (simp; done) | (simp; omega) | omega) _ | refine Below.setCell ?_ (by first | (simp; done) | (simp; omega) | omega) _)⟩
    rw [ho] at CO
    by_cases h3 : crC true lo hi a n d c = 0
    · have CM := fun w' => implMeet_any (crL true lo hi a n d c) (crH true lo hi a n d c) x y w'
      rw [h3] at CC
      cases hm : meetB (crL true lo hi a n d c) (crH true lo hi a n d c) x y
      · refine key _ _ _ _ _ (nw_5 h3 ho hm) ?_
        rw [hm, sel_f rfl, sel_f rfl] at CM
        clear key h3 hm hc hp
        generalize crL true lo hi a n d c = X at *
        generalize crH true lo hi a n d c = Y at *
        go_enter Tryz.func123, Tryz.ntmps123
        go_wp2_with fail
        refine (CY _ H).mono ?_
        rintro e v ⟨rfl, hb⟩; (replace B := B.trans (hb.mono B.size)); (replace H := H.below hb); (replace D := D.below hb); (replace V := V.below hb); (replace R := R.below hb); clear hb
        (obtain ⟨h0, h1, h2, h3, h4, h5, h6, h7, h8⟩ := id H); (obtain ⟨d0, d1, d2, d3, d4⟩ := id D); (obtain ⟨v0, v1, v2, v3, v4⟩ := id V); (obtain ⟨r0, r1, r2, r3, r4, r5, r6, r7, r8⟩ := id R)
        clear CY
        go_wp2_with fail
        refine (CO _).mono ?_
        clear h0 h1 h2 h3 h4 h5 h6 h7 h8 d0 d1 d2 d3 d4 v0 v1 v2 v3 v4 r0 r1 r2 r3 r4 r5 r6 r7 r8
        rintro e v ⟨rfl, hb⟩; (replace B := B.trans (hb.mono B.size)); (replace H := H.below hb); (replace D := D.below hb); (replace V := V.below hb); (replace R := R.below hb); clear hb
        (obtain ⟨h0, h1, h2, h3, h4, h5, h6, h7, h8⟩ := id H); (obtain ⟨d0, d1, d2, d3, d4⟩ := id D); (obtain ⟨v0, v1, v2, v3, v4⟩ := id V); (obtain ⟨r0, r1, r2, r3, r4, r5, r6, r7, r8⟩ := id R)
        go_wp2_with fail
        refine (CC _ H).mono ?_
        clear h0 h1 h2 h3 h4 h5 h6 h7 h8 d0 d1 d2 d3 d4 v0 v1 v2 v3 v4 r0 r1 r2 r3 r4 r5 r6 r7 r8
        rintro e v ⟨rfl, hb⟩; (replace B := B.trans (hb.mono B.size)); (replace H := H.below hb); (replace D := D.below hb); (replace V := V.below hb); (replace R := R.below hb); clear hb
        (obtain ⟨h0, h1, h2, h3, h4, h5, h6, h7, h8⟩ := id H); (obtain ⟨d0, d1, d2, d3, d4⟩ := id D); (obtain ⟨v0, v1, v2, v3, v4⟩ := id V); (obtain ⟨r0, r1, r2, r3, r4, r5, r6, r7, r8⟩ := id R)
        clear CC
        go_wp2_with fail
        refine (CM _).mono ?_
        clear h0 h1 h2 h3 h4 h5 h6 h7 h8 d0 d1 d2 d3 d4 v0 v1 v2 v3 v4 r0 r1 r2 r3 r4 r5 r6 r7 r8
        replace H := H.alloc (.cells #[.int .i64 X, .int .i64 Y] 46)
        replace D := D.alloc (.cells #[.int .i64 X, .int .i64 Y] 46)
        replace V := V.alloc (.cells #[.int .i64 X, .int .i64 Y] 46)
        replace R := R.alloc (.cells #[.int .i64 X, .int .i64 Y] 46)
        replace B := B.alloc B.size (.cells #[.int .i64 X, .int .i64 Y] 46)
        rintro e v ⟨rfl, hb⟩; (replace B := B.trans (hb.mono B.size)); (replace H := H.below hb); (replace D := D.below hb); (replace V := V.below hb); (replace R := R.below hb); clear hb
        replace R := R.alloc (.cells #[.int .i64 0, .int .i64 0] 46)
        (obtain ⟨h0, h1, h2, h3, h4, h5, h6, h7, h8⟩ := id H); (obtain ⟨d0, d1, d2, d3, d4⟩ := id D); (obtain ⟨v0, v1, v2, v3, v4⟩ := id V); (obtain ⟨r0, r1, r2, r3, r4, r5, r6, r7, r8⟩ := id R)
        go_wp2
        exact bodyPost_ret (v := .tuple #[.agg #[.bool false, .int .i64 0, .int .i64 0, .int .i64 0], .int .i64 5]) (by simp (maxDischargeDepth := 6) [results, Tryz.results123, go_sem, *]) rfl ⟨rfl, by repeat (first | exact B | refine Below.drew ?_ | refine Below.alloc ?_ (by first | (simp; done) | (simp; omega) | omega) _ | refine Below.setCell ?_ (by first | (simp; done) | (simp; omega) | omega) _)⟩
      · refine key _ _ _ _ _ (nw_0 h3 ho hm) ?_
        rw [hm, sel_t rfl, sel_t rfl] at CM
        clear key h3 hm hc hp
        generalize crL true lo hi a n d c = X at *
        generalize crH true lo hi a n d c = Y at *
        generalize imx X x = P at *
        generalize imn Y y = Q at *
        go_enter Tryz.func123, Tryz.ntmps123
        go_wp2_with fail
        refine (CY _ H).mono ?_
        rintro e v ⟨rfl, hb⟩; (replace B := B.trans (hb.mono B.size)); (replace H := H.below hb); (replace D := D.below hb); (replace V := V.below hb); (replace R := R.below hb); clear hb
        (obtain ⟨h0, h1, h2, h3, h4, h5, h6, h7, h8⟩ := id H); (obtain ⟨d0, d1, d2, d3, d4⟩ := id D); (obtain ⟨v0, v1, v2, v3, v4⟩ := id V); (obtain ⟨r0, r1, r2, r3, r4, r5, r6, r7, r8⟩ := id R)
        clear CY
        go_wp2_with fail
        refine (CO _).mono ?_
        clear h0 h1 h2 h3 h4 h5 h6 h7 h8 d0 d1 d2 d3 d4 v0 v1 v2 v3 v4 r0 r1 r2 r3 r4 r5 r6 r7 r8
        rintro e v ⟨rfl, hb⟩; (replace B := B.trans (hb.mono B.size)); (replace H := H.below hb); (replace D := D.below hb); (replace V := V.below hb); (replace R := R.below hb); clear hb
        (obtain ⟨h0, h1, h2, h3, h4, h5, h6, h7, h8⟩ := id H); (obtain ⟨d0, d1, d2, d3, d4⟩ := id D); (obtain ⟨v0, v1, v2, v3, v4⟩ := id V); (obtain ⟨r0, r1, r2, r3, r4, r5, r6, r7, r8⟩ := id R)
        go_wp2_with fail
        refine (CC _ H).mono ?_
        clear h0 h1 h2 h3 h4 h5 h6 h7 h8 d0 d1 d2 d3 d4 v0 v1 v2 v3 v4 r0 r1 r2 r3 r4 r5 r6 r7 r8
        rintro e v ⟨rfl, hb⟩; (replace B := B.trans (hb.mono B.size)); (replace H := H.below hb); (replace D := D.below hb); (replace V := V.below hb); (replace R := R.below hb); clear hb
        (obtain ⟨h0, h1, h2, h3, h4, h5, h6, h7, h8⟩ := id H); (obtain ⟨d0, d1, d2, d3, d4⟩ := id D); (obtain ⟨v0, v1, v2, v3, v4⟩ := id V); (obtain ⟨r0, r1, r2, r3, r4, r5, r6, r7, r8⟩ := id R)
        clear CC
        go_wp2_with fail
        refine (CM _).mono ?_
        clear h0 h1 h2 h3 h4 h5 h6 h7 h8 d0 d1 d2 d3 d4 v0 v1 v2 v3 v4 r0 r1 r2 r3 r4 r5 r6 r7 r8
        replace H := H.alloc (.cells #[.int .i64 X, .int .i64 Y] 46)
        replace D := D.alloc (.cells #[.int .i64 X, .int .i64 Y] 46)
        replace V := V.alloc (.cells #[.int .i64 X, .int .i64 Y] 46)
        replace R := R.alloc (.cells #[.int .i64 X, .int .i64 Y] 46)
        replace B := B.alloc B.size (.cells #[.int .i64 X, .int .i64 Y] 46)
        rintro e v ⟨rfl, hb⟩; (replace B := B.trans (hb.mono B.size)); (replace H := H.below hb); (replace D := D.below hb); (replace V := V.below hb); (replace R := R.below hb); clear hb
        (obtain ⟨h0, h1, h2, h3, h4, h5, h6, h7, h8⟩ := id H); (obtain ⟨d0, d1, d2, d3, d4⟩ := id D); (obtain ⟨v0, v1, v2, v3, v4⟩ := id V); (obtain ⟨r0, r1, r2, r3, r4, r5, r6, r7, r8⟩ := id R)
        go_wp2_with fail
        refine (knownAt_any _ _ _ _).mono ?_
        clear h0 h1 h2 h3 h4 h5 h6 h7 h8 d0 d1 d2 d3 d4 v0 v1 v2 v3 v4 r0 r1 r2 r3 r4 r5 r6 r7 r8
        replace H := H.alloc (.cells #[.int .i64 P, .int .i64 Q] 46)
        replace D := D.alloc (.cells #[.int .i64 P, .int .i64 Q] 46)
        replace V := V.alloc (.cells #[.int .i64 P, .int .i64 Q] 46)
        replace R := R.alloc (.cells #[.int .i64 P, .int .i64 Q] 46)
        replace B := B.alloc B.size (.cells #[.int .i64 P, .int .i64 Q] 46)
        rintro e v ⟨rfl, hb⟩; (replace B := B.trans (hb.mono B.size)); (replace H := H.below hb); (replace D := D.below hb); (replace V := V.below hb); (replace R := R.below hb); clear hb
        (obtain ⟨h0, h1, h2, h3, h4, h5, h6, h7, h8⟩ := id H); (obtain ⟨d0, d1, d2, d3, d4⟩ := id D); (obtain ⟨v0, v1, v2, v3, v4⟩ := id V); (obtain ⟨r0, r1, r2, r3, r4, r5, r6, r7, r8⟩ := id R)
        go_wp2
        exact bodyPost_ret (v := .tuple #[.agg #[.bool true, .int .i64 P, .int .i64 Q, .int .i64 c], .int .i64 0]) (by simp (maxDischargeDepth := 6) [results, Tryz.results123, go_sem, *]) rfl ⟨rfl, by repeat (first | exact B | refine Below.drew ?_ | refine Below.alloc ?_ (by first | (simp; done) | (simp; omega) | omega) _ | refine Below.setCell ?_ (by first | (simp; done) | (simp; omega) | omega) _)⟩
    · have h1 : crC true lo hi a n d c ≠ 1 := by rcases hc with h | h | h <;> rw [h] <;> decide
      have h2 : crC true lo hi a n d c ≠ 2 := by rcases hc with h | h | h <;> rw [h] <;> decide
      refine key _ _ _ _ _ (nw_3 h1 h2 h3 ho) ?_
      clear key hc hp h1 h2
      generalize crL true lo hi a n d c = X at *
      generalize crH true lo hi a n d c = Y at *
      generalize crC true lo hi a n d c = Z at *
      go_enter Tryz.func123, Tryz.ntmps123
      go_wp2_with fail
      refine (CY _ H).mono ?_
      rintro e v ⟨rfl, hb⟩; (replace B := B.trans (hb.mono B.size)); (replace H := H.below hb); (replace D := D.below hb); (replace V := V.below hb); (replace R := R.below hb); clear hb
      (obtain ⟨h0, h1, h2, h3, h4, h5, h6, h7, h8⟩ := id H); (obtain ⟨d0, d1, d2, d3, d4⟩ := id D); (obtain ⟨v0, v1, v2, v3, v4⟩ := id V); (obtain ⟨r0, r1, r2, r3, r4, r5, r6, r7, r8⟩ := id R)
      clear CY
      go_wp2_with fail
      refine (CO _).mono ?_
      clear h0 h1 h2 h3 h4 h5 h6 h7 h8 d0 d1 d2 d3 d4 v0 v1 v2 v3 v4 r0 r1 r2 r3 r4 r5 r6 r7 r8
      rintro e v ⟨rfl, hb⟩; (replace B := B.trans (hb.mono B.size)); (replace H := H.below hb); (replace D := D.below hb); (replace V := V.below hb); (replace R := R.below hb); clear hb
      (obtain ⟨h0, h1, h2, h3, h4, h5, h6, h7, h8⟩ := id H); (obtain ⟨d0, d1, d2, d3, d4⟩ := id D); (obtain ⟨v0, v1, v2, v3, v4⟩ := id V); (obtain ⟨r0, r1, r2, r3, r4, r5, r6, r7, r8⟩ := id R)
      go_wp2_with fail
      refine (CC _ H).mono ?_
      clear h0 h1 h2 h3 h4 h5 h6 h7 h8 d0 d1 d2 d3 d4 v0 v1 v2 v3 v4 r0 r1 r2 r3 r4 r5 r6 r7 r8
      rintro e v ⟨rfl, hb⟩; (replace B := B.trans (hb.mono B.size)); (replace H := H.below hb); (replace D := D.below hb); (replace V := V.below hb); (replace R := R.below hb); clear hb
      replace R := R.alloc (.cells #[.int .i64 X, .int .i64 Y] 46)
      have hv := B.size
      (obtain ⟨h0, h1, h2, h3, h4, h5, h6, h7, h8⟩ := id H); (obtain ⟨d0, d1, d2, d3, d4⟩ := id D); (obtain ⟨v0, v1, v2, v3, v4⟩ := id V); (obtain ⟨r0, r1, r2, r3, r4, r5, r6, r7, r8⟩ := id R)
      clear CC
      go_wp2
      exact bodyPost_ret (v := .tuple #[.agg #[.bool false, .int .i64 0, .int .i64 0, .int .i64 0], .int .i64 Z]) (by simp (maxDischargeDepth := 6) [results, Tryz.results123, go_sem, *]) rfl ⟨rfl, by repeat (first | exact B | refine Below.drew ?_ | refine Below.alloc ?_ (by first | (simp; done) | (simp; omega) | omega) _ | refine Below.setCell ?_ (by first | (simp; done) | (simp; omega) | omega) _)⟩
end Go.Proofs.YtfhappkeipcemaaGreat
