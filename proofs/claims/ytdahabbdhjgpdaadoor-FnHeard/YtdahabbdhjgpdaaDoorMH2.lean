/- Contracts of the four roundings of chapter 2. Who was heard: numbers. A set of small numbers as the bits of one number. Bit sets in the program: one bit more, the lowest bit, an atomic of its own. What the listed tables give; a world in which they stand. Rows of what was heard: what the laws make of them; an append of one. -/
import Derived.Test.YtdahabbdhjgpdaaDoorMH1
import Derived.WalkKit
import Derived.WalkSpells
import Derived.WalkLawsBesides
import Derived.Deep.RegionHeld
import Derived.Lib.TrailingZeros
import Derived.Laws.BitsAllLaws
import Derived.Laws.LoneSync
import Derived.Deep.OwnRows
import Derived.Laws.ShiftsVarLaws
import Derived.Laws.Pointers
import Derived.Deep.RegionHeld3
import Derived.Deep.DeepCutAuto
import Derived.Test.YtdahabbdhjgpdaaDoorRows
import Derived.Stop.LaidErr
import Derived.Stop.LaidTwo
import Derived.LaidLaws
import Derived.LaidSub
import Derived.LaidHandle
import Derived.OpenShut
import Derived.RowKitTokens
import Derived.Deep.DeepAppendRoom
namespace Go.Proofs.YtdahabbdhjgpdaaDoor
open Go.RowKit
set_option linter.unusedVariables false
def rB (n d x r : Int) : Bool := okD n d && okT x && okT r
theorem rB_d {n d x r : Int} (h : okD n d = false) : rB n d x r = false := by simp [rB, h]
theorem rB_t {n d x r : Int} (h : okT x = false) : rB n d x r = false := by simp [rB, h]
theorem rB_r {n d x r : Int} (h : okD n d = true) (h' : okT x = true) : rB n d x r = okT r := by simp [rB, h, h']
set_option maxHeartbeats 1000000 in
theorem turned_f (n d x tuu fr : Int) (fv : Value) (w : World) (h : (okD n d && okT x) = false) :
    Calls Tryd.prog 108 #[.agg #[.int .i64 n, .int .i64 d], .int .i64 x, .int .i64 tuu, .int .i64 fr, fv] w fun e w' => e = .returned (.tuple #[.int .i64 0, .bool false]) ∧ Below w.heap.size w w' := by
  cases ho : okD n d
  · go_enter Tryd.func108, Tryd.ntmps108
    go_wp2_with (first | (go_at_call 82; refine (okd_any _ _ _).mono ?_; rintro e w' ⟨rfl, hb⟩; obtain ⟨hc, hf⟩ := bcell hb; (first | have hB := Below.trans (Below.trans hB (by repeat (first | exact Below.refl _ _ | refine Below.drew ?_ | refine Below.alloc ?_ (by first | (simp; done) | (simp; omega) | omega) _ | refine Below.setCell ?_ (by first | (simp; done) | (simp; omega) | omega) _ | refine Below.trans ?_ (Below.mono (by assumption) (by first | (simp; done) | (simp; omega) | omega))))) (Below.mono hb (by first | (simp; done) | (simp; omega) | omega)) | have hB := hb); obtain ⟨hC, hF⟩ := bcell hB; have hz := hb.size; (try simp at hz); (try (have hz0 : w.heap.size < w'.heap.size := by omega)); (try (have hz1 : w.heap.size + 1 < w'.heap.size := by omega)); (try (have hz2 : w.heap.size + 1 + 1 < w'.heap.size := by omega)); (try (have hz3 : w.heap.size + 1 + 1 + 1 < w'.heap.size := by omega))) | (go_at_call 45; refine (isTime_any _ _).mono ?_; rintro e w' ⟨rfl, rfl⟩))
    go_ret2
    exact ⟨rfl, by repeat (first | exact Below.refl _ _ | refine Below.drew ?_ | refine Below.alloc ?_ (by first | (simp; done) | (simp; omega) | omega) _ | refine Below.setCell ?_ (by first | (simp; done) | (simp; omega) | omega) _ | refine Below.trans ?_ (Below.mono (by assumption) (by first | (simp; done) | (simp; omega) | omega)))⟩
  · have ht : okT x = false := by simpa [ho] using h
    go_enter Tryd.func108, Tryd.ntmps108
    go_wp2_with (first | (go_at_call 82; refine (okd_any _ _ _).mono ?_; rintro e w' ⟨rfl, hb⟩; obtain ⟨hc, hf⟩ := bcell hb; (first | have hB := Below.trans (Below.trans hB (by repeat (first | exact Below.refl _ _ | refine Below.drew ?_ | refine Below.alloc ?_ (by first | (simp; done) | (simp; omega) | omega) _ | refine Below.setCell ?_ (by first | (simp; done) | (simp; omega) | omega) _ | refine Below.trans ?_ (Below.mono (by assumption) (by first | (simp; done) | (simp; omega) | omega))))) (Below.mono hb (by first | (simp; done) | (simp; omega) | omega)) | have hB := hb); obtain ⟨hC, hF⟩ := bcell hB; have hz := hb.size; (try simp at hz); (try (have hz0 : w.heap.size < w'.heap.size := by omega)); (try (have hz1 : w.heap.size + 1 < w'.heap.size := by omega)); (try (have hz2 : w.heap.size + 1 + 1 < w'.heap.size := by omega)); (try (have hz3 : w.heap.size + 1 + 1 + 1 < w'.heap.size := by omega))) | (go_at_call 45; refine (isTime_any _ _).mono ?_; rintro e w' ⟨rfl, rfl⟩))
    go_ret2
    exact ⟨rfl, by repeat (first | exact Below.refl _ _ | refine Below.drew ?_ | refine Below.alloc ?_ (by first | (simp; done) | (simp; omega) | omega) _ | refine Below.setCell ?_ (by first | (simp; done) | (simp; omega) | omega) _ | refine Below.trans ?_ (Below.mono (by assumption) (by first | (simp; done) | (simp; omega) | omega)))⟩
set_option maxHeartbeats 1000000 in
theorem turned_up (n d x tuu fr : Int) (w : World) (ho : okD n d = true) (ht : okT x = true) (h1 : 0 ≤ x * tuu) (h2 : x * tuu ≤ 4000000000000000000) (h3 : 0 < fr) (h4 : fr ≤ 4000000000000000000) :
    Calls Tryd.prog 108 #[.agg #[.int .i64 n, .int .i64 d], .int .i64 x, .int .i64 tuu, .int .i64 fr, .func (.func 110) #[] #[]] w fun e w' => e = .returned (.tuple #[.int .i64 (sel (okT (upI (x * tuu) fr)) (upI (x * tuu) fr)), .bool (okT (upI (x * tuu) fr))]) ∧ Below w.heap.size w w' := by
  cases hr : okT (upI (x * tuu) fr)
  · rw [sel_f rfl]
    go_enter Tryd.func108, Tryd.ntmps108
    go_wp2_with (first | (go_at_call 82; refine (okd_any _ _ _).mono ?_; rintro e w' ⟨rfl, hb⟩; obtain ⟨hc, hf⟩ := bcell hb; (first | have hB := Below.trans (Below.trans hB (by repeat (first | exact Below.refl _ _ | refine Below.drew ?_ | refine Below.alloc ?_ (by first | (simp; done) | (simp; omega) | omega) _ | refine Below.setCell ?_ (by first | (simp; done) | (simp; omega) | omega) _ | refine Below.trans ?_ (Below.mono (by assumption) (by first | (simp; done) | (simp; omega) | omega))))) (Below.mono hb (by first | (simp; done) | (simp; omega) | omega)) | have hB := hb); obtain ⟨hC, hF⟩ := bcell hB; have hz := hb.size; (try simp at hz); (try (have hz0 : w.heap.size < w'.heap.size := by omega)); (try (have hz1 : w.heap.size + 1 < w'.heap.size := by omega)); (try (have hz2 : w.heap.size + 1 + 1 < w'.heap.size := by omega)); (try (have hz3 : w.heap.size + 1 + 1 + 1 < w'.heap.size := by omega))) | (go_at_call 45; refine (isTime_any _ _).mono ?_; rintro e w' ⟨rfl, rfl⟩) | (go_at_call 110; refine (implUp_any _ _ _ (by omega) (by omega) (by omega) (by omega)).mono ?_; rintro e w' ⟨rfl, rfl⟩))
    go_ret2
    exact ⟨rfl, by repeat (first | exact Below.refl _ _ | refine Below.drew ?_ | refine Below.alloc ?_ (by first | (simp; done) | (simp; omega) | omega) _ | refine Below.setCell ?_ (by first | (simp; done) | (simp; omega) | omega) _ | refine Below.trans ?_ (Below.mono (by assumption) (by first | (simp; done) | (simp; omega) | omega)))⟩
  · rw [sel_t rfl]
    go_enter Tryd.func108, Tryd.ntmps108
    go_wp2_with (first | (go_at_call 82; refine (okd_any _ _ _).mono ?_; rintro e w' ⟨rfl, hb⟩; obtain ⟨hc, hf⟩ := bcell hb; (first | have hB := Below.trans (Below.trans hB (by repeat (first | exact Below.refl _ _ | refine Below.drew ?_ | refine Below.alloc ?_ (by first | (simp; done) | (simp; omega) | omega) _ | refine Below.setCell ?_ (by first | (simp; done) | (simp; omega) | omega) _ | refine Below.trans ?_ (Below.mono (by assumption) (by first | (simp; done) | (simp; omega) | omega))))) (Below.mono hb (by first | (simp; done) | (simp; omega) | omega)) | have hB := hb); obtain ⟨hC, hF⟩ := bcell hB; have hz := hb.size; (try simp at hz); (try (have hz0 : w.heap.size < w'.heap.size := by omega)); (try (have hz1 : w.heap.size + 1 < w'.heap.size := by omega)); (try (have hz2 : w.heap.size + 1 + 1 < w'.heap.size := by omega)); (try (have hz3 : w.heap.size + 1 + 1 + 1 < w'.heap.size := by omega))) | (go_at_call 45; refine (isTime_any _ _).mono ?_; rintro e w' ⟨rfl, rfl⟩) | (go_at_call 110; refine (implUp_any _ _ _ (by omega) (by omega) (by omega) (by omega)).mono ?_; rintro e w' ⟨rfl, rfl⟩))
    go_ret2
    exact ⟨rfl, by repeat (first | exact Below.refl _ _ | refine Below.drew ?_ | refine Below.alloc ?_ (by first | (simp; done) | (simp; omega) | omega) _ | refine Below.setCell ?_ (by first | (simp; done) | (simp; omega) | omega) _ | refine Below.trans ?_ (Below.mono (by assumption) (by first | (simp; done) | (simp; omega) | omega)))⟩
set_option maxHeartbeats 1000000 in
theorem specLeastTime_any (n d x : Int) (w : World) :
    Calls Tryd.prog 61 #[.agg #[.int .i64 n, .int .i64 d], .int .i64 x] w fun e w' => e = .returned (.tuple #[.int .i64 (sel (rB n d x (upI (x * d) (d + n))) (upI (x * d) (d + n))), .bool (rB n d x (upI (x * d) (d + n)))]) ∧ Below w.heap.size w w' := by
  cases ho : okD n d
  · rw [rB_d ho, sel_f rfl]
    go_enter Tryd.func61, Tryd.ntmps61
    go_wp2_with (first | (go_at_call 87; refine (specDriftOk_any _ _ _).mono ?_; rintro e w' ⟨rfl, hb⟩; obtain ⟨hc, hf⟩ := bcell hb; (first | have hB := Below.trans (Below.trans hB (by repeat (first | exact Below.refl _ _ | refine Below.drew ?_ | refine Below.alloc ?_ (by first | (simp; done) | (simp; omega) | omega) _ | refine Below.setCell ?_ (by first | (simp; done) | (simp; omega) | omega) _ | refine Below.trans ?_ (Below.mono (by assumption) (by first | (simp; done) | (simp; omega) | omega))))) (Below.mono hb (by first | (simp; done) | (simp; omega) | omega)) | have hB := hb); obtain ⟨hC, hF⟩ := bcell hB; have hz := hb.size; (try simp at hz); (try (have hz0 : w.heap.size < w'.heap.size := by omega)); (try (have hz1 : w.heap.size + 1 < w'.heap.size := by omega)); (try (have hz2 : w.heap.size + 1 + 1 < w'.heap.size := by omega)); (try (have hz3 : w.heap.size + 1 + 1 + 1 < w'.heap.size := by omega))) | (go_at_call 51; refine (l2Time_any _ _).mono ?_; rintro e w' ⟨rfl, rfl⟩))
    go_ret2
    exact ⟨rfl, by repeat (first | exact Below.refl _ _ | refine Below.drew ?_ | refine Below.alloc ?_ (by first | (simp; done) | (simp; omega) | omega) _ | refine Below.setCell ?_ (by first | (simp; done) | (simp; omega) | omega) _ | refine Below.trans ?_ (Below.mono (by assumption) (by first | (simp; done) | (simp; omega) | omega)))⟩
  cases ht : okT x
  · rw [rB_t ht, sel_f rfl]
    go_enter Tryd.func61, Tryd.ntmps61
    go_wp2_with (first | (go_at_call 87; refine (specDriftOk_any _ _ _).mono ?_; rintro e w' ⟨rfl, hb⟩; obtain ⟨hc, hf⟩ := bcell hb; (first | have hB := Below.trans (Below.trans hB (by repeat (first | exact Below.refl _ _ | refine Below.drew ?_ | refine Below.alloc ?_ (by first | (simp; done) | (simp; omega) | omega) _ | refine Below.setCell ?_ (by first | (simp; done) | (simp; omega) | omega) _ | refine Below.trans ?_ (Below.mono (by assumption) (by first | (simp; done) | (simp; omega) | omega))))) (Below.mono hb (by first | (simp; done) | (simp; omega) | omega)) | have hB := hb); obtain ⟨hC, hF⟩ := bcell hB; have hz := hb.size; (try simp at hz); (try (have hz0 : w.heap.size < w'.heap.size := by omega)); (try (have hz1 : w.heap.size + 1 < w'.heap.size := by omega)); (try (have hz2 : w.heap.size + 1 + 1 < w'.heap.size := by omega)); (try (have hz3 : w.heap.size + 1 + 1 + 1 < w'.heap.size := by omega))) | (go_at_call 51; refine (l2Time_any _ _).mono ?_; rintro e w' ⟨rfl, rfl⟩))
    go_ret2
    exact ⟨rfl, by repeat (first | exact Below.refl _ _ | refine Below.drew ?_ | refine Below.alloc ?_ (by first | (simp; done) | (simp; omega) | omega) _ | refine Below.setCell ?_ (by first | (simp; done) | (simp; omega) | omega) _ | refine Below.trans ?_ (Below.mono (by assumption) (by first | (simp; done) | (simp; omega) | omega)))⟩
  rw [rB_r ho ht]
  have ⟨d1, d2, d3, d4⟩ := okD_t ho
  have ⟨t1, t2⟩ := okT_t ht
  have ⟨m1, m2⟩ := mul_bd (x := x) (y := d) (X := 1000000000000) (Y := 2000000) (by omega) (by omega) (by omega) (by omega)
  have ⟨v1, v2⟩ := upI_bd (x := x * d) (n := d + n) m1 (by omega)
  go_enter Tryd.func61, Tryd.ntmps61
  go_wp2_with (first | (go_at_call 87; refine (specDriftOk_any _ _ _).mono ?_; rintro e w' ⟨rfl, hb⟩; obtain ⟨hc, hf⟩ := bcell hb; (first | have hB := Below.trans (Below.trans hB (by repeat (first | exact Below.refl _ _ | refine Below.drew ?_ | refine Below.alloc ?_ (by first | (simp; done) | (simp; omega) | omega) _ | refine Below.setCell ?_ (by first | (simp; done) | (simp; omega) | omega) _ | refine Below.trans ?_ (Below.mono (by assumption) (by first | (simp; done) | (simp; omega) | omega))))) (Below.mono hb (by first | (simp; done) | (simp; omega) | omega)) | have hB := hb); obtain ⟨hC, hF⟩ := bcell hB; have hz := hb.size; (try simp at hz); (try (have hz0 : w.heap.size < w'.heap.size := by omega)); (try (have hz1 : w.heap.size + 1 < w'.heap.size := by omega)); (try (have hz2 : w.heap.size + 1 + 1 < w'.heap.size := by omega)); (try (have hz3 : w.heap.size + 1 + 1 + 1 < w'.heap.size := by omega))) | (go_at_call 51; refine (l2Time_any _ _).mono ?_; rintro e w' ⟨rfl, rfl⟩) | (go_at_call 89; refine (l1Up_any _ _ _ (by omega) (by omega) (by omega) (by omega)).mono ?_; rintro e w' ⟨rfl, rfl⟩) | (go_at_call 88; refine (l2Told_any _ _ (by first | assumption | (simp only [← dnI]; assumption) | omega)).mono ?_; rintro e w' ⟨rfl, rfl⟩))
  go_ret2
  exact ⟨rfl, by repeat (first | exact Below.refl _ _ | refine Below.drew ?_ | refine Below.alloc ?_ (by first | (simp; done) | (simp; omega) | omega) _ | refine Below.setCell ?_ (by first | (simp; done) | (simp; omega) | omega) _ | refine Below.trans ?_ (Below.mono (by assumption) (by first | (simp; done) | (simp; omega) | omega)))⟩
set_option maxHeartbeats 2000000 in
theorem implLeastTime_any (n d x : Int) (w : World) :
    Calls Tryd.prog 101 #[.agg #[.int .i64 n, .int .i64 d], .int .i64 x] w fun e w' => e = .returned (.tuple #[.int .i64 (sel (rB n d x (upI (x * d) (d + n))) (upI (x * d) (d + n))), .bool (rB n d x (upI (x * d) (d + n)))]) ∧ Below w.heap.size w w' := by
  cases hg : okD n d && okT x
  · rw [show rB n d x (upI (x * d) (d + n)) = false by simp [rB, hg], sel_f rfl]
    go_enter Tryd.func101, Tryd.ntmps101
    go_wp2_with fail
    go_region_held (fun w' => w'.cell? ⟨w.heap.size, 0, none⟩ = some (.int .i64 n) ∧ w'.cell? ⟨w.heap.size, 1, none⟩ = some (.int .i64 d)) (simp (maxDischargeDepth := 6) [go_sem, *]) (first | (go_at_call 109; refine (fastest_wrap _ _ _).mono ?_; rintro e w' ⟨rfl, hb⟩; obtain ⟨hc, hf⟩ := bcell hb; (first | have hB := Below.trans (Below.trans hB (by repeat (first | exact Below.refl _ _ | refine Below.drew ?_ | refine Below.alloc ?_ (by first | (simp; done) | (simp; omega) | omega) _ | refine Below.setCell ?_ (by first | (simp; done) | (simp; omega) | omega) _ | refine Below.trans ?_ (Below.mono (by assumption) (by first | (simp; done) | (simp; omega) | omega))))) (Below.mono hb (by first | (simp; done) | (simp; omega) | omega)) | have hB := hb); obtain ⟨hC, hF⟩ := bcell hB; have hz := hb.size; (try simp at hz); (try (have hz0 : w.heap.size < w'.heap.size := by omega)); (try (have hz1 : w.heap.size + 1 < w'.heap.size := by omega)); (try (have hz2 : w.heap.size + 1 + 1 < w'.heap.size := by omega)); (try (have hz3 : w.heap.size + 1 + 1 + 1 < w'.heap.size := by omega))) | (go_at_call 108; refine (turned_f _ _ _ _ _ _ _ hg).mono ?_; rintro e w' ⟨rfl, hb⟩; obtain ⟨hc, hf⟩ := bcell hb; (first | have hB := Below.trans (Below.trans hB (by repeat (first | exact Below.refl _ _ | refine Below.drew ?_ | refine Below.alloc ?_ (by first | (simp; done) | (simp; omega) | omega) _ | refine Below.setCell ?_ (by first | (simp; done) | (simp; omega) | omega) _ | refine Below.trans ?_ (Below.mono (by assumption) (by first | (simp; done) | (simp; omega) | omega))))) (Below.mono hb (by first | (simp; done) | (simp; omega) | omega)) | have hB := hb); obtain ⟨hC, hF⟩ := bcell hB; have hz := hb.size; (try simp at hz); (try (have hz0 : w.heap.size < w'.heap.size := by omega)); (try (have hz1 : w.heap.size + 1 < w'.heap.size := by omega)); (try (have hz2 : w.heap.size + 1 + 1 < w'.heap.size := by omega)); (try (have hz3 : w.heap.size + 1 + 1 + 1 < w'.heap.size := by omega))))
    all_goals go_wp2
    all_goals go_ret2
    all_goals exact ⟨rfl, by repeat (first | exact Below.refl _ _ | refine Below.drew ?_ | refine Below.alloc ?_ (by first | (simp; done) | (simp; omega) | omega) _ | refine Below.setCell ?_ (by first | (simp; done) | (simp; omega) | omega) _ | refine Below.trans ?_ (Below.mono (by assumption) (by first | (simp; done) | (simp; omega) | omega)))⟩
  have ho : okD n d = true := by simp at hg; exact hg.1
  have ht : okT x = true := by simp at hg; exact hg.2
  rw [rB_r ho ht]
  have ⟨d1, d2, d3, d4⟩ := okD_t ho
  have ⟨t1, t2⟩ := okT_t ht
  have ⟨m1, m2⟩ := mul_bd (x := x) (y := d) (X := 1000000000000) (Y := 2000000) (by omega) (by omega) (by omega) (by omega)
  go_enter Tryd.func101, Tryd.ntmps101
  go_wp2_with fail
  go_region_held (fun w' => w'.cell? ⟨w.heap.size, 0, none⟩ = some (.int .i64 n) ∧ w'.cell? ⟨w.heap.size, 1, none⟩ = some (.int .i64 d)) (simp (maxDischargeDepth := 6) [go_sem, *]) (first | (go_at_call 109; refine (fastest_any _ _ _ ho).mono ?_; rintro e w' ⟨rfl, hb⟩; obtain ⟨hc, hf⟩ := bcell hb; (first | have hB := Below.trans (Below.trans hB (by repeat (first | exact Below.refl _ _ | refine Below.drew ?_ | refine Below.alloc ?_ (by first | (simp; done) | (simp; omega) | omega) _ | refine Below.setCell ?_ (by first | (simp; done) | (simp; omega) | omega) _ | refine Below.trans ?_ (Below.mono (by assumption) (by first | (simp; done) | (simp; omega) | omega))))) (Below.mono hb (by first | (simp; done) | (simp; omega) | omega)) | have hB := hb); obtain ⟨hC, hF⟩ := bcell hB; have hz := hb.size; (try simp at hz); (try (have hz0 : w.heap.size < w'.heap.size := by omega)); (try (have hz1 : w.heap.size + 1 < w'.heap.size := by omega)); (try (have hz2 : w.heap.size + 1 + 1 < w'.heap.size := by omega)); (try (have hz3 : w.heap.size + 1 + 1 + 1 < w'.heap.size := by omega))) | (go_at_call 108; refine (turned_up _ _ _ _ _ _ ho ht (by omega) (by omega) (by omega) (by omega)).mono ?_; rintro e w' ⟨rfl, hb⟩; obtain ⟨hc, hf⟩ := bcell hb; (first | have hB := Below.trans (Below.trans hB (by repeat (first | exact Below.refl _ _ | refine Below.drew ?_ | refine Below.alloc ?_ (by first | (simp; done) | (simp; omega) | omega) _ | refine Below.setCell ?_ (by first | (simp; done) | (simp; omega) | omega) _ | refine Below.trans ?_ (Below.mono (by assumption) (by first | (simp; done) | (simp; omega) | omega))))) (Below.mono hb (by first | (simp; done) | (simp; omega) | omega)) | have hB := hb); obtain ⟨hC, hF⟩ := bcell hB; have hz := hb.size; (try simp at hz); (try (have hz0 : w.heap.size < w'.heap.size := by omega)); (try (have hz1 : w.heap.size + 1 < w'.heap.size := by omega)); (try (have hz2 : w.heap.size + 1 + 1 < w'.heap.size := by omega)); (try (have hz3 : w.heap.size + 1 + 1 + 1 < w'.heap.size := by omega))))
  all_goals go_wp2
  all_goals go_ret2
  all_goals exact ⟨rfl, by repeat (first | exact Below.refl _ _ | refine Below.drew ?_ | refine Below.alloc ?_ (by first | (simp; done) | (simp; omega) | omega) _ | refine Below.setCell ?_ (by first | (simp; done) | (simp; omega) | omega) _ | refine Below.trans ?_ (Below.mono (by assumption) (by first | (simp; done) | (simp; omega) | omega)))⟩
end Go.Proofs.YtdahabbdhjgpdaaDoor
namespace Go.Proofs.YtdahabbdhjgpdaaDoor
open Go.RowKit
set_option linter.unusedVariables false
def lsB (n d x : Int) : Bool := rB n d x (upI (x * d) (d + n))
def lsT (n d x : Int) : Int := sel (lsB n d x) (upI (x * d) (d + n))
/- What was heard: a row of pairs (the slot, the count), ascending by the slot. -/
def hrO (x : VT) : Bool := decide (0 ≤ x.1 ∧ x.1 ≤ 15) && okT x.2
def hrA (M : Nat → VT) : Nat → Bool
  | 0 => true
  | j + 1 => hrA M j && (hrO (M j) && (decide (j = 0) || decide ((M (j - 1)).1 < (M j).1)))
def hrB (M : Nat → VT) (n : Nat) : Bool := decide (n ≤ 16) && hrA M n
theorem hrA_no {M : Nat → VT} {k n : Nat} (h : hrA M (k + 1) = false) (hk : k < n) : hrA M n = false := by
  induction n with
  | zero => omega
  | succ n ih =>
    by_cases e : k = n
    · subst e; exact h
    · rw [hrA, ih (by omega)]; rfl
theorem hrB_no {M : Nat → VT} {k n : Nat} (h : hrA M (k + 1) = false) (hk : k < n) : hrB M n = false := by unfold hrB; rw [hrA_no h hk]; simp
theorem hrB_t {M : Nat → VT} {n : Nat} (h : hrB M n = true) : n ≤ 16 ∧ hrA M n = true := by
  unfold hrB at h
  simp only [Bool.and_eq_true, decide_eq_true_eq] at h
  exact h
theorem hrA_at {M : Nat → VT} {k n : Nat} (h : hrA M n = true) (hk : k < n) : hrO (M k) = true ∧ (k = 0 ∨ (M (k - 1)).1 < (M k).1) := by
  cases e : hrA M (k + 1)
  · rw [hrA_no e hk] at h; exact absurd h (by decide)
  · rw [hrA] at e
    simp only [Bool.and_eq_true, Bool.or_eq_true, decide_eq_true_eq] at e
    exact ⟨e.2.1, e.2.2⟩
theorem hrO_t {x : VT} (h : hrO x = true) : (0 ≤ x.1 ∧ x.1 ≤ 15) ∧ (0 ≤ x.2 ∧ x.2 ≤ 1000000000000) := by
  unfold hrO okT at h
  simp at h
  omega
theorem hr_asc {M : Nat → VT} {n : Nat} (h : hrA M n = true) : ∀ {i j : Nat}, i < j → j < n → (M i).1 < (M j).1 := by
  intro i j hij hj
  induction j with
  | zero => omega
  | succ j ih =>
    have h1 := (hrA_at h hj).2
    rw [Nat.add_sub_cancel] at h1
    rcases h1 with q | q
    · omega
    · by_cases e : i = j
      · subst e; exact q
      · have := ih (by omega) (by omega); omega
/- The numbers of the elements that are so, in their order. -/
def fiL (P : Nat → Bool) (g : Nat → Int) : Nat → List Int
  | 0 => []
  | j + 1 => match P j with | true => fiL P g j ++ [g j] | false => fiL P g j
theorem fiL_yes {P : Nat → Bool} {g : Nat → Int} {j : Nat} (h : P j = true) : fiL P g (j + 1) = fiL P g j ++ [g j] := by rw [fiL, h]
theorem fiL_no {P : Nat → Bool} {g : Nat → Int} {j : Nat} (h : P j = false) : fiL P g (j + 1) = fiL P g j := by rw [fiL, h]
theorem fiL_len (P : Nat → Bool) (g : Nat → Int) : ∀ j, (fiL P g j).length ≤ j
  | 0 => Nat.le_refl _
  | j + 1 => by
    have ih := fiL_len P g j
    cases h : P j
    · rw [fiL_no h]; exact Nat.le_succ_of_le ih
    · rw [fiL_yes h, List.length_append]; simp; exact ih
/- The numbers below one that are so, ascending. -/
def slJ (P : Nat → Bool) : Nat → List Int
  | 0 => []
  | j + 1 => match P j with | true => slJ P j ++ [(j : Int)] | false => slJ P j
theorem slJ_yes {P : Nat → Bool} {j : Nat} (h : P j = true) : slJ P (j + 1) = slJ P j ++ [(j : Int)] := by rw [slJ, h]
theorem slJ_no {P : Nat → Bool} {j : Nat} (h : P j = false) : slJ P (j + 1) = slJ P j := by rw [slJ, h]
theorem slJ_len (P : Nat → Bool) : ∀ j, (slJ P j).length ≤ j
  | 0 => Nat.le_refl _
  | j + 1 => by
    have ih := slJ_len P j
    cases h : P j
    · rw [slJ_no h]; exact Nat.le_succ_of_le ih
    · rw [slJ_yes h, List.length_append]; simp; exact ih
/- Whether a number is among the first of a row. -/
def hasJ (g : Nat → Int) (x : Int) : Nat → Bool
  | 0 => false
  | i + 1 => hasJ g x i || (g i == x)
theorem hasJ_yes {g : Nat → Int} {x : Int} {k n : Nat} (h : g k = x) (hk : k < n) : hasJ g x n = true := by
  induction n with
  | zero => omega
  | succ n ih =>
    rw [hasJ]
    by_cases e : k = n
    · subst e; rw [h]; simp
    · rw [ih (by omega)]; rfl
theorem hasJ_step {g : Nat → Int} {x : Int} {k : Nat} (h : hasJ g x k = false) (hn : g k ≠ x) : hasJ g x (k + 1) = false := by
  rw [hasJ, h, beq_eq_false_iff_ne.2 hn]; rfl
theorem hasJ_t {g : Nat → Int} {x : Int} : ∀ {n : Nat}, hasJ g x n = true → ∃ k, k < n ∧ g k = x
  | 0, h => by rw [hasJ] at h; exact Bool.noConfusion h
  | n + 1, h => by
    rw [hasJ, Bool.or_eq_true] at h
    rcases h with h | h
    · obtain ⟨k, hk, e⟩ := hasJ_t h
      exact ⟨k, by omega, e⟩
    · exact ⟨n, by omega, by simpa using h⟩
theorem hasJ_congr {g f : Nat → Int} {x : Int} : ∀ {n : Nat}, (∀ i, i < n → g i = f i) → hasJ g x n = hasJ f x n
  | 0, _ => rfl
  | n + 1, h => by rw [hasJ, hasJ, hasJ_congr fun i hi => h i (by omega), h n (by omega)]
/- What is heard now: not later than the count, and a round ago at most, for all that is known. -/
def slS (M : Nat → VT) (i : Nat) : Int := (M i).1
def nwP (M : Nat → VT) (s g : Int) (PM : Nat → SlT) (m : Nat) (nu de c : Int) (i : Nat) : Bool := decide ((M i).2 ≤ c) && (lsB nu de (c - (M i).2) && decide (lsT nu de (c - (M i).2) ≤ rnI s g PM m))
def rtB (M : Nat → VT) (n : Nat) (s g : Int) (PM : Nat → SlT) (m : Nat) (nu de c : Int) : Bool := hrB M n && (plB s g PM m && (okD nu de && okT c))
def nwL (M : Nat → VT) (n : Nat) (s g : Int) (PM : Nat → SlT) (m : Nat) (nu de c : Int) : List Int := match rtB M n s g PM m nu de c with | true => fiL (nwP M s g PM m nu de c) (slS M) n | false => []
def loP (L : List Int) (i : Nat) : Bool := !hasJ (gI L) (i : Int) L.length
def loL (M : Nat → VT) (n : Nat) (s g : Int) (PM : Nat → SlT) (m : Nat) (nu de c : Int) : List Int := match rtB M n s g PM m nu de c with | true => slJ (loP (nwL M n s g PM m nu de c)) m | false => []
def unP (M : Nat → VT) (n : Nat) (W : Nat → VT) (k : Nat) (i : Nat) : Bool := hasJ (slS M) (i : Int) n != hasJ (slS W) (i : Int) k
def unL (M : Nat → VT) (n : Nat) (W : Nat → VT) (k : Nat) : List Int := match hrB M n && hrB W k with | true => slJ (unP M n W k) 16 | false => []
/- The owners of heard slots. -/
def ofS (M : Nat → VT) (n : Nat) (PM : Nat → SlT) (o : Int) : Nat → Bool
  | 0 => false
  | i + 1 => ofS M n PM o i || ((PM i).1 == o && hasJ (slS M) (i : Int) n)
def owP (M : Nat → VT) (n : Nat) (PM : Nat → SlT) (m : Nat) (o : Nat) : Bool := ofS M n PM (o : Int) m
def onL (M : Nat → VT) (n : Nat) (s g : Int) (PM : Nat → SlT) (m : Nat) : List Int := match hrB M n && plB s g PM m with | true => slJ (owP M n PM m) 8 | false => []
/- A frame that is heard: whether it is one of the plan; what is heard behind it. -/
def hmB (PM : Nat → SlT) (m : Nat) (k fr tu no lo hi sl : Int) (b : ByteArray) : Bool := msgB k fr tu no lo hi sl b && (decide (k = 3) && (decide (sl < (m : Int)) && decide ((PM sl.toNat).1 = fr)))
def hgB (M : Nat → VT) (n : Nat) (s g : Int) (PM : Nat → SlT) (m : Nat) (c : Int) : Bool := hrB M n && (plB s g PM m && okT c)
def hpS (M : Nat → VT) (sl c : Int) : Nat → Bool × List VT
  | 0 => (false, [])
  | k + 1 => ((hpS M sl c k).1 || decide (sl ≤ (M k).1), ((hpS M sl c k).2 ++ (match !(hpS M sl c k).1 && decide (sl ≤ (M k).1) with | true => [(sl, c)] | false => [])) ++ (match decide ((M k).1 = sl) with | true => [] | false => [M k]))
def hpL (M : Nat → VT) (n : Nat) (sl c : Int) : List VT := (hpS M sl c n).2 ++ (match (hpS M sl c n).1 with | true => [] | false => [(sl, c)])
def lsV (M : Nat → VT) (n : Nat) : List VT := (List.range n).map M
def heC (M : Nat → VT) (n : Nat) (s g : Int) (PM : Nat → SlT) (m : Nat) (k fr tu no lo hi sl : Int) (b : ByteArray) (c : Int) : Int := match hgB M n s g PM m c with | true => (match hmB PM m k fr tu no lo hi sl b with | true => 0 | false => 2) | false => 1
def heV (M : Nat → VT) (n : Nat) (s g : Int) (PM : Nat → SlT) (m : Nat) (k fr tu no lo hi sl : Int) (b : ByteArray) (c : Int) : List VT := match hgB M n s g PM m c with | true => (match hmB PM m k fr tu no lo hi sl b with | true => hpL M n sl c | false => lsV M n) | false => []
theorem hpS_len (M : Nat → VT) (sl c : Int) : ∀ k, (hpS M sl c k).2.length ≤ 2 * k
  | 0 => Nat.le_refl _
  | k + 1 => by
    have ih := hpS_len M sl c k
    rw [hpS]
    simp only [List.length_append]
    split <;> split <;> simp <;> omega
theorem heV_len {M : Nat → VT} {n : Nat} {s g : Int} {PM : Nat → SlT} {m : Nat} {k fr tu no lo hi sl : Int} {b : ByteArray} {c : Int} : (heV M n s g PM m k fr tu no lo hi sl b c).length ≤ 33 := by
  unfold heV
  split
  · rename_i h
    unfold hgB at h
    simp only [Bool.and_eq_true] at h
    have h16 := (hrB_t h.1).1
    split
    · have := hpS_len M sl c n
      unfold hpL
      rw [List.length_append]
      split <;> simp <;> omega
    · unfold lsV; simp; omega
  · simp
end Go.Proofs.YtdahabbdhjgpdaaDoor
namespace Go.Proofs.YtdahabbdhjgpdaaDoor
open Go.RowKit
set_option linter.unusedVariables false
/- A set of small numbers as the bits of one number: an ascending list, and the number. -/
def ascF (lo : Int) : List Int → Prop
  | [] => True
  | x :: L => lo ≤ x ∧ x ≤ 15 ∧ ascF (x + 1) L
def numL : List Int → Nat
  | [] => 0
  | x :: L => 2 ^ x.toNat + numL L
theorem ascF_le {lo lo' : Int} (h : lo' ≤ lo) : ∀ {L : List Int}, ascF lo L → ascF lo' L
  | [], _ => trivial
  | x :: L, hL => ⟨Int.le_trans h hL.1, hL.2⟩
theorem num_top : ∀ {L : List Int} {lo : Int}, 0 ≤ lo → lo ≤ 16 → ascF lo L → numL L + 2 ^ lo.toNat ≤ 65536
  | [], lo, h0, h1, _ => by
    have : 2 ^ lo.toNat ≤ 2 ^ 16 := Nat.pow_le_pow_right (by decide) (by omega)
    rw [numL]; omega
  | x :: L, lo, h0, h1, h => by
    have ih := num_top (L := L) (lo := x + 1) (by have := h.1; omega) (by have := h.2.1; omega) h.2.2
    have e : 2 ^ (x + 1).toNat = 2 * 2 ^ x.toNat := by
      rw [show (x + 1).toNat = x.toNat + 1 by have := h.1; omega, Nat.pow_succ, Nat.mul_comm]
    have : 2 ^ lo.toNat ≤ 2 ^ x.toNat := Nat.pow_le_pow_right (by decide) (by have := h.1; omega)
    rw [numL]; omega
theorem num_lt {L : List Int} (h : ascF 0 L) : numL L < 65536 := by
  have := num_top (lo := 0) (by decide) (by decide) h
  simp at this; omega
theorem num_dvd : ∀ {L : List Int} {lo : Int}, 0 ≤ lo → ascF lo L → ∃ q, numL L = 2 ^ lo.toNat * q
  | [], _, _, _ => ⟨0, by simp [numL]⟩
  | x :: L, lo, h0, h => by
    obtain ⟨q, hq⟩ := num_dvd (L := L) (lo := x + 1) (by have := h.1; omega) h.2.2
    obtain ⟨d, hd⟩ : ∃ d, x.toNat = lo.toNat + d := ⟨x.toNat - lo.toNat, by have := h.1; omega⟩
    have e1 : (x + 1).toNat = lo.toNat + (d + 1) := by have := h.1; omega
    refine ⟨2 ^ d + 2 ^ (d + 1) * q, ?_⟩
    rw [numL, hq, hd, e1, Nat.pow_add, Nat.pow_add, Nat.mul_add, Nat.mul_assoc]
theorem num_odd {x : Int} {L : List Int} {lo : Int} (h0 : 0 ≤ lo) (h : ascF lo (x :: L)) : ∃ q, numL (x :: L) = 2 ^ x.toNat * (2 * q + 1) ∧ numL L = 2 ^ (x.toNat + 1) * q := by
  obtain ⟨q, hq⟩ := num_dvd (L := L) (lo := x + 1) (by have := h.1; omega) h.2.2
  rw [show (x + 1).toNat = x.toNat + 1 by have := h.1; omega] at hq
  refine ⟨q, ?_, hq⟩
  rw [numL, hq, Nat.pow_succ, Nat.mul_add, Nat.mul_assoc]; omega
theorem num_pos {x : Int} {L : List Int} : 0 < numL (x :: L) := by
  have : 0 < 2 ^ x.toNat := Nat.pow_pos (by decide)
  rw [numL]; omega
theorem num_zero {L : List Int} (h : numL L = 0) : L = [] := by
  cases L with
  | nil => rfl
  | cons x L => have := num_pos (x := x) (L := L); omega
theorem and_low (k q : Nat) : (2 ^ k * (2 * q + 1)) &&& (2 ^ k * (2 * q + 1) - 1) = 2 ^ (k + 1) * q := by
  have hp : 0 < 2 ^ k := Nat.pow_pos (by decide)
  have e1 : 2 ^ k * (2 * q + 1) = 2 ^ (k + 1) * q + 2 ^ k := by rw [Nat.mul_add, Nat.pow_succ, Nat.mul_assoc]; omega
  have e2 : 2 ^ k * (2 * q + 1) - 1 = 2 ^ (k + 1) * q + (2 ^ k - 1) := by omega
  rw [e2, e1]
  have hlt : 2 ^ k < 2 ^ (k + 1) := by rw [Nat.pow_succ]; omega
  apply Nat.eq_of_testBit_eq
  intro i
  rw [Nat.testBit_and, Nat.testBit_two_pow_mul_add _ hlt, Nat.testBit_two_pow_mul_add _ (by omega), Nat.testBit_two_pow_mul, Nat.testBit_two_pow, Nat.testBit_two_pow_sub_one]
  by_cases hi : i < k + 1
  · simp only [hi, if_pos]
    have : ¬ i ≥ k + 1 := by omega
    simp [this]; omega
  · have : i ≥ k + 1 := by omega
    simp only [hi, if_neg, not_false_eq_true, Bool.and_self]
    simp [this]
theorem num_rest {x : Int} {L : List Int} {lo : Int} (h0 : 0 ≤ lo) (h : ascF lo (x :: L)) : numL (x :: L) &&& (numL (x :: L) - 1) = numL L := by
  obtain ⟨q, h1, h2⟩ := num_odd h0 h
  rw [h1, h2]; exact and_low _ _
theorem ctzFrom_pow : ∀ (k f q : Nat), k < f → Go.Lib.ctzFrom f (2 ^ k * (2 * q + 1)) = k
  | 0, f + 1, q, _ => by
    rw [Go.Lib.ctzFrom, if_pos (by omega)]
  | k + 1, f + 1, q, h => by
    have e : 2 ^ (k + 1) * (2 * q + 1) = 2 * (2 ^ k * (2 * q + 1)) := by rw [Nat.pow_succ, Nat.mul_comm (2 ^ k) 2, Nat.mul_assoc]
    rw [Go.Lib.ctzFrom, if_neg (by omega), e, Nat.mul_div_cancel_left _ (by decide), ctzFrom_pow k f q (by omega)]
    omega
theorem num_least {x : Int} {L : List Int} {lo : Int} (h0 : 0 ≤ lo) (h : ascF lo (x :: L)) : ((Go.Lib.ctz 64 (numL (x :: L)) : Nat) : Int) = x := by
  obtain ⟨q, h1, _⟩ := num_odd h0 h
  have hp := num_pos (x := x) (L := L)
  unfold Go.Lib.ctz
  rw [if_neg (by omega), h1, ctzFrom_pow _ _ _ (by have := h.2.1; omega)]
  have := h.1
  omega
theorem num_bit : ∀ {L : List Int} {lo : Int}, 0 ≤ lo → ascF lo L → ∀ i : Nat, (numL L).testBit i = decide ((i : Int) ∈ L)
  | [], _, _, _, i => by simp [numL]
  | x :: L, lo, h0, h, i => by
    have hx0 : 0 ≤ x := Int.le_trans h0 h.1
    have ih := num_bit (L := L) (lo := x + 1) (by omega) h.2.2 i
    obtain ⟨q, h1, h2⟩ := num_odd h0 h
    have e1 : numL (x :: L) = 2 ^ (x.toNat + 1) * q + 2 ^ x.toNat := by rw [numL, h2]; omega
    have hlt : 2 ^ x.toNat < 2 ^ (x.toNat + 1) := by have : 0 < 2 ^ x.toNat := Nat.pow_pos (by decide); rw [Nat.pow_succ]; omega
    rw [h2, Nat.testBit_two_pow_mul] at ih
    rw [e1, Nat.testBit_two_pow_mul_add _ hlt, Nat.testBit_two_pow]
    by_cases hi : i < x.toNat + 1
    · rw [if_pos hi]
      have hn : decide (i ≥ x.toNat + 1) = false := by simp; omega
      rw [hn, Bool.false_and] at ih
      have hl : ¬ (i : Int) ∈ L := by simpa using ih.symm
      by_cases e : x.toNat = i
      · have : (i : Int) = x := by omega
        simp [e, this]
      · have : ¬ (i : Int) = x := by omega
        simp [e, this, hl]
    · rw [if_neg hi]
      have hn : decide (i ≥ x.toNat + 1) = true := by simp; omega
      rw [hn, Bool.true_and] at ih
      have : ¬ (i : Int) = x := by omega
      rw [ih]
      simp [this]
theorem num_eq {L : List Int} {s : Nat} (h : ascF 0 L) (hb : ∀ i : Nat, s.testBit i = decide ((i : Int) ∈ L)) : s = numL L :=
  Nat.eq_of_testBit_eq fun i => by rw [hb i, num_bit (Int.le_refl 0) h]
/- A list that ends in a greater number. -/
theorem ascF_snoc : ∀ {L : List Int} {lo x : Int}, ascF lo L → lo ≤ x → x ≤ 15 → (∀ y, y ∈ L → y < x) → ascF lo (L ++ [x])
  | [], _, _, _, h1, h2, _ => ⟨h1, h2, trivial⟩
  | y :: L, lo, x, h, h1, h2, h3 => ⟨h.1, h.2.1, ascF_snoc h.2.2 (by have := h3 y (List.mem_cons_self ..); omega) h2 fun z hz => h3 z (List.mem_cons_of_mem _ hz)⟩
theorem slJ_in {P : Nat → Bool} : ∀ {m : Nat} {y : Int}, y ∈ slJ P m ↔ ∃ j, j < m ∧ P j = true ∧ y = (j : Int)
  | 0, y => by simp [slJ]
  | m + 1, y => by
    cases h : P m
    · rw [slJ_no h, slJ_in]
      constructor
      · rintro ⟨j, h1, h2, h3⟩; exact ⟨j, by omega, h2, h3⟩
      · rintro ⟨j, h1, h2, h3⟩
        refine ⟨j, ?_, h2, h3⟩
        by_cases e : j = m
        · subst e; rw [h] at h2; exact absurd h2 (by decide)
        · omega
    · rw [slJ_yes h, List.mem_append, slJ_in, List.mem_singleton]
      constructor
      · rintro (⟨j, h1, h2, h3⟩ | h3)
        · exact ⟨j, by omega, h2, h3⟩
        · exact ⟨m, by omega, h, h3⟩
      · rintro ⟨j, h1, h2, h3⟩
        by_cases e : j = m
        · subst e; exact Or.inr h3
        · exact Or.inl ⟨j, by omega, h2, h3⟩
theorem slJ_asc {P : Nat → Bool} : ∀ {m : Nat}, m ≤ 16 → ascF 0 (slJ P m)
  | 0, _ => trivial
  | m + 1, h => by
    cases e : P m
    · rw [slJ_no e]; exact slJ_asc (by omega)
    · rw [slJ_yes e]
      refine ascF_snoc (slJ_asc (by omega)) (by omega) (by omega) fun y hy => ?_
      obtain ⟨j, h1, _, h3⟩ := slJ_in.1 hy
      omega
theorem slJ_num {P : Nat → Bool} {m s : Nat} (hm : m ≤ 16) (h : ∀ i : Nat, s.testBit i = (decide (i < m) && P i)) : s = numL (slJ P m) :=
  num_eq (slJ_asc hm) fun i => by
    rw [h i]
    cases hc : (decide (i < m) && P i)
    · symm
      apply decide_eq_false
      intro hi
      obtain ⟨j, h1, h2, h3⟩ := slJ_in.1 hi
      obtain rfl : i = j := by omega
      rw [h2] at hc
      simp at hc; omega
    · symm
      simp only [Bool.and_eq_true, decide_eq_true_eq] at hc
      exact decide_eq_true (slJ_in.2 ⟨i, hc.1, hc.2, rfl⟩)
theorem fiL_in {P : Nat → Bool} {g : Nat → Int} : ∀ {n : Nat} {y : Int}, y ∈ fiL P g n ↔ ∃ j, j < n ∧ P j = true ∧ y = g j
  | 0, y => by simp [fiL]
  | m + 1, y => by
    cases h : P m
    · rw [fiL_no h, fiL_in]
      constructor
      · rintro ⟨j, h1, h2, h3⟩; exact ⟨j, by omega, h2, h3⟩
      · rintro ⟨j, h1, h2, h3⟩
        refine ⟨j, ?_, h2, h3⟩
        by_cases e : j = m
        · subst e; rw [h] at h2; exact absurd h2 (by decide)
        · omega
    · rw [fiL_yes h, List.mem_append, fiL_in, List.mem_singleton]
      constructor
      · rintro (⟨j, h1, h2, h3⟩ | h3)
        · exact ⟨j, by omega, h2, h3⟩
        · exact ⟨m, by omega, h, h3⟩
      · rintro ⟨j, h1, h2, h3⟩
        by_cases e : j = m
        · subst e; exact Or.inr h3
        · exact Or.inl ⟨j, by omega, h2, h3⟩
theorem fiL_asc {P : Nat → Bool} {M : Nat → VT} {n : Nat} (h : hrA M n = true) : ∀ {k : Nat}, k ≤ n → ascF 0 (fiL P (slS M) k)
  | 0, _ => trivial
  | k + 1, hk => by
    cases e : P k
    · rw [fiL_no e]; exact fiL_asc h (by omega)
    · rw [fiL_yes e]
      have h1 := hrO_t (hrA_at h (show k < n by omega)).1
      refine ascF_snoc (fiL_asc h (by omega)) (show 0 ≤ (M k).1 by omega) (show (M k).1 ≤ 15 by omega) fun y hy => ?_
      obtain ⟨j, h2, _, h4⟩ := fiL_in.1 hy
      rw [h4]
      exact hr_asc h h2 (by omega)
/- A bit more. -/
theorem or_bit {s : Nat} {F : Nat → Bool} {x : Nat} (h : ∀ i : Nat, s.testBit i = F i) (i : Nat) : (s ||| 2 ^ x).testBit i = (F i || decide (x = i)) := by
  rw [Nat.testBit_or, h i, Nat.testBit_two_pow]
theorem or_lt {s x : Nat} (h : s < 65536) (hx : x ≤ 15) : s ||| 2 ^ x < 65536 :=
  Nat.or_lt_two_pow (n := 16) h (Nat.lt_of_le_of_lt (Nat.pow_le_pow_right (by decide) hx) (by decide))
end Go.Proofs.YtdahabbdhjgpdaaDoor
namespace Go.Proofs.YtdahabbdhjgpdaaDoor
open Go.RowKit
set_option linter.unusedVariables false
/- The table of the library's that tells a number's lowest bit, as it stands in its variable. -/
def Tb (w : World) : Prop := (∀ j, j < 64 → w.cell? ⟨1, j, none⟩ = some (.int .u8 ((Go.Lib.deBruijn64tab.getD j 0 : Nat) : Int))) ∧ 1 < w.heap.size
theorem Tb.below {w w' : World} (h : Tb w) (hb : Below w.heap.size w w') : Tb w' :=
  ⟨fun j hj => by rw [hb.cell (p := ⟨1, j, none⟩) h.2]; exact h.1 j hj, Nat.lt_of_lt_of_le h.2 hb.size⟩
theorem Tb.drew {w : World} (h : Tb w) : Tb w.drew := h
/- One bit more; the lowest bit away. -/
theorem with_any (s x : Nat) (w : World) (hs : s < 65536) (hx : x ≤ 15) :
    Calls Tryd.prog 57 #[.int .u64 (s : Int), .int .i64 (x : Int)] w fun e w' => e = .returned (.int .u64 ((s ||| 2 ^ x : Nat) : Int)) ∧ w = w' := by
  have hp : 2 ^ x < 65536 := Nat.lt_of_le_of_lt (Nat.pow_le_pow_right (by decide) hx) (by decide)
  have e1 : IntKind.u64.wrap ((2 : Int) ^ x) = ((2 ^ x : Nat) : Int) := by
    rw [show ((2 : Int) ^ x) = ((2 ^ x : Nat) : Int) by simp, IntKind.wrap_u64]
    generalize 2 ^ x = y at *
    omega
  have e2 := u64_or_nat s (2 ^ x) (by omega) (by omega)
  rw [← e1] at e2
  rw [← e2]
  clear e1 e2
  go_enter Tryd.func57, Tryd.ntmps57
  go_wp2
  go_ret
  exact ⟨rfl, rfl⟩
theorem less_any (s : Nat) (w : World) (hs : s < 65536) (h0 : 0 < s) :
    Calls Tryd.prog 86 #[.int .u64 (s : Int)] w fun e w' => e = .returned (.int .u64 ((s &&& (s - 1) : Nat) : Int)) ∧ w = w' := by
  have e2 := u64_and_nat s (s - 1) (by omega) (by omega)
  rw [show ((s - 1 : Nat) : Int) = (s : Int) - 1 by omega] at e2
  rw [← e2]
  clear e2
  go_enter Tryd.func86, Tryd.ntmps86
  go_wp2
  go_ret
  exact ⟨rfl, rfl⟩
theorem tz64_key (x a : Nat) (hx : x < 18446744073709551616) (hx0 : x ≠ 0) (hlow : x &&& (18446744073709551616 - x) = a) :
    IntKind.u64.wrap (bits BinOp.and IntKind.u64 (x : Int) (IntKind.u64.wrap (-(x : Int))) * 285870213051353865) / 288230376151711744 = ((a * 285870213051353865 % 18446744073709551616 / 288230376151711744 : Nat) : Int) := by
  have e1 : IntKind.u64.wrap (-(x : Int)) = ((18446744073709551616 - x : Nat) : Int) := by rw [IntKind.wrap_u64]; omega
  rw [e1, u64_and_nat x _ hx (by omega), hlow, IntKind.wrap_u64]
  omega
set_option maxHeartbeats 1000000 in
theorem tz64_core (x k idx : Nat) (w : World) (hx0 : ((x : Int) == 0) = false)
    (key : IntKind.u64.wrap (bits BinOp.and IntKind.u64 (x : Int) (IntKind.u64.wrap (-(x : Int))) * 285870213051353865) / 288230376151711744 = (idx : Int))
    (hi : idx < 64) (hk : k < 64) (hcell : w.cell? ⟨1, idx, none⟩ = some (.int .u8 k)) :
    Calls Tryd.prog 105 #[.int .u64 x] w fun e w' => e = .returned (.int .i64 k) ∧ w = w' := by
  go_enter Tryd.func105, Tryd.ntmps105
  go_wp2_with (simp only [key])
  go_ret
  exact ⟨rfl, rfl⟩
theorem tz_any (x : Nat) (w : World) (hx : x < 65536) (h0 : 0 < x) (T : Tb w) :
    Calls Tryd.prog 85 #[.int .u64 (x : Int)] w fun e w' => e = .returned (.int .i64 ((Go.Lib.ctz 64 x : Nat) : Int)) ∧ w = w' := by
  obtain ⟨hlow, hk⟩ := Go.Lib.lowest_bit 64 x (by omega) (by omega)
  obtain ⟨hi, htab⟩ := Go.Lib.deBruijn64_at _ hk
  have hcell := T.1 _ hi
  rw [htab] at hcell
  have C := tz64_core x _ _ w (by simp; omega) (tz64_key x _ (by omega) (by omega) hlow) hi hk hcell
  clear hcell htab hi hlow hk T
  generalize Go.Lib.ctz 64 x = z at *
  go_enter Tryd.func85, Tryd.ntmps85
  go_wp2_with fail
  refine C.mono ?_
  rintro e w' ⟨rfl, rfl⟩
  go_wp2_with fail
  go_ret
  exact ⟨rfl, rfl⟩
/- An atomic of one's own, in a run of one. -/
theorem atAdd_any (b : Nat) (x : Nat) (w : World) (hx : x < 65536) (h0 : w.cell? ⟨b, 0, none⟩ = some (.int .i64 (x : Int))) (f0 : w.frozen? ⟨b, 0, none⟩ = false) :
    Calls Tryd.prog 102 #[.pointer (some ⟨b, 0, none⟩), .int .i64 1] w fun e w' => e = .returned (.int .i64 ((x + 1 : Nat) : Int)) ∧ w' = w.setCell ⟨b, 0, none⟩ (.int .i64 ((x + 1 : Nat) : Int)) := by
  have hadd := run_call_add (P := Tryd.prog) Tryd.func111 (by kernel_rfl) (by kernel_rfl) (by kernel_rfl) .i64 (by kernel_rfl) (y := 1) (s := ((x + 1 : Nat) : Int)) h0 f0 (by
    have e : IntKind.i64.wrap ((x : Int) + 1) = ((x + 1 : Nat) : Int) := by rw [IntKind.wrap_i64]; omega
    simp [go_sem, e]
    try omega)
  generalize ((x + 1 : Nat) : Int) = y at *
  go_enter Tryd.func102, Tryd.ntmps102
  go_wp2
  go_ret
  exact ⟨rfl, rfl⟩
theorem atLoad_any (b : Nat) (x : Int) (w : World) (h0 : w.cell? ⟨b, 0, none⟩ = some (.int .i64 x)) :
    Calls Tryd.prog 103 #[.pointer (some ⟨b, 0, none⟩)] w fun e w' => e = .returned (.int .i64 x) ∧ w = w' := by
  have hld := run_call_load (P := Tryd.prog) Tryd.func112 (by kernel_rfl) (by kernel_rfl) (by kernel_rfl) .i64 (by kernel_rfl) h0
  go_enter Tryd.func103, Tryd.ntmps103
  go_wp2
  go_ret
  exact ⟨rfl, rfl⟩
/- How many bits; the numbers of the bits. -/
theorem drop_asc : ∀ {L : List Int} {lo : Int}, 0 ≤ lo → ascF lo L → ∀ k, ascF 0 (L.drop k)
  | [], _, _, _, k => by simp [ascF]
  | x :: L, lo, h0, h, 0 => ascF_le h0 h
  | x :: L, lo, h0, h, k + 1 => by rw [List.drop_succ_cons]; exact drop_asc (show 0 ≤ x + 1 by have := h.1; omega) h.2.2 k
theorem asc_len : ∀ {L : List Int} {lo : Int}, ascF lo L → lo + L.length ≤ 16 ∨ L = []
  | [], _, _ => .inr rfl
  | x :: L, lo, h => by
    have h1 := h.1; have h2 := h.2.1
    rcases asc_len h.2.2 with q | q
    · left; simp only [List.length_cons]; omega
    · subst q; left; simp; omega
theorem asc_le {L : List Int} (h : ascF 0 L) : L.length ≤ 16 := by
  rcases asc_len h with q | q
  · omega
  · subst q; simp
theorem drop_cons {L : List Int} {k : Nat} (h : k < L.length) : L.drop k = gI L k :: L.drop (k + 1) := by
  rw [List.drop_eq_getElem_cons h]
  congr 1
  unfold gI
  simp [h]
set_option maxRecDepth 100000 in
set_option maxHeartbeats 4000000 in
theorem size_any (L : List Int) (h : ascF 0 L) (w : World) :
    Calls Tryd.prog 84 #[.int .u64 (numL L : Int)] w fun e w' => e = .returned (.int .i64 (L.length : Int)) ∧ Below w.heap.size w w' := by
  have h16 := asc_le h
  have HL : Hid (ascF 0 L) := h
  clear h
  have B := Below.nw w (.cells #[.int .i64 0] 124)
  go_enter Tryd.func84, Tryd.ntmps84
  go_upto_region 2 with fail
  have q0 : (w.alloc (.cells #[.int .i64 0] 124)).cell? ⟨w.heap.size, 0, none⟩ = some (.int .i64 ((0 : Nat) : Int)) := by simp
  have q1 : (w.alloc (.cells #[.int .i64 0] 124)).frozen? ⟨w.heap.size, 0, none⟩ = false := by simp
  generalize w.alloc (.cells #[.int .i64 0] 124) = v at *
  go_wp2_with fail
  go_loopw [4] (fun l wr => ∃ (k : Nat), k ≤ L.length ∧ l = .int .u64 (numL (L.drop k) : Int) ∧ wr.cell? ⟨w.heap.size, 0, none⟩ = some (.int .i64 (k : Int)) ∧ wr.frozen? ⟨w.heap.size, 0, none⟩ = false ∧ Below w.heap.size w wr) (fun l _ => (intOf l).toNat)
  case atStart => exact ⟨0, Nat.zero_le _, rfl, q0, q1, B⟩
  case round =>
    clear q0 q1 B
    obtain ⟨k, hk, rfl, q0, q1, B⟩ := hrel
    by_cases hlt : k < L.length
    · obtain ⟨Q, hQ⟩ : ∃ Q, Q = numL (L.drop (k + 1)) := ⟨_, rfl⟩
      obtain ⟨P, hP⟩ : ∃ P, P = numL (L.drop k) := ⟨_, rfl⟩
      have hp0 : 0 < P := by rw [hP, drop_cons hlt]; exact num_pos
      have hp1 : P < 65536 := by rw [hP]; exact num_lt (drop_asc (Int.le_refl 0) HL.out k)
      have hpq : P &&& (P - 1) = Q := by
        have h1 := drop_asc (Int.le_refl 0) HL.out k
        rw [hP, hQ]
        rw [drop_cons hlt] at h1 ⊢
        exact num_rest (Int.le_refl 0) h1
      have HQP : Hid (Q < P) := by
        rw [Hid, hQ, hP, drop_cons hlt, numL]
        have : 0 < 2 ^ (gI L k).toNat := Nat.pow_pos (by decide)
        omega
      have C1 := atAdd_any w.heap.size k wr (by omega) q0 q1
      have C2 := fun w' => less_any P w' hp1 hp0
      rw [hpq] at C2
      have HQ : Hid (Q = numL (L.drop (k + 1))) := hQ
      have HLT : Hid (k < L.length) := hlt
      have ht : ((P : Int) != 0) = true := by simp; omega
      have q2 : (wr.setCell ⟨w.heap.size, 0, none⟩ (.int .i64 ((k + 1 : Nat) : Int))).cell? ⟨w.heap.size, 0, none⟩ = some (.int .i64 ((k + 1 : Nat) : Int)) := World.cell?_setCell_same wr _ _ q0
      have q3 : (wr.setCell ⟨w.heap.size, 0, none⟩ (.int .i64 ((k + 1 : Nat) : Int))).frozen? ⟨w.heap.size, 0, none⟩ = false := by simpa using q1
      have B2 := B.setCell (p := ⟨w.heap.size, 0, none⟩) (Nat.le_refl _) (.int .i64 ((k + 1 : Nat) : Int))
      rw [← hP]
      clear hP hQ hpq HL hlt q0 q1 B
      obtain ⟨y, hy⟩ : ∃ y, y = ((k + 1 : Nat) : Int) := ⟨_, rfl⟩
      have HY : Hid (y = ((k + 1 : Nat) : Int)) := hy
      rw [← hy] at q2 q3 B2 C1
      clear hy
      go_wp2_with fail
      refine C1.mono ?_
      clear C1
      rintro e v1 ⟨rfl, rfl⟩
      generalize wr.setCell ⟨w.heap.size, 0, none⟩ (.int .i64 y) = v1 at *
      go_wp2_with fail
      refine (C2 _).mono ?_
      clear C2
      rintro e v2 ⟨rfl, rfl⟩
      go_wp2_with fail
      go_roundw
      case rel => exact ⟨k + 1, HLT.out, by rw [HQ.out], by rw [q2, HY.out], q3, B2⟩
      case measure => have h9 := HQP.out; simp [intOf]; omega
    · obtain rfl : k = L.length := by omega
      rw [List.drop_length]
      have C3 := atLoad_any w.heap.size (L.length : Int) wr q0
      have ht : (((numL [] : Nat) : Int) != 0) = false := rfl
      clear q0 q1
      go_wp2_with fail
      refine C3.mono ?_
      clear C3
      rintro e v2 ⟨rfl, rfl⟩
      go_wp2_with fail
      go_ret
      exact ⟨rfl, B⟩
theorem infoInt16 : (Tryd.prog.info? 3).map (fun i => (i.zero, i.size, i.bytes)) = some (some (.int .i64 0), 1, 8) := by kernel_rfl
theorem mk_int16 (n : Nat) (h : n ≤ 16) (w : World) : (Instr.makeSlice 40 (.int .i64 (n : Int)) (.int .i64 (n : Int))).run Tryd.prog w = .ok (.slice (some ⟨w.heap.size, 0, none⟩) n n) (w.alloc (.cells (madeCells #[.int .i64 0] n) 3)) :=
  run_make_row' 40 3 (.int .i64 0) 8 Tryd.underlying40 infoInt16 rfl .i64 .i64 n (by omega) (by omega) w
theorem row_own {w : World} {b n base : Nat} {L : List Int} (h : w.rowIs b 3 n (fun i => .int .i64 (gI L i))) (hn : L.length = n) (h16 : n ≤ 16) (hb : base ≤ b) : w.ownsRow base 3 1 (.slice (some ⟨b, 0, none⟩) n n) n (irow L) := by
  obtain ⟨c, hc, hs, hv⟩ := h
  have hl : (irow L).length = n := by unfold irow; simp [hn]
  refine ⟨by omega, .inr ⟨b, n, c, rfl, hb, hc, Nat.le_refl _, by unfold maxLen; omega, by omega, ?_⟩⟩
  apply List.ext_getElem?
  intro j
  by_cases hj : j < n
  · rw [List.getElem?_take, if_pos (by omega)]
    have h1 := hv j hj
    have e : c.toList[j]? = c[j]? := by simp
    rw [e, h1]
    unfold irow
    simp [hn, hj]
    first | rfl | (unfold MFInt; simp)
  · rw [List.getElem?_eq_none (by simp; omega), List.getElem?_eq_none (by omega)]
set_option maxRecDepth 100000 in
set_option maxHeartbeats 4000000 in
theorem list_any (L : List Int) (h : ascF 0 L) (w : World) (T : Tb w) :
    Calls Tryd.prog 54 #[.int .u64 (numL L : Int)] w fun e w' => ∃ v, e = .returned v ∧ w'.ownsRow w.heap.size 3 1 v L.length (irow L) ∧ Below w.heap.size w w' := by
  have h16 := asc_le h
  have HL : Hid (ascF 0 L) := h
  have C1 := size_any L h w
  have mk := mk_int16 L.length h16
  clear h
  go_enter Tryd.func54, Tryd.ntmps54
  go_wp2_with fail
  refine C1.mono ?_
  clear C1
  rintro e v1 ⟨rfl, B⟩
  have A1 := Below.nw v1 (.cells (madeCells #[.int .i64 0] L.length) 3)
  have R0 := World.rowIs_made v1 (.int .i64 0) L.length 3
  have hb := B.size
  replace B := B.trans (A1.mono B.size)
  go_upto_region 2 with fail
  clear mk A1
  generalize v1.alloc (.cells (madeCells #[.int .i64 0] L.length) 3) = v2 at *
  generalize v1.heap.size = b at *
  go_wp2_with fail
  go_loopw [0, 10] (fun l i wr => ∃ (k : Nat), k ≤ L.length ∧ l = .int .u64 (numL (L.drop k) : Int) ∧ i = .int .i64 (k : Int) ∧ wr.rowIs b 3 L.length (fun j => .int .i64 (if j < k then gI L j else 0)) ∧ Below w.heap.size w wr) (fun _ i _ => L.length - (intOf i).toNat)
  case atStart => exact ⟨0, Nat.zero_le _, rfl, rfl, by simpa using R0, B⟩
  case round =>
    clear R0 B
    obtain ⟨k, hk, rfl, rfl, R, B⟩ := hrel
    by_cases hlt : k < L.length
    · obtain ⟨Q, hQ⟩ : ∃ Q, Q = numL (L.drop (k + 1)) := ⟨_, rfl⟩
      obtain ⟨P, hP⟩ : ∃ P, P = numL (L.drop k) := ⟨_, rfl⟩
      have hp0 : 0 < P := by rw [hP, drop_cons hlt]; exact num_pos
      have hp1 : P < 65536 := by rw [hP]; exact num_lt (drop_asc (Int.le_refl 0) HL.out k)
      have hpq : P &&& (P - 1) = Q := by
        have h1 := drop_asc (Int.le_refl 0) HL.out k
        rw [hP, hQ]
        rw [drop_cons hlt] at h1 ⊢
        exact num_rest (Int.le_refl 0) h1
      have hpl : ((Go.Lib.ctz 64 P : Nat) : Int) = gI L k := by
        have h1 := drop_asc (Int.le_refl 0) HL.out k
        rw [hP]
        rw [drop_cons hlt] at h1 ⊢
        exact num_least (Int.le_refl 0) h1
      have C1 := tz_any P wr hp1 hp0 (T.below B)
      have C2 := fun w' => less_any P w' hp1 hp0
      rw [hpq] at C2
      rw [hpl] at C1
      have HQ : Hid (Q = numL (L.drop (k + 1))) := hQ
      have HLT : Hid (k < L.length) := hlt
      have hli : (k : Int) < (L.length : Int) := by omega
      have c0 := R.cell hlt
      have f0 := R.frozen k
      have R2 : (wr.setCell ⟨b, k, none⟩ (.int .i64 (gI L k))).rowIs b 3 L.length (fun j => .int .i64 (if j < k + 1 then gI L j else 0)) := (R.set k (.int .i64 (gI L k))).congr fun j hj => by
        by_cases e : j = k
        · subst e; simp
        · simp only [if_neg e]
          by_cases e2 : j < k
          · rw [if_pos e2, if_pos (show j < k + 1 by omega)]
          · rw [if_neg e2, if_neg (show ¬ j < k + 1 by omega)]
      have B2 := B.setCell (p := ⟨b, k, none⟩) hb (.int .i64 (gI L k))
      rw [← hP]
      clear hP hQ hpq hpl HL hlt R B
      generalize gI L k = y at c0 C1 R2 B2
      go_wp2_with fail
      refine C1.mono ?_
      clear C1
      rintro e v1 ⟨rfl, rfl⟩
      go_upto_region 6 with fail
      generalize wr.setCell ⟨b, k, none⟩ (.int .i64 y) = v3 at *
      go_wp2_with fail
      refine (C2 _).mono ?_
      clear C2
      rintro e v2 ⟨rfl, rfl⟩
      go_wp2_with fail
      go_roundw
      case rel => exact ⟨k + 1, HLT.out, by rw [HQ.out], by go_num, R2, B2⟩
      case measure => have hlt' := HLT.out; simp [intOf]; omega
    · obtain rfl : k = L.length := by omega
      have hli : ¬ (L.length : Int) < (L.length : Int) := by omega
      have O := row_own (L := L) (base := w.heap.size) (R.congr (g := fun j => .int .i64 (gI L j)) fun j hj => by simp [hj]) rfl h16 hb
      clear R
      go_wp2_with fail
      go_ret
      exact ⟨_, rfl, O, B⟩
end Go.Proofs.YtdahabbdhjgpdaaDoor
namespace Go.Proofs.YtdahabbdhjgpdaaDoor
open Go.RowKit
set_option linter.unusedVariables false
theorem cells8 : Tryd.prog.cellsOf 5 = 1 := by kernel_rfl
set_option maxRecDepth 100000 in
theorem tab_one {W : World} {n : String} {g nn : Nat} {at_ : TypeId} {vals : List Nat} (hN : Tryd.prog.globalNamed n = some g) (hT : (Tryd.prog.globals[g]?).map (·.type) = some at_) (hU : Tryd.prog.underlying at_ = some (.array nn 5)) (hl : vals.length = nn)
    (h : laidMet Tryd.prog [(n, .agg (vals.map fun (k : Nat) => DataW.lit (Lit.int .u8 ((k : Nat) : Int))))] W) : ∀ j, j < vals.length → W.cell? ⟨g, j, none⟩ = some (.int .u8 ((vals.getD j 0 : Nat) : Int)) := by
  obtain ⟨ps, ⟨g0, t0, cs0, f0, p0, q0, hg0, ht0, hv0, hd0, _, e0⟩, hnd, hrows⟩ := h
  obtain rfl := Option.some.inj (hN.symm.trans hg0)
  obtain rfl := Option.some.inj (hT.symm.trans ht0)
  obtain ⟨xs, m, hm, hx, hcl, hxl, hel⟩ := DataW.trod_array hU hd0
  intro j hj
  have h1 := hel j (by omega)
  rw [cells8, Nat.mul_one] at h1
  simp only [Prod.mk.injEq, DataW.agg.injEq] at hx
  have h2 : (xs.map (·.1))[j]? = some (.lit (.int .u8 ((vals.getD j 0 : Nat) : Int))) := by
    rw [← hx.1, List.getElem?_map, List.getElem?_eq_getElem hj]
    simp [hj]
  rw [List.getElem?_map] at h2
  cases hxj : xs[j]? with
  | none => rw [hxj] at h2; simp at h2
  | some y =>
    rw [hxj] at h2 h1
    simp only [Option.map_some, Option.some.injEq] at h2
    obtain ⟨v, e1, e2, e3⟩ := DataW.trod_int Tryd.underlying5 h1
    rw [e2] at h2
    have h4 : v = ((vals.getD j 0 : Nat) : Int) := by simpa using h2
    have h5 := congrArg (fun l => l[0]?) e1
    have h6 : cs0[j]? = some (.int .u8 v) := by simpa using h5
    have h7 := World.var?_cell hg0 hv0 j
    rw [h7, h6, h4]

theorem tb_at {W : World} {l : List (String × DataW Unit)} (h : laidMetH Tryd.prog l W) (hf : l.filter (fun x => x.1 == "math/bits.deBruijn64tab") = [("math/bits.deBruijn64tab", Rows.laid_math_bits_deBruijn64tab)]) : Tb W := by
  have h1 := h.filter (fun x => x.1 == "math/bits.deBruijn64tab")
  rw [hf] at h1
  have e0 : (Rows.laid_math_bits_deBruijn64tab : DataW Unit) = .agg (Go.Lib.deBruijn64tab.map fun (k : Nat) => DataW.lit (Lit.int .u8 ((k : Nat) : Int))) := by kernel_rfl
  have h2 : laidMet Tryd.prog [("math/bits.deBruijn64tab", (Rows.laid_math_bits_deBruijn64tab : DataW Unit))] W := h1
  rw [e0] at h2
  have h2 : laidMet Tryd.prog [("math/bits.deBruijn64tab", .agg (Go.Lib.deBruijn64tab.map fun (k : Nat) => DataW.lit (Lit.int .u8 ((k : Nat) : Int))))] W := h2
  have h3 := tab_one (n := "math/bits.deBruijn64tab") (g := 1) (nn := 64) (vals := Go.Lib.deBruijn64tab) (by kernel_rfl) (by kernel_rfl) Tryd.underlying137 rfl h2
  exact ⟨h3, World.block_lt_of_cell? W _ (h3 0 (by decide))⟩
/- A world in which they stand: for the witness. -/
noncomputable def laidWorld (os : Os) : World :=
  let w0 := World.holding Tryd.prog os ⟨#[], #[], []⟩
  { w0 with heap := ((w0.heap.modify 0 fun | .cells _ t frozen => .cells #[.int .u8 0, .int .u8 1, .int .u8 28, .int .u8 2, .int .u8 29, .int .u8 14, .int .u8 24, .int .u8 3, .int .u8 30, .int .u8 22, .int .u8 20, .int .u8 15, .int .u8 25, .int .u8 17, .int .u8 4, .int .u8 8, .int .u8 31, .int .u8 27, .int .u8 13, .int .u8 23, .int .u8 21, .int .u8 19, .int .u8 16, .int .u8 7, .int .u8 26, .int .u8 12, .int .u8 18, .int .u8 6, .int .u8 11, .int .u8 5, .int .u8 10, .int .u8 9] t frozen | o => o).modify 1 fun | .cells _ t frozen => .cells #[.int .u8 0, .int .u8 1, .int .u8 56, .int .u8 2, .int .u8 57, .int .u8 49, .int .u8 28, .int .u8 3, .int .u8 61, .int .u8 58, .int .u8 42, .int .u8 50, .int .u8 38, .int .u8 29, .int .u8 17, .int .u8 4, .int .u8 62, .int .u8 47, .int .u8 59, .int .u8 36, .int .u8 45, .int .u8 43, .int .u8 51, .int .u8 22, .int .u8 53, .int .u8 39, .int .u8 33, .int .u8 30, .int .u8 24, .int .u8 18, .int .u8 12, .int .u8 5, .int .u8 63, .int .u8 55, .int .u8 48, .int .u8 27, .int .u8 60, .int .u8 41, .int .u8 37, .int .u8 16, .int .u8 46, .int .u8 35, .int .u8 44, .int .u8 21, .int .u8 52, .int .u8 32, .int .u8 23, .int .u8 11, .int .u8 54, .int .u8 26, .int .u8 40, .int .u8 15, .int .u8 34, .int .u8 20, .int .u8 31, .int .u8 10, .int .u8 25, .int .u8 14, .int .u8 19, .int .u8 9, .int .u8 13, .int .u8 8, .int .u8 7, .int .u8 6] t frozen | o => o) }
theorem vars1 {H : Type} {enc : TypeId × Value → H} {W : World} {sp : Nat → Bool} {n : String} {gs : List (DataW H)} {q : List MemPlace} (h : DataW.TrodVars enc Tryd.prog W sp [n] gs q) : ∃ g1, gs = [g1] := by
  match gs, h with
  | g :: gs', ⟨_, _, _, _, _, q', _, _, _, _, hq, _⟩ =>
    obtain ⟨rfl, _⟩ := Go.ChangeShapes.trodVars_none hq
    exact ⟨g, rfl⟩
theorem vars2 {H : Type} {enc : TypeId × Value → H} {W : World} {sp : Nat → Bool} {n1 n2 : String} {gs : List (DataW H)} {q : List MemPlace} (h : DataW.TrodVars enc Tryd.prog W sp [n1, n2] gs q) : ∃ g1 g2, gs = [g1, g2] := by
  match gs, h with
  | g :: gs', ⟨_, _, _, _, _, q', _, _, _, _, hq, _⟩ =>
    obtain ⟨g2, rfl⟩ := vars1 hq
    exact ⟨g, g2, rfl⟩
end Go.Proofs.YtdahabbdhjgpdaaDoor
namespace Go.Proofs.YtdahabbdhjgpdaaDoor
open Go.RowKit
set_option linter.unusedVariables false
set_option maxHeartbeats 2000000 in
theorem toHeard_any (x0 x1 : Int) (w : World) :
    Calls Tryd.prog 63 #[.agg #[.int .i64 x0, .int .i64 x1]] w fun e w' => e = .returned (.agg #[.int .i64 x0, .int .i64 x1]) ∧ Below w.heap.size w w' := by
  go_enter Tryd.func63, Tryd.ntmps63
  go_wp2_with fail
  exact bodyPost_ret (v := .agg #[.int .i64 x0, .int .i64 x1]) (by simp (maxDischargeDepth := 6) [results, Tryd.results63, go_sem, *]) rfl ⟨rfl, by repeat (first | exact Below.refl _ _ | refine Below.drew ?_ | refine Below.alloc ?_ (by first | (simp; done) | (simp; omega) | omega) _ | refine Below.setCell ?_ (by first | (simp; done) | (simp; omega) | omega) _ | refine Below.trans ?_ (Below.mono (by assumption) (by first | (simp; done) | (simp; omega) | omega)))⟩
set_option maxHeartbeats 2000000 in
theorem eqHeard_same (x0 x1 : Int) (w : World) :
    Calls Tryd.prog 65 #[.agg #[.int .i64 x0, .int .i64 x1], .agg #[.int .i64 x0, .int .i64 x1]] w fun e w' => e = .returned (.bool true) ∧ Below w.heap.size w w' := by
  go_enter Tryd.func65, Tryd.ntmps65
  go_wp2_with fail
  go_ret
  exact ⟨rfl, by repeat (first | exact Below.refl _ _ | refine Below.drew ?_ | refine Below.alloc ?_ (by first | (simp; done) | (simp; omega) | omega) _ | refine Below.setCell ?_ (by first | (simp; done) | (simp; omega) | omega) _ | refine Below.trans ?_ (Below.mono (by assumption) (by first | (simp; done) | (simp; omega) | omega)))⟩
set_option maxHeartbeats 1000000 in
theorem szHeardS_any (a : Option Addr) (n c : Nat) (L : Int) (w : World) (hm : n ≤ maxLen) (L0 : 0 ≤ L) (L1 : L ≤ 1048576) :
    Calls Tryd.prog 20 #[.slice a n c, .int .i64 L] w fun e w' => e = .returned (.int .i64 (if (n : Int) ≤ L then L - (n : Int) else -1)) ∧ w = w' := by
  unfold maxLen at hm
  by_cases h : (n : Int) ≤ L
  · rw [if_pos h]
    have hd : decide (L - (n : Int) < 0) = false := by simp; omega
    go_enter Tryd.func20, Tryd.ntmps20
    go_wp2_with fail
    go_ret
    exact ⟨rfl, rfl⟩
  · rw [if_neg h]
    have hd : decide (L - (n : Int) < 0) = true := by simp; omega
    go_enter Tryd.func20, Tryd.ntmps20
    go_wp2_with fail
    go_ret
    exact ⟨rfl, rfl⟩
def rowObjHeard (n : Nat) : Obj := .cells (madeCells #[.int .i64 0, .int .i64 0] (n * 2)) 80
theorem infoHeard : (Tryd.prog.info? 80).map (fun i => (i.zero, i.size, i.bytes)) = some (some (.agg #[.int .i64 0, .int .i64 0]), 2, 16) := by kernel_rfl
theorem mk_rowHeard (n : Nat) (h : n ≤ 1048576) (w : World) : (Instr.makeSlice 24 (.int .i64 (n : Int)) (.int .i64 (n : Int))).run Tryd.prog w = .ok (.slice (some ⟨w.heap.size, 0, none⟩) n n) (w.alloc (rowObjHeard n)) := by
  obtain ⟨i, hi, hz⟩ := Option.map_eq_some_iff.1 infoHeard
  simp only [Prod.mk.injEq] at hz
  obtain ⟨h1, h2, h3⟩ := hz
  have hr := run_make (P := Tryd.prog) w 24 80 i _ Tryd.underlying24 hi h1 .i64 .i64 n n (by omega) (Int.le_refl _) (by rw [h3]; omega) (by omega)
  simp only [Int.toNat_natCast, h2] at hr
  exact hr
theorem rowObjHeard_is (w : World) (n : Nat) (F : Nat → Value) : RowF (w.alloc (rowObjHeard n)) w.heap.size 80 (n * 2) 0 F := by
  have h := World.rowIs_alloc w (madeCells #[.int .i64 0, .int .i64 0] (n * 2)) 80 (fun i => (madeCells #[.int .i64 0, .int .i64 0] (n * 2)).getD i undef) (fun i hi => by
    rw [Array.getElem?_eq_getElem hi]; exact congrArg some (by rw [Array.getD_eq_getD_getElem?, Array.getElem?_eq_getElem hi]; rfl))
  rw [size_madeCells] at h
  exact ⟨_, h, fun j hj => absurd hj (Nat.not_lt_zero _)⟩
set_option maxHeartbeats 4000000 in
theorem toHeardS_some (b off n c : Nat) (M : Nat → VT) (w : World) (hn : n ≤ 1048576) (hf : Cs w b off (n * 2) (MFIval M)) :
    Calls Tryd.prog 23 #[.slice (some ⟨b, off, none⟩) n c] w fun e w' => e = .returned (.slice (some ⟨w.heap.size, 0, none⟩) n n) ∧ RowF w' w.heap.size 80 (n * 2) (n * 2) (MFIval M) ∧ Below w.heap.size w w' := by
  have hmk := mk_rowHeard n hn
  go_enter Tryd.func23, Tryd.ntmps23
  go_wp2_with fail
  clear hmk
  go_loopw [4] (fun i wr => ∃ k : Nat, k ≤ n ∧ i = .int .i64 k ∧ RowF wr w.heap.size 80 (n * 2) (k * 2) (MFIval M) ∧ Below w.heap.size w wr) (fun i _ => n - (intOf i).toNat)
  case atStart => exact ⟨0, Nat.zero_le _, rfl, (rowObjHeard_is w n _).eqm (by omega), (Below.refl _ _).alloc (Nat.le_refl _) _⟩
  case round =>
    obtain ⟨k, hk, rfl, hrow, hB⟩ := hrel
    by_cases hlt : k < n
    · obtain ⟨x0, x1, hM⟩ := tupIval M k
      obtain ⟨c0, c1⟩ := (hf.below hB hf.1).elIval hlt hM
      obtain ⟨q0, q1⟩ := MFIval_vals hM
      have hli : (k : Int) < (n : Int) := by omega
      have hlr := hrow.lt
      clear hM
      go_wp2_with fail
      refine (toHeard_any x0 x1 _).mono ?_
      rintro e w' ⟨rfl, hb⟩
      have row := RowF.below hb hlr hrow
      have hB2 := hB.trans (hb.mono hB.size)
      clear c0 c1 hrow hB hb
      have hlr2 := row.lt
      obtain ⟨⟨v0, e0⟩, f0⟩ := row.facts (k * 2) (by omega)
      obtain ⟨⟨v1, e1⟩, f1⟩ := row.facts (k * 2 + 1) (by omega)
      go_wp2_with fail
      go_roundw
      case rel => exact ⟨k + 1, by omega, by go_num, ((row.put (k * 2 + 1) (by omega) q0).put ((k + 1) * 2) (by omega) q1), ((hB2.setCell (Nat.le_refl _) _).setCell (Nat.le_refl _) _)⟩
      case measure => simp [intOf]; omega
    · have hkn : k = n := by omega
      subst hkn
      have hli : ¬ (k : Int) < (k : Int) := by omega
      go_wp2_with fail
      go_ret
      exact ⟨rfl, hrow, hB⟩
set_option maxHeartbeats 1000000 in
theorem toHeardS_empty (a : Option Addr) (c : Nat) (F : Nat → Value) (w : World) :
    Calls Tryd.prog 23 #[.slice a 0 c] w fun e w' => e = .returned (.slice (some ⟨w.heap.size, 0, none⟩) 0 0) ∧ RowF w' w.heap.size 80 (0 * 2) (0 * 2) F ∧ Below w.heap.size w w' := by
  have hmk := mk_rowHeard 0 (by omega)
  simp only [Int.ofNat_zero] at hmk
  go_enter Tryd.func23, Tryd.ntmps23
  go_wp2_with fail
  clear hmk
  go_loopw [4] (fun i wr => i = .int .i64 0 ∧ RowF wr w.heap.size 80 (0 * 2) 0 F ∧ Below w.heap.size w wr) (fun i _ => 0)
  case atStart => exact ⟨rfl, rowObjHeard_is w 0 F, (Below.refl _ _).alloc (Nat.le_refl _) _⟩
  case round =>
    obtain ⟨rfl, hrow, hB⟩ := hrel
    go_wp2_with fail
    go_ret
    exact ⟨rfl, hrow.eqm (by omega), hB⟩
theorem toHeardS_any (a : Option Addr) (n c : Nat) (M : Nat → VT) (w : World) (hn : n ≤ 1048576) (h : SrcC w a (n * 2) (MFIval M)) :
    Calls Tryd.prog 23 #[.slice a n c] w fun e w' => e = .returned (.slice (some ⟨w.heap.size, 0, none⟩) n n) ∧ RowF w' w.heap.size 80 (n * 2) (n * 2) (MFIval M) ∧ Below w.heap.size w w' := by
  rcases h with h0 | ⟨b, off, rfl, h2⟩
  · have hn0 : n = 0 := by omega
    subst hn0
    exact toHeardS_empty a c _ w
  · exact toHeardS_some b off n c M w hn h2
set_option maxHeartbeats 8000000 in
theorem eqHeardS_some (b off b' off' n c c' : Nat) (M : Nat → VT) (w : World) (hn : n ≤ maxLen) (hf : Cs w b off (n * 2) (MFIval M)) (hg : Cs w b' off' (n * 2) (MFIval M)) :
    Calls Tryd.prog 27 #[.slice (some ⟨b, off, none⟩) n c, .slice (some ⟨b', off', none⟩) n c'] w fun e w' => e = .returned (.bool true) ∧ Below w.heap.size w w' := by
  unfold maxLen at hn
  go_enter Tryd.func27, Tryd.ntmps27
  go_wp2_with fail
  go_loopw [5] (fun i wr => ∃ k : Nat, k ≤ n ∧ i = .int .i64 k ∧ Below w.heap.size w wr) (fun i _ => n - (intOf i).toNat)
  case atStart => exact ⟨0, Nat.zero_le _, rfl, Below.refl _ _⟩
  case round =>
    obtain ⟨k, hk, rfl, hB⟩ := hrel
    by_cases hlt : k < n
    · obtain ⟨x0, x1, hM⟩ := tupIval M k
      obtain ⟨c0, c1⟩ := (hf.below hB hf.1).elIval hlt hM
      obtain ⟨d0, d1⟩ := (hg.below hB hg.1).elIval hlt hM
      have hb1 : b < wr.drew.heap.size := Nat.lt_of_lt_of_le hf.1 hB.size
      have hb2 : b' < wr.drew.heap.size := Nat.lt_of_lt_of_le hg.1 hB.size
      have hsz : w.heap.size ≤ wr.drew.heap.size := hB.size
      have hli : (k : Int) < (n : Int) := by omega
      clear hM
      go_wp2_with fail
      refine wp_region_held_drew (S := (fun w' => w'.cell? ⟨b, off + k * 2, none⟩ = some (.int .i64 x0) ∧ w'.cell? ⟨b, off + k * 2 + 1, none⟩ = some (.int .i64 x1) ∧ w'.cell? ⟨b', off' + k * 2, none⟩ = some (.int .i64 x0) ∧ w'.cell? ⟨b', off' + k * 2 + 1, none⟩ = some (.int .i64 x1))) (by kernel_rfl) ?_ (fun hHeld => ?_)
      · first | exact ⟨c0, c1, d0, d1⟩ | (simp (maxDischargeDepth := 6) [go_sem, *]; done)
      refine wpAnyH_take (i := 0) (v := ?_) (by rw [List.getElem?_toArray]; rfl) (by kernel_rfl) (by kernel_rfl) (by kernel_rfl) (by intro _ _ _ h; exact h) (Or.inl ⟨by rfl, ?_⟩) (by assumption) ?_
      rotate_left
      · (intro w hSw; (try dsimp only at hSw); go_simp; all_goals with_reducible rfl)
      (try simp only [Act.put, List.setIfInBounds_toArray, List.set_cons_zero, List.set_cons_succ])
      refine wpAnyH_take (i := 1) (v := ?_) (by rw [List.getElem?_toArray]; rfl) (by kernel_rfl) (by kernel_rfl) (by kernel_rfl) (by intro _ _ _ h; exact h) (Or.inl ⟨by rfl, ?_⟩) (by assumption) ?_
      rotate_left
      · (intro w hSw; (try dsimp only at hSw); go_simp; all_goals with_reducible rfl)
      (try simp only [Act.put, List.setIfInBounds_toArray, List.set_cons_zero, List.set_cons_succ])
      refine wpAnyH_take (i := 2) (v := ?_) (by rw [List.getElem?_toArray]; rfl) (by kernel_rfl) (by kernel_rfl) (by kernel_rfl) (by intro _ _ _ h; exact h) (Or.inl ⟨by rfl, ?_⟩) (by assumption) ?_
      rotate_left
      · (intro w hSw; (try dsimp only at hSw); go_simp; all_goals with_reducible rfl)
      (try simp only [Act.put, List.setIfInBounds_toArray, List.set_cons_zero, List.set_cons_succ])
      refine wpAnyH_take (i := 3) (v := ?_) (by rw [List.getElem?_toArray]; rfl) (by kernel_rfl) (by kernel_rfl) (by kernel_rfl) (by intro _ _ _ h; exact h) (Or.inl ⟨by rfl, ?_⟩) (by assumption) ?_
      rotate_left
      · (intro w hSw; (try dsimp only at hSw); go_simp; all_goals with_reducible rfl)
      (try simp only [Act.put, List.setIfInBounds_toArray, List.set_cons_zero, List.set_cons_succ])
      refine wpAnyH_take (i := 4) (v := ?_) (by rw [List.getElem?_toArray]; rfl) (by kernel_rfl) (by kernel_rfl) (by kernel_rfl) (by intro _ _ _ h; exact h) (Or.inl ⟨by rfl, ?_⟩) (by assumption) ?_
      rotate_left
      · (intro w hSw; (try dsimp only at hSw); go_simp; all_goals with_reducible rfl)
      (try simp only [Act.put, List.setIfInBounds_toArray, List.set_cons_zero, List.set_cons_succ])
      refine wpAnyH_take (i := 5) (v := ?_) (by rw [List.getElem?_toArray]; rfl) (by kernel_rfl) (by kernel_rfl) (by kernel_rfl) (by intro _ _ _ h; exact h) (Or.inl ⟨by rfl, ?_⟩) (by assumption) ?_
      rotate_left
      · (intro w hSw; (try dsimp only at hSw); go_simp; all_goals with_reducible rfl)
      (try simp only [Act.put, List.setIfInBounds_toArray, List.set_cons_zero, List.set_cons_succ])
      refine wpAnyH_take (i := 6) (v := ?_) (by rw [List.getElem?_toArray]; rfl) (by kernel_rfl) (by kernel_rfl) (by kernel_rfl) (by intro _ _ _ h; exact h) (Or.inl ⟨by rfl, ?_⟩) (by assumption) ?_
      rotate_left
      · (intro w hSw; (try dsimp only at hSw); go_simp; all_goals with_reducible rfl)
      (try simp only [Act.put, List.setIfInBounds_toArray, List.set_cons_zero, List.set_cons_succ])
      refine wpAnyH_take (i := 7) (v := ?_) (by rw [List.getElem?_toArray]; rfl) (by kernel_rfl) (by kernel_rfl) (by kernel_rfl) (by intro _ _ _ h; exact h) (Or.inl ⟨by rfl, ?_⟩) (by assumption) ?_
      rotate_left
      · (intro w hSw; (try dsimp only at hSw); go_simp; all_goals with_reducible rfl)
      (try simp only [Act.put, List.setIfInBounds_toArray, List.set_cons_zero, List.set_cons_succ])
      refine wpAnyH_ready (rs := [8]) (by kernel_rfl) (by simp) ?_
      refine AllReadyH.cons (by rw [List.getElem?_toArray]; rfl) (fun K hK => ?_) AllReadyH.nil
      go_simp
      refine (eqHeard_same _ _ _).mono ?_; rintro e w' ⟨rfl, hb⟩; (replace c0 := (hb.cell (p := ⟨b, off + k * 2, none⟩) hb1).trans c0); (replace c1 := (hb.cell (p := ⟨b, off + k * 2 + 1, none⟩) hb1).trans c1); (replace d0 := (hb.cell (p := ⟨b', off' + k * 2, none⟩) hb2).trans d0); (replace d1 := (hb.cell (p := ⟨b', off' + k * 2 + 1, none⟩) hb2).trans d1)
      (try go_wp2_with fail)
      refine hK.out _ _ ?_ (fun hHeld => ?_)
      · first | exact ⟨c0, c1, d0, d1⟩ | (simp (maxDischargeDepth := 6) [go_sem, *]; done)
      clear hK K
      (try simp only [Act.put, List.setIfInBounds_toArray, List.set_cons_zero, List.set_cons_succ])
      refine wpAnyH_take (i := 9) (v := ?_) (by rw [List.getElem?_toArray]; rfl) (by kernel_rfl) (by kernel_rfl) (by kernel_rfl) (by intro _ _ _ h; exact h) (Or.inl ⟨by rfl, ?_⟩) (by assumption) ?_
      rotate_left
      · (intro w hSw; (try dsimp only at hSw); go_simp; all_goals with_reducible rfl)
      (try simp only [Act.put, List.setIfInBounds_toArray, List.set_cons_zero, List.set_cons_succ])
      refine wpAnyH_done (by kernel_rfl) ?_ _
      go_wp2_with fail
      go_roundw
      case rel => exact ⟨k + 1, by omega, by go_num, (Below.drew hB).trans (hb.mono hsz)⟩
      case measure => simp [intOf]; omega
    · go_wp2_with fail
      go_ret
      exact ⟨rfl, hB⟩
set_option maxHeartbeats 400000 in
theorem eqHeardS_zero (a a' : Option Addr) (c c' : Nat) (w : World) :
    Calls Tryd.prog 27 #[.slice a 0 c, .slice a' 0 c'] w fun e w' => e = .returned (.bool true) ∧ Below w.heap.size w w' := by
  go_enter Tryd.func27, Tryd.ntmps27
  go_wp2_with fail
  go_loopw [5] (fun i wr => i = .int .i64 0 ∧ w = wr) (fun i _ => 0)
  case atStart => exact ⟨rfl, rfl⟩
  case round =>
    obtain ⟨rfl, rfl⟩ := hrel
    go_wp2_with fail
    go_ret
    exact ⟨rfl, Below.refl _ _⟩
theorem eqHeardS_src (a a' : Option Addr) (n c c' : Nat) (M : Nat → VT) (w : World) (hn : n ≤ maxLen) (h : SrcC w a (n * 2) (MFIval M)) (h' : SrcC w a' (n * 2) (MFIval M)) :
    Calls Tryd.prog 27 #[.slice a n c, .slice a' n c'] w fun e w' => e = .returned (.bool true) ∧ Below w.heap.size w w' := by
  by_cases h0 : n = 0
  · subst h0; exact eqHeardS_zero a a' c c' w
  · rcases h with h | ⟨b, off, rfl, hp⟩
    · omega
    · rcases h' with h | ⟨b', off', rfl, hp'⟩
      · omega
      · exact eqHeardS_some b off b' off' n c c' M w hn hp hp'
set_option maxHeartbeats 8000000 in
theorem markHeardS_row (b N n c : Nat) (q0 : Int) (w : World) (hn : n ≤ 1048576) (hq : 0 < q0) (hq1 : q0 ≤ 1073741824) (hN : n * 2 ≤ N) (h : RowF w b 80 N 0 (mkIval q0)) :
    Calls Tryd.prog 29 #[.slice (some ⟨b, 0, none⟩) n c, .int .i64 q0] w fun e w' => e = .returned (.int .i64 (q0 + (n : Int) * 2)) ∧ RowF w' b 80 N (n * 2) (mkIval q0) ∧ But b w w' := by
  go_enter Tryd.func29, Tryd.ntmps29
  go_wp2_with fail
  go_loopw [1, 5] (fun q i wr => ∃ (k : Nat) (Q : Int), k ≤ n ∧ i = .int .i64 k ∧ q = .int .i64 Q ∧ Q = q0 + (k : Int) * 2 ∧ RowF wr b 80 N (k * 2) (mkIval q0) ∧ But b w wr) (fun _ i _ => n - (intOf i).toNat)
  case atStart => exact ⟨0, q0, Nat.zero_le _, rfl, rfl, by omega, h.eqm (by omega), But.refl _ _⟩
  case round =>
    obtain ⟨k, Q, hk, rfl, rfl, hQ, row, hB⟩ := hrel
    clear h
    have HQ : Hid (Q = q0 + (k : Int) * 2) := hQ
    by_cases hlt : k < n
    · have hli : (k : Int) < (n : Int) := by omega
      have Q0 : 0 < Q := by omega
      have Q1 : Q ≤ 1073741824 + 1048576 * 2 := by omega
      clear hQ
      have hlr := row.lt
      obtain ⟨⟨v0, e0⟩, f0⟩ := row.facts (k * 2) (by omega)
      obtain ⟨⟨v1, e1⟩, f1⟩ := row.facts (k * 2 + 1) (by omega)
      go_wp2_with fail
      go_roundw
      case rel => exact ⟨k + 1, _, by omega, by go_num, rfl, by have := HQ.out; omega, (RowF.put (RowF.put row (k * 2 + 1) (by omega) (mkIval_i (k := k) (j := 0) (by have := HQ.out; omega))) ((k + 1) * 2) (by omega) (mkIval_i (k := k) (j := 1) (by have := HQ.out; omega))), ((hB.setCell _ _).setCell _ _)⟩
      case measure => simp [intOf]; omega
    · have hkn : k = n := by omega
      subst hkn
      have hli : ¬ (k : Int) < (k : Int) := by omega
      subst hQ
      go_wp2_with fail
      go_ret
      exact ⟨rfl, row, hB⟩
set_option maxHeartbeats 400000 in
theorem markHeardS_zero (a : Option Addr) (c : Nat) (q0 : Int) (w : World) :
    Calls Tryd.prog 29 #[.slice a 0 c, .int .i64 q0] w fun e w' => e = .returned (.int .i64 q0) ∧ w = w' := by
  go_enter Tryd.func29, Tryd.ntmps29
  go_wp2_with fail
  go_loopw [1, 5] (fun q i wr => i = .int .i64 0 ∧ q = .int .i64 q0 ∧ w = wr) (fun _ i _ => 0)
  case atStart => exact ⟨rfl, rfl, by first | rfl | trivial⟩
  case round =>
    obtain ⟨rfl, rfl, rfl⟩ := hrel
    go_wp2_with fail
    go_ret
    exact ⟨rfl, rfl⟩
theorem markHeardS_any (a : Option Addr) (n c base : Nat) (q0 : Int) (xs : List Value) (w : World) (hn : n ≤ 1048576) (hq : 0 < q0) (hq1 : q0 ≤ 1073741824) (hb : base ≤ w.heap.size) (h : w.ownsRow base 80 2 (.slice a n c) n xs) :
    Calls Tryd.prog 29 #[.slice a n c, .int .i64 q0] w fun e w' => e = .returned (.int .i64 (q0 + (n : Int) * 2)) ∧ SrcC w' a (n * 2) (mkIval q0) ∧ Below base w w' := by
  rcases h.2 with ⟨he, h0⟩ | ⟨g, cap, cur, he, _⟩
  · subst h0
    exact (markHeardS_zero a c q0 w).mono fun e w' ⟨h1, h2⟩ => ⟨by rw [h1]; simp, .inl (by omega), h2 ▸ Below.refl _ _⟩
  · simp at he
    obtain ⟨rfl, rfl⟩ := he
    obtain ⟨h1, h2, _, h3⟩ := ownF_row (mkIval q0) h
    exact (markHeardS_row g (c * 2) n c q0 w hn hq hq1 (Nat.mul_le_mul_right _ h2) h3).mono fun e w' ⟨r1, r2, r3⟩ => ⟨r1, .inr ⟨g, 0, rfl, r2.cs (Nat.mul_le_mul_right _ h2)⟩, r3.below h1 hb⟩
theorem markHeardS_own (a : Option Addr) (n c base : Nat) (q0 : Int) (xs : List Value) (w : World) (hn : n ≤ 1048576) (hq : 0 < q0) (hq1 : q0 ≤ 1073741824) (h : w.ownsRow base 80 2 (.slice a n c) n xs) :
    Calls Tryd.prog 29 #[.slice a n c, .int .i64 q0] w fun e w' => e = .returned (.int .i64 (q0 + (n : Int) * 2)) ∧ SrcC w' a (n * 2) (mkIval q0) ∧ w.grownBy w' (Value.slice a n c).ownBlock := by
  rcases h.2 with ⟨he, h0⟩ | ⟨g, cap, cur, he, _⟩
  · simp at he
    obtain ⟨rfl, rfl, rfl⟩ := he
    exact (markHeardS_zero none 0 q0 w).mono fun e w' ⟨h1, h2⟩ => ⟨by rw [h1]; simp, .inl (by omega), h2 ▸ bel_grown (Below.refl _ _)⟩
  · simp at he
    obtain ⟨rfl, rfl⟩ := he
    obtain ⟨h1, h2, _, h3⟩ := ownF_row (mkIval q0) h
    exact (markHeardS_row g (c * 2) n c q0 w hn hq hq1 (Nat.mul_le_mul_right _ h2) h3).mono fun e w' ⟨r1, r2, r3⟩ => ⟨r1, .inr ⟨g, 0, rfl, r2.cs (Nat.mul_le_mul_right _ h2)⟩, r3.grK⟩
theorem info_heard : (Tryd.prog.info? 80).map (fun i => (i.zero, i.size, i.bytes)) = some (some (.agg #[.int .i64 0, .int .i64 0]), 2, 16) := by kernel_rfl
theorem heard_at (w : World) (p : VT) (T : TypeId) : ∀ j u, [.int .i64 p.1, .int .i64 p.2][j]? = some u → (w.alloc (.cells #[.int .i64 p.1, .int .i64 p.2] T)).cell? ((⟨w.heap.size, 0, none⟩ : Addr).add j) = some u := by
  intro j u h
  match j, h with
  | 0, h => simp at h; subst h; simp [Addr.add]
  | 1, h => simp at h; subst h; simp [Addr.add]
theorem add_heard {w : World} {ops : Array Oper} {rest : List Oper} {o : Oper} {a : Act} {Q : Exit → Act → World → Prop} {p0 : Int} {p1 : Int} (hgd : o.guard = none) (s x : Operand)
    (ho : o.op = .call { callee := .builtin .append, args := #[s, x], argTypes := #[24, 24] }) (base : Nat) (L : List VT) (v : Value) (hs : a.eval s = v) (hown : w.ownsRow base 80 2 v L.length (vrow L))
    (hx : a.eval x = .slice (some ⟨w.heap.size, 0, none⟩) 1 1) (hL : L.length ≤ 4096) (hbase : base ≤ w.heap.size)
    (h : ∀ v' w', w'.ownsRow base 80 2 v' (L ++ [(p0, p1)]).length (vrow (L ++ [(p0, p1)])) → w.grownBy w' v.ownBlock → (∀ g, v'.ownBlock = some g → v.ownBlock = some g ∨ w.heap.size ≤ g) → wpList Tryd.prog ops Q rest (a.put o.dst v') w') :
    wpList Tryd.prog ops Q (o :: rest) a (w.alloc (.cells #[.int .i64 p0, .int .i64 p1] 80)) := by
  obtain ⟨i0, hi, hz0, hz1, hz2⟩ := info_parts info_heard
  refine wpList_append_new hgd s x 24 ho base 80 i0 (.agg #[.int .i64 0, .int .i64 0]) 2 16 Tryd.underlying24 hi hz0 hz1 hz2 rfl (by decide) v L.length (vrow L) hs (World.ownsRow.alloc hown _) ⟨w.heap.size, 0, none⟩ 1 1 [.int .i64 p0, .int .i64 p1] hx rfl (heard_at w (p0, p1) 80) (by intro u hu; simp at hu; rcases hu with rfl | rfl <;> rfl) (by unfold maxLen; omega) (by omega) (by simp; omega) ?_
  intro v' w' h1 h2 h3
  refine h v' w' (by rw [vrow_snoc, List.length_append]; exact h1) ?_ (fun g hg => ?_)
  · exact ⟨h2.os, h2.tape, h2.output, Nat.le_trans (by simp) h2.size, fun k hk hne => (h2.block k (by simp; omega) hne).trans ((World.grownBy_alloc w _ none).block k hk (by simp))⟩
  · rcases h3 g hg with q | q
    · exact .inl q
    · exact .inr (by simp at q; omega)
theorem made_heard (w : World) : (w.alloc (.cells #[] 80)).ownsRow w.heap.size 80 2 (.slice (some ⟨w.heap.size, 0, none⟩) 0 0) ([] : List VT).length (vrow []) := World.ownsRow_made w #[] 0 (Nat.le_refl _) (by simp [maxLen]) (by simp)
theorem nil_heard (w : World) (B : Nat) : w.ownsRow B 80 2 (.slice none 0 0) ([] : List VT).length (vrow []) := World.ownsRow_nil w B 80 2
end Go.Proofs.YtdahabbdhjgpdaaDoor
