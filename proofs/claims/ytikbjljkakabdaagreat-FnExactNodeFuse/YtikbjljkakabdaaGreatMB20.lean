/- Contracts of the four roundings of chapter 2. Contracts of MayCount, B -/
import Derived.Deep.RegionHeld3
import Derived.Deep.DeepCutAuto
import Derived.Test.YtikbjljkakabdaaGreatMB0
import Derived.Test.YtikbjljkakabdaaGreatMB3
namespace Go.Proofs.YtikbjljkakabdaaGreat
open Go.RowKit
set_option linter.unusedVariables false
set_option maxRecDepth 100000
set_option maxHeartbeats 16000000
def rB (n d x r : Int) : Bool := okD n d && okT x && okT r
theorem rB_d {n d x r : Int} (h : okD n d = false) : rB n d x r = false := by simp [rB, h]
theorem rB_t {n d x r : Int} (h : okT x = false) : rB n d x r = false := by simp [rB, h]
theorem rB_r {n d x r : Int} (h : okD n d = true) (h' : okT x = true) : rB n d x r = okT r := by simp [rB, h, h']
theorem lV (n d x tuu fr : Int) (fv : Value) (w : World) (h : (okD n d && okT x) = false) :
 Calls Tryz.prog 233 #[.agg #[.int .i64 n, .int .i64 d], .int .i64 x, .int .i64 tuu, .int .i64 fr, fv] w fun e w' => e = .returned (.tuple #[.int .i64 0, .bool false]) ∧ Below w.heap.size w w' := by
 cases ho : okD n d
 ·go_enter Tryz.func233, Tryz.ntmps233
  go_wp2_with (first | (go_at_call 128; refine (cM _ _ _).mono ?_; rintro e w' ⟨rfl, hb⟩; obtain ⟨hc, hf⟩ := aj hb; (first | have hB := Below.trans (Below.trans hB zB) (Below.mono hb zL) | have hB := hb); obtain ⟨hC, hF⟩ := aj hB; have hz := hb.size; (try simp at hz); (first | have hz0 := zH4 w w' | have hz0 := zH3 w w' | have hz0 := zH2 w w' | have hz0 := zH1 w w' | skip)) | (go_at_call 127; refine (aD _ _).mono ?_; rintro e w' ⟨rfl, rfl⟩))
  go_ret2
  exact ⟨rfl, zB⟩
 ·have ht : okT x = false := by simpa [ho] using h
  go_enter Tryz.func233, Tryz.ntmps233
  go_wp2_with (first | (go_at_call 128; refine (cM _ _ _).mono ?_; rintro e w' ⟨rfl, hb⟩; obtain ⟨hc, hf⟩ := aj hb; (first | have hB := Below.trans (Below.trans hB zB) (Below.mono hb zL) | have hB := hb); obtain ⟨hC, hF⟩ := aj hB; have hz := hb.size; (try simp at hz); (first | have hz0 := zH4 w w' | have hz0 := zH3 w w' | have hz0 := zH2 w w' | have hz0 := zH1 w w' | skip)) | (go_at_call 127; refine (aD _ _).mono ?_; rintro e w' ⟨rfl, rfl⟩))
  go_ret2
  exact ⟨rfl, zB⟩
theorem pw (n d x tuu fr : Int) (w : World) (ho : okD n d = true) (ht : okT x = true) (h1 : 0 ≤ x * tuu) (h2 : x * tuu ≤ 4000000000000000000) (h3 : 0 < fr) (h4 : fr ≤ 4000000000000000000) :
 Calls Tryz.prog 233 #[.agg #[.int .i64 n, .int .i64 d], .int .i64 x, .int .i64 tuu, .int .i64 fr, .func (.func 235) #[] #[]] w fun e w' => e = .returned (.tuple #[.int .i64 (sel (okT (upI (x * tuu) fr)) (upI (x * tuu) fr)), .bool (okT (upI (x * tuu) fr))]) ∧ Below w.heap.size w w' := by
 cases hr : okT (upI (x * tuu) fr)
 ·rw [aK rfl]
  go_enter Tryz.func233, Tryz.ntmps233
  go_wp2_with (first | (go_at_call 128; refine (cM _ _ _).mono ?_; rintro e w' ⟨rfl, hb⟩; obtain ⟨hc, hf⟩ := aj hb; (first | have hB := Below.trans (Below.trans hB zB) (Below.mono hb zL) | have hB := hb); obtain ⟨hC, hF⟩ := aj hB; have hz := hb.size; (try simp at hz); (first | have hz0 := zH4 w w' | have hz0 := zH3 w w' | have hz0 := zH2 w w' | have hz0 := zH1 w w' | skip)) | (go_at_call 127; refine (aD _ _).mono ?_; rintro e w' ⟨rfl, rfl⟩) | (go_at_call 235; refine (fP _ _ _ (by omega) (by omega) (by omega) (by omega)).mono ?_; rintro e w' ⟨rfl, rfl⟩))
  go_ret2
  exact ⟨rfl, zB⟩
 ·rw [bo rfl]
  go_enter Tryz.func233, Tryz.ntmps233
  go_wp2_with (first | (go_at_call 128; refine (cM _ _ _).mono ?_; rintro e w' ⟨rfl, hb⟩; obtain ⟨hc, hf⟩ := aj hb; (first | have hB := Below.trans (Below.trans hB zB) (Below.mono hb zL) | have hB := hb); obtain ⟨hC, hF⟩ := aj hB; have hz := hb.size; (try simp at hz); (first | have hz0 := zH4 w w' | have hz0 := zH3 w w' | have hz0 := zH2 w w' | have hz0 := zH1 w w' | skip)) | (go_at_call 127; refine (aD _ _).mono ?_; rintro e w' ⟨rfl, rfl⟩) | (go_at_call 235; refine (fP _ _ _ (by omega) (by omega) (by omega) (by omega)).mono ?_; rintro e w' ⟨rfl, rfl⟩))
  go_ret2
  exact ⟨rfl, zB⟩
theorem pu (n d x tuu fr : Int) (w : World) (ho : okD n d = true) (ht : okT x = true) (h1 : 0 ≤ x * tuu) (h2 : x * tuu ≤ 4000000000000000000) (h3 : 0 < fr) (h4 : fr ≤ 4000000000000000000) :
 Calls Tryz.prog 233 #[.agg #[.int .i64 n, .int .i64 d], .int .i64 x, .int .i64 tuu, .int .i64 fr, .func (.func 237) #[] #[]] w fun e w' => e = .returned (.tuple #[.int .i64 (sel (okT (dnI (x * tuu) fr)) (dnI (x * tuu) fr)), .bool (okT (dnI (x * tuu) fr))]) ∧ Below w.heap.size w w' := by
 cases hr : okT (dnI (x * tuu) fr)
 ·rw [aK rfl]
  go_enter Tryz.func233, Tryz.ntmps233
  go_wp2_with (first | (go_at_call 128; refine (cM _ _ _).mono ?_; rintro e w' ⟨rfl, hb⟩; obtain ⟨hc, hf⟩ := aj hb; (first | have hB := Below.trans (Below.trans hB zB) (Below.mono hb zL) | have hB := hb); obtain ⟨hC, hF⟩ := aj hB; have hz := hb.size; (try simp at hz); (first | have hz0 := zH4 w w' | have hz0 := zH3 w w' | have hz0 := zH2 w w' | have hz0 := zH1 w w' | skip)) | (go_at_call 127; refine (aD _ _).mono ?_; rintro e w' ⟨rfl, rfl⟩) | (go_at_call 237; refine (dX _ _ _ (by omega) (by omega) (by omega) (by omega)).mono ?_; rintro e w' ⟨rfl, rfl⟩))
  go_ret2
  exact ⟨rfl, zB⟩
 ·rw [bo rfl]
  go_enter Tryz.func233, Tryz.ntmps233
  go_wp2_with (first | (go_at_call 128; refine (cM _ _ _).mono ?_; rintro e w' ⟨rfl, hb⟩; obtain ⟨hc, hf⟩ := aj hb; (first | have hB := Below.trans (Below.trans hB zB) (Below.mono hb zL) | have hB := hb); obtain ⟨hC, hF⟩ := aj hB; have hz := hb.size; (try simp at hz); (first | have hz0 := zH4 w w' | have hz0 := zH3 w w' | have hz0 := zH2 w w' | have hz0 := zH1 w w' | skip)) | (go_at_call 127; refine (aD _ _).mono ?_; rintro e w' ⟨rfl, rfl⟩) | (go_at_call 237; refine (dX _ _ _ (by omega) (by omega) (by omega) (by omega)).mono ?_; rintro e w' ⟨rfl, rfl⟩))
  go_ret2
  exact ⟨rfl, zB⟩
theorem bQ (n d x : Int) (w : World) :
 Calls Tryz.prog 117 #[.agg #[.int .i64 n, .int .i64 d], .int .i64 x] w fun e w' => e = .returned (.tuple #[.int .i64 (sel (rB n d x (upI (x * d) (d + n))) (upI (x * d) (d + n))), .bool (rB n d x (upI (x * d) (d + n)))]) ∧ Below w.heap.size w w' := by
 cases ho : okD n d
 ·rw [rB_d ho, aK rfl]
  go_enter Tryz.func117, Tryz.ntmps117
  go_wp2_with (first | (go_at_call 74; refine (aB _ _ _).mono ?_; rintro e w' ⟨rfl, hb⟩; obtain ⟨hc, hf⟩ := aj hb; (first | have hB := Below.trans (Below.trans hB zB) (Below.mono hb zL) | have hB := hb); obtain ⟨hC, hF⟩ := aj hB; have hz := hb.size; (try simp at hz); (first | have hz0 := zH4 w w' | have hz0 := zH3 w w' | have hz0 := zH2 w w' | have hz0 := zH1 w w' | skip)) | (go_at_call 75; refine (aw _ _).mono ?_; rintro e w' ⟨rfl, rfl⟩))
  go_ret2
  exact ⟨rfl, zB⟩
 cases ht : okT x
 ·rw [rB_t ht, aK rfl]
  go_enter Tryz.func117, Tryz.ntmps117
  go_wp2_with (first | (go_at_call 74; refine (aB _ _ _).mono ?_; rintro e w' ⟨rfl, hb⟩; obtain ⟨hc, hf⟩ := aj hb; (first | have hB := Below.trans (Below.trans hB zB) (Below.mono hb zL) | have hB := hb); obtain ⟨hC, hF⟩ := aj hB; have hz := hb.size; (try simp at hz); (first | have hz0 := zH4 w w' | have hz0 := zH3 w w' | have hz0 := zH2 w w' | have hz0 := zH1 w w' | skip)) | (go_at_call 75; refine (aw _ _).mono ?_; rintro e w' ⟨rfl, rfl⟩))
  go_ret2
  exact ⟨rfl, zB⟩
 rw [rB_r ho ht]
 have ⟨d1, d2, d3, d4⟩ := iy ho
 have ⟨t1, t2⟩ := cD ht
 have ⟨m1, m2⟩ := je (x := x) (y := d) (X := 1000000000000) (Y := 2000000) (by omega) (by omega) (by omega) (by omega)
 have ⟨v1, v2⟩ := ny (x := x * d) (n := d + n) m1 (by omega)
 go_enter Tryz.func117, Tryz.ntmps117
 go_wp2_with (first | (go_at_call 74; refine (aB _ _ _).mono ?_; rintro e w' ⟨rfl, hb⟩; obtain ⟨hc, hf⟩ := aj hb; (first | have hB := Below.trans (Below.trans hB zB) (Below.mono hb zL) | have hB := hb); obtain ⟨hC, hF⟩ := aj hB; have hz := hb.size; (try simp at hz); (first | have hz0 := zH4 w w' | have hz0 := zH3 w w' | have hz0 := zH2 w w' | have hz0 := zH1 w w' | skip)) | (go_at_call 75; refine (aw _ _).mono ?_; rintro e w' ⟨rfl, rfl⟩) | (go_at_call 158; refine (qh _ _ _ (by omega) (by omega) (by omega) (by omega)).mono ?_; rintro e w' ⟨rfl, rfl⟩) | (go_at_call 157; refine (fU _ _ (by first | assumption | (simp only [← dnI]; assumption) | omega)).mono ?_; rintro e w' ⟨rfl, rfl⟩))
 go_ret2
 exact ⟨rfl, zB⟩
theorem bN (n d x : Int) (w : World) :
 Calls Tryz.prog 216 #[.agg #[.int .i64 n, .int .i64 d], .int .i64 x] w fun e w' => e = .returned (.tuple #[.int .i64 (sel (rB n d x (upI (x * d) (d + n))) (upI (x * d) (d + n))), .bool (rB n d x (upI (x * d) (d + n)))]) ∧ Below w.heap.size w w' := by
 cases hg : okD n d && okT x
 ·rw [show rB n d x (upI (x * d) (d + n)) = false by simp [rB, hg], aK rfl]
  go_enter Tryz.func216, Tryz.ntmps216
  go_wp2_with fail
  go_region_held (fun w' => w'.cell? ⟨w.heap.size, 0, none⟩ = some (.int .i64 n) ∧ w'.cell? ⟨w.heap.size, 1, none⟩ = some (.int .i64 d)) (simp (maxDischargeDepth := 6) [go_sem, *]) (first | (go_at_call 234; refine (iX _ _ _).mono ?_; rintro e w' ⟨rfl, hb⟩; obtain ⟨hc, hf⟩ := aj hb; (first | have hB := Below.trans (Below.trans hB zB) (Below.mono hb zL) | have hB := hb); obtain ⟨hC, hF⟩ := aj hB; have hz := hb.size; (try simp at hz); (first | have hz0 := zH4 w w' | have hz0 := zH3 w w' | have hz0 := zH2 w w' | have hz0 := zH1 w w' | skip)) | (go_at_call 233; refine (lV _ _ _ _ _ _ _ hg).mono ?_; rintro e w' ⟨rfl, hb⟩; obtain ⟨hc, hf⟩ := aj hb; (first | have hB := Below.trans (Below.trans hB zB) (Below.mono hb zL) | have hB := hb); obtain ⟨hC, hF⟩ := aj hB; have hz := hb.size; (try simp at hz); (first | have hz0 := zH4 w w' | have hz0 := zH3 w w' | have hz0 := zH2 w w' | have hz0 := zH1 w w' | skip)))
  all_goals go_wp2
  all_goals go_ret2
  all_goals exact ⟨rfl, zB⟩
 have ho : okD n d = true := by simp at hg; exact hg.1
 have ht : okT x = true := by simp at hg; exact hg.2
 rw [rB_r ho ht]
 have ⟨d1, d2, d3, d4⟩ := iy ho
 have ⟨t1, t2⟩ := cD ht
 have ⟨m1, m2⟩ := je (x := x) (y := d) (X := 1000000000000) (Y := 2000000) (by omega) (by omega) (by omega) (by omega)
 go_enter Tryz.func216, Tryz.ntmps216
 go_wp2_with fail
 go_region_held (fun w' => w'.cell? ⟨w.heap.size, 0, none⟩ = some (.int .i64 n) ∧ w'.cell? ⟨w.heap.size, 1, none⟩ = some (.int .i64 d)) (simp (maxDischargeDepth := 6) [go_sem, *]) (first | (go_at_call 234; refine (kr _ _ _ ho).mono ?_; rintro e w' ⟨rfl, hb⟩; obtain ⟨hc, hf⟩ := aj hb; (first | have hB := Below.trans (Below.trans hB zB) (Below.mono hb zL) | have hB := hb); obtain ⟨hC, hF⟩ := aj hB; have hz := hb.size; (try simp at hz); (first | have hz0 := zH4 w w' | have hz0 := zH3 w w' | have hz0 := zH2 w w' | have hz0 := zH1 w w' | skip)) | (go_at_call 233; refine (pw _ _ _ _ _ _ ho ht (by omega) (by omega) (by omega) (by omega)).mono ?_; rintro e w' ⟨rfl, hb⟩; obtain ⟨hc, hf⟩ := aj hb; (first | have hB := Below.trans (Below.trans hB zB) (Below.mono hb zL) | have hB := hb); obtain ⟨hC, hF⟩ := aj hB; have hz := hb.size; (try simp at hz); (first | have hz0 := zH4 w w' | have hz0 := zH3 w w' | have hz0 := zH2 w w' | have hz0 := zH1 w w' | skip)))
 all_goals go_wp2
 all_goals go_ret2
 all_goals exact ⟨rfl, zB⟩
theorem bY (n d x : Int) (w : World) :
 Calls Tryz.prog 118 #[.agg #[.int .i64 n, .int .i64 d], .int .i64 x] w fun e w' => e = .returned (.tuple #[.int .i64 (sel (rB n d x (dnI (x * d) (d - n))) (dnI (x * d) (d - n))), .bool (rB n d x (dnI (x * d) (d - n)))]) ∧ Below w.heap.size w w' := by
 cases ho : okD n d
 ·rw [rB_d ho, aK rfl]
  go_enter Tryz.func118, Tryz.ntmps118
  go_wp2_with (first | (go_at_call 74; refine (aB _ _ _).mono ?_; rintro e w' ⟨rfl, hb⟩; obtain ⟨hc, hf⟩ := aj hb; (first | have hB := Below.trans (Below.trans hB zB) (Below.mono hb zL) | have hB := hb); obtain ⟨hC, hF⟩ := aj hB; have hz := hb.size; (try simp at hz); (first | have hz0 := zH4 w w' | have hz0 := zH3 w w' | have hz0 := zH2 w w' | have hz0 := zH1 w w' | skip)) | (go_at_call 75; refine (aw _ _).mono ?_; rintro e w' ⟨rfl, rfl⟩))
  go_ret2
  exact ⟨rfl, zB⟩
 cases ht : okT x
 ·rw [rB_t ht, aK rfl]
  go_enter Tryz.func118, Tryz.ntmps118
  go_wp2_with (first | (go_at_call 74; refine (aB _ _ _).mono ?_; rintro e w' ⟨rfl, hb⟩; obtain ⟨hc, hf⟩ := aj hb; (first | have hB := Below.trans (Below.trans hB zB) (Below.mono hb zL) | have hB := hb); obtain ⟨hC, hF⟩ := aj hB; have hz := hb.size; (try simp at hz); (first | have hz0 := zH4 w w' | have hz0 := zH3 w w' | have hz0 := zH2 w w' | have hz0 := zH1 w w' | skip)) | (go_at_call 75; refine (aw _ _).mono ?_; rintro e w' ⟨rfl, rfl⟩))
  go_ret2
  exact ⟨rfl, zB⟩
 rw [rB_r ho ht]
 have ⟨d1, d2, d3, d4⟩ := iy ho
 have ⟨t1, t2⟩ := cD ht
 have ⟨m1, m2⟩ := je (x := x) (y := d) (X := 1000000000000) (Y := 2000000) (by omega) (by omega) (by omega) (by omega)
 have ⟨v1, v2⟩ := pS (x := x * d) (n := d - n) m1 (by omega)
 go_enter Tryz.func118, Tryz.ntmps118
 go_wp2_with (first | (go_at_call 74; refine (aB _ _ _).mono ?_; rintro e w' ⟨rfl, hb⟩; obtain ⟨hc, hf⟩ := aj hb; (first | have hB := Below.trans (Below.trans hB zB) (Below.mono hb zL) | have hB := hb); obtain ⟨hC, hF⟩ := aj hB; have hz := hb.size; (try simp at hz); (first | have hz0 := zH4 w w' | have hz0 := zH3 w w' | have hz0 := zH2 w w' | have hz0 := zH1 w w' | skip)) | (go_at_call 75; refine (aw _ _).mono ?_; rintro e w' ⟨rfl, rfl⟩) | (go_at_call 159; refine (fT _ _ _ (by omega) (by omega) (by omega) (by omega)).mono ?_; rintro e w' ⟨rfl, rfl⟩) | (go_at_call 157; refine (fU _ _ (by first | assumption | (simp only [← dnI]; assumption) | omega)).mono ?_; rintro e w' ⟨rfl, rfl⟩))
 go_ret2
 exact ⟨rfl, zB⟩
theorem bV (n d x : Int) (w : World) :
 Calls Tryz.prog 217 #[.agg #[.int .i64 n, .int .i64 d], .int .i64 x] w fun e w' => e = .returned (.tuple #[.int .i64 (sel (rB n d x (dnI (x * d) (d - n))) (dnI (x * d) (d - n))), .bool (rB n d x (dnI (x * d) (d - n)))]) ∧ Below w.heap.size w w' := by
 cases hg : okD n d && okT x
 ·rw [show rB n d x (dnI (x * d) (d - n)) = false by simp [rB, hg], aK rfl]
  go_enter Tryz.func217, Tryz.ntmps217
  go_wp2_with fail
  go_region_held (fun w' => w'.cell? ⟨w.heap.size, 0, none⟩ = some (.int .i64 n) ∧ w'.cell? ⟨w.heap.size, 1, none⟩ = some (.int .i64 d)) (simp (maxDischargeDepth := 6) [go_sem, *]) (first | (go_at_call 236; refine (jp _ _ _).mono ?_; rintro e w' ⟨rfl, hb⟩; obtain ⟨hc, hf⟩ := aj hb; (first | have hB := Below.trans (Below.trans hB zB) (Below.mono hb zL) | have hB := hb); obtain ⟨hC, hF⟩ := aj hB; have hz := hb.size; (try simp at hz); (first | have hz0 := zH4 w w' | have hz0 := zH3 w w' | have hz0 := zH2 w w' | have hz0 := zH1 w w' | skip)) | (go_at_call 233; refine (lV _ _ _ _ _ _ _ hg).mono ?_; rintro e w' ⟨rfl, hb⟩; obtain ⟨hc, hf⟩ := aj hb; (first | have hB := Below.trans (Below.trans hB zB) (Below.mono hb zL) | have hB := hb); obtain ⟨hC, hF⟩ := aj hB; have hz := hb.size; (try simp at hz); (first | have hz0 := zH4 w w' | have hz0 := zH3 w w' | have hz0 := zH2 w w' | have hz0 := zH1 w w' | skip)))
  all_goals go_wp2
  all_goals go_ret2
  all_goals exact ⟨rfl, zB⟩
 have ho : okD n d = true := by simp at hg; exact hg.1
 have ht : okT x = true := by simp at hg; exact hg.2
 rw [rB_r ho ht]
 have ⟨d1, d2, d3, d4⟩ := iy ho
 have ⟨t1, t2⟩ := cD ht
 have ⟨m1, m2⟩ := je (x := x) (y := d) (X := 1000000000000) (Y := 2000000) (by omega) (by omega) (by omega) (by omega)
 go_enter Tryz.func217, Tryz.ntmps217
 go_wp2_with fail
 go_region_held (fun w' => w'.cell? ⟨w.heap.size, 0, none⟩ = some (.int .i64 n) ∧ w'.cell? ⟨w.heap.size, 1, none⟩ = some (.int .i64 d)) (simp (maxDischargeDepth := 6) [go_sem, *]) (first | (go_at_call 236; refine (lB _ _ _ ho).mono ?_; rintro e w' ⟨rfl, hb⟩; obtain ⟨hc, hf⟩ := aj hb; (first | have hB := Below.trans (Below.trans hB zB) (Below.mono hb zL) | have hB := hb); obtain ⟨hC, hF⟩ := aj hB; have hz := hb.size; (try simp at hz); (first | have hz0 := zH4 w w' | have hz0 := zH3 w w' | have hz0 := zH2 w w' | have hz0 := zH1 w w' | skip)) | (go_at_call 233; refine (pu _ _ _ _ _ _ ho ht (by omega) (by omega) (by omega) (by omega)).mono ?_; rintro e w' ⟨rfl, hb⟩; obtain ⟨hc, hf⟩ := aj hb; (first | have hB := Below.trans (Below.trans hB zB) (Below.mono hb zL) | have hB := hb); obtain ⟨hC, hF⟩ := aj hB; have hz := hb.size; (try simp at hz); (first | have hz0 := zH4 w w' | have hz0 := zH3 w w' | have hz0 := zH2 w w' | have hz0 := zH1 w w' | skip)))
 all_goals go_wp2
 all_goals go_ret2
 all_goals exact ⟨rfl, zB⟩
def btB (n d x : Int) : Bool := rB n d x (upI (x * d) (d + n)) && rB n d x (dnI (x * d) (d - n))
theorem fg (n d x : Int) (w : World) :
 Calls Tryz.prog 76 #[.agg #[.int .i64 n, .int .i64 d], .int .i64 x] w fun e w' => e = .returned (.tuple #[.agg #[.int .i64 (sel (btB n d x) (upI (x * d) (d + n))), .int .i64 (sel (btB n d x) (dnI (x * d) (d - n)))], .bool (btB n d x)]) ∧ Below w.heap.size w w' := by
 cases h1 : rB n d x (upI (x * d) (d + n))
 ·rw [show btB n d x = false by simp [btB, h1], aK rfl, aK rfl]
  go_enter Tryz.func76, Tryz.ntmps76
  go_wp2_with (first | (go_at_call 117; refine (bQ _ _ _ _).mono ?_; rintro e w' ⟨rfl, hb⟩; obtain ⟨hc, hf⟩ := aj hb; (first | have hB := Below.trans (Below.trans hB zB) (Below.mono hb zL) | have hB := hb); obtain ⟨hC, hF⟩ := aj hB; have hz := hb.size; (try simp at hz); (first | have hz0 := zH4 w w' | have hz0 := zH3 w w' | have hz0 := zH2 w w' | have hz0 := zH1 w w' | skip)) | (go_at_call 118; refine (bY _ _ _ _).mono ?_; rintro e w' ⟨rfl, hb⟩; obtain ⟨hc, hf⟩ := aj hb; (first | have hB := Below.trans (Below.trans hB zB) (Below.mono hb zL) | have hB := hb); obtain ⟨hC, hF⟩ := aj hB; have hz := hb.size; (try simp at hz); (first | have hz0 := zH4 w w' | have hz0 := zH3 w w' | have hz0 := zH2 w w' | have hz0 := zH1 w w' | skip)))
  exact bodyPost_ret (v := .tuple #[.agg #[.int .i64 0, .int .i64 0], .bool false]) (by simp (maxDischargeDepth := 6) [results, Tryz.results76, go_sem, *]) rfl ⟨rfl, zB⟩
 cases h2 : rB n d x (dnI (x * d) (d - n))
 ·rw [show btB n d x = false by simp [btB, h2], aK rfl, aK rfl]
  go_enter Tryz.func76, Tryz.ntmps76
  go_wp2_with (first | (go_at_call 117; refine (bQ _ _ _ _).mono ?_; rintro e w' ⟨rfl, hb⟩; obtain ⟨hc, hf⟩ := aj hb; (first | have hB := Below.trans (Below.trans hB zB) (Below.mono hb zL) | have hB := hb); obtain ⟨hC, hF⟩ := aj hB; have hz := hb.size; (try simp at hz); (first | have hz0 := zH4 w w' | have hz0 := zH3 w w' | have hz0 := zH2 w w' | have hz0 := zH1 w w' | skip)) | (go_at_call 118; refine (bY _ _ _ _).mono ?_; rintro e w' ⟨rfl, hb⟩; obtain ⟨hc, hf⟩ := aj hb; (first | have hB := Below.trans (Below.trans hB zB) (Below.mono hb zL) | have hB := hb); obtain ⟨hC, hF⟩ := aj hB; have hz := hb.size; (try simp at hz); (first | have hz0 := zH4 w w' | have hz0 := zH3 w w' | have hz0 := zH2 w w' | have hz0 := zH1 w w' | skip)))
  exact bodyPost_ret (v := .tuple #[.agg #[.int .i64 0, .int .i64 0], .bool false]) (by simp (maxDischargeDepth := 6) [results, Tryz.results76, go_sem, *]) rfl ⟨rfl, zB⟩
 rw [show btB n d x = true by simp [btB, h1, h2], bo rfl, bo rfl]
 have e1 : sel true (upI (x * d) (d + n)) = (upI (x * d) (d + n)) := rfl
 have e2 : sel true (dnI (x * d) (d - n)) = (dnI (x * d) (d - n)) := rfl
 go_enter Tryz.func76, Tryz.ntmps76
 go_wp2_with (first | (go_at_call 117; refine (bQ _ _ _ _).mono ?_; rintro e w' ⟨rfl, hb⟩; obtain ⟨hc, hf⟩ := aj hb; (first | have hB := Below.trans (Below.trans hB zB) (Below.mono hb zL) | have hB := hb); obtain ⟨hC, hF⟩ := aj hB; have hz := hb.size; (try simp at hz); (first | have hz0 := zH4 w w' | have hz0 := zH3 w w' | have hz0 := zH2 w w' | have hz0 := zH1 w w' | skip)) | (go_at_call 118; refine (bY _ _ _ _).mono ?_; rintro e w' ⟨rfl, hb⟩; obtain ⟨hc, hf⟩ := aj hb; (first | have hB := Below.trans (Below.trans hB zB) (Below.mono hb zL) | have hB := hb); obtain ⟨hC, hF⟩ := aj hB; have hz := hb.size; (try simp at hz); (first | have hz0 := zH4 w w' | have hz0 := zH3 w w' | have hz0 := zH2 w w' | have hz0 := zH1 w w' | skip)))
 exact bodyPost_ret (v := .tuple #[.agg #[.int .i64 (upI (x * d) (d + n)), .int .i64 (dnI (x * d) (d - n))], .bool true]) (by simp (maxDischargeDepth := 6) [results, Tryz.results76, go_sem, *]) rfl ⟨rfl, zB⟩
theorem ks (n d x : Int) (w : World) :
 Calls Tryz.prog 215 #[.agg #[.int .i64 n, .int .i64 d], .int .i64 x, .func (.func 216) #[] #[], .func (.func 217) #[] #[]] w fun e w' => e = .returned (.tuple #[.agg #[.int .i64 (sel (btB n d x) (upI (x * d) (d + n))), .int .i64 (sel (btB n d x) (dnI (x * d) (d - n)))], .bool (btB n d x)]) ∧ Below w.heap.size w w' := by
 cases h1 : rB n d x (upI (x * d) (d + n))
 ·rw [show btB n d x = false by simp [btB, h1], aK rfl, aK rfl]
  go_enter Tryz.func215, Tryz.ntmps215
  go_wp2_with (first | (go_at_call 216; refine (bN _ _ _ _).mono ?_; rintro e w' ⟨rfl, hb⟩; obtain ⟨hc, hf⟩ := aj hb; (first | have hB := Below.trans (Below.trans hB zB) (Below.mono hb zL) | have hB := hb); obtain ⟨hC, hF⟩ := aj hB; have hz := hb.size; (try simp at hz); (first | have hz0 := zH4 w w' | have hz0 := zH3 w w' | have hz0 := zH2 w w' | have hz0 := zH1 w w' | skip)) | (go_at_call 217; refine (bV _ _ _ _).mono ?_; rintro e w' ⟨rfl, hb⟩; obtain ⟨hc, hf⟩ := aj hb; (first | have hB := Below.trans (Below.trans hB zB) (Below.mono hb zL) | have hB := hb); obtain ⟨hC, hF⟩ := aj hB; have hz := hb.size; (try simp at hz); (first | have hz0 := zH4 w w' | have hz0 := zH3 w w' | have hz0 := zH2 w w' | have hz0 := zH1 w w' | skip)))
  exact bodyPost_ret (v := .tuple #[.agg #[.int .i64 0, .int .i64 0], .bool false]) (by simp (maxDischargeDepth := 6) [results, Tryz.results215, go_sem, *]) rfl ⟨rfl, zB⟩
 cases h2 : rB n d x (dnI (x * d) (d - n))
 ·rw [show btB n d x = false by simp [btB, h2], aK rfl, aK rfl]
  go_enter Tryz.func215, Tryz.ntmps215
  go_wp2_with (first | (go_at_call 216; refine (bN _ _ _ _).mono ?_; rintro e w' ⟨rfl, hb⟩; obtain ⟨hc, hf⟩ := aj hb; (first | have hB := Below.trans (Below.trans hB zB) (Below.mono hb zL) | have hB := hb); obtain ⟨hC, hF⟩ := aj hB; have hz := hb.size; (try simp at hz); (first | have hz0 := zH4 w w' | have hz0 := zH3 w w' | have hz0 := zH2 w w' | have hz0 := zH1 w w' | skip)) | (go_at_call 217; refine (bV _ _ _ _).mono ?_; rintro e w' ⟨rfl, hb⟩; obtain ⟨hc, hf⟩ := aj hb; (first | have hB := Below.trans (Below.trans hB zB) (Below.mono hb zL) | have hB := hb); obtain ⟨hC, hF⟩ := aj hB; have hz := hb.size; (try simp at hz); (first | have hz0 := zH4 w w' | have hz0 := zH3 w w' | have hz0 := zH2 w w' | have hz0 := zH1 w w' | skip)))
  exact bodyPost_ret (v := .tuple #[.agg #[.int .i64 0, .int .i64 0], .bool false]) (by simp (maxDischargeDepth := 6) [results, Tryz.results215, go_sem, *]) rfl ⟨rfl, zB⟩
 rw [show btB n d x = true by simp [btB, h1, h2], bo rfl, bo rfl]
 have e1 : sel true (upI (x * d) (d + n)) = (upI (x * d) (d + n)) := rfl
 have e2 : sel true (dnI (x * d) (d - n)) = (dnI (x * d) (d - n)) := rfl
 go_enter Tryz.func215, Tryz.ntmps215
 go_wp2_with (first | (go_at_call 216; refine (bN _ _ _ _).mono ?_; rintro e w' ⟨rfl, hb⟩; obtain ⟨hc, hf⟩ := aj hb; (first | have hB := Below.trans (Below.trans hB zB) (Below.mono hb zL) | have hB := hb); obtain ⟨hC, hF⟩ := aj hB; have hz := hb.size; (try simp at hz); (first | have hz0 := zH4 w w' | have hz0 := zH3 w w' | have hz0 := zH2 w w' | have hz0 := zH1 w w' | skip)) | (go_at_call 217; refine (bV _ _ _ _).mono ?_; rintro e w' ⟨rfl, hb⟩; obtain ⟨hc, hf⟩ := aj hb; (first | have hB := Below.trans (Below.trans hB zB) (Below.mono hb zL) | have hB := hb); obtain ⟨hC, hF⟩ := aj hB; have hz := hb.size; (try simp at hz); (first | have hz0 := zH4 w w' | have hz0 := zH3 w w' | have hz0 := zH2 w w' | have hz0 := zH1 w w' | skip)))
 exact bodyPost_ret (v := .tuple #[.agg #[.int .i64 (upI (x * d) (d + n)), .int .i64 (dnI (x * d) (d - n))], .bool true]) (by simp (maxDischargeDepth := 6) [results, Tryz.results215, go_sem, *]) rfl ⟨rfl, zB⟩
theorem e7 (n d x : Int) (w : World) :
 Calls Tryz.prog 196 #[.agg #[.int .i64 n, .int .i64 d], .int .i64 x] w fun e w' => e = .returned (.tuple #[.agg #[.int .i64 (sel (btB n d x) (upI (x * d) (d + n))), .int .i64 (sel (btB n d x) (dnI (x * d) (d - n)))], .bool (btB n d x)]) ∧ Below w.heap.size w w' := by
 go_enter Tryz.func196, Tryz.ntmps196
 go_wp2_with (first | (go_at_call 215; refine (ks _ _ _ _).mono ?_; rintro e w' ⟨rfl, hb⟩; obtain ⟨hc, hf⟩ := aj hb; (first | have hB := Below.trans (Below.trans hB zB) (Below.mono hb zL) | have hB := hb); obtain ⟨hC, hF⟩ := aj hB; have hz := hb.size; (try simp at hz); (first | have hz0 := zH4 w w' | have hz0 := zH3 w w' | have hz0 := zH2 w w' | have hz0 := zH1 w w' | skip)))
 exact bodyPost_ret (v := .tuple #[.agg #[.int .i64 (sel (btB n d x) (upI (x * d) (d + n))), .int .i64 (sel (btB n d x) (dnI (x * d) (d - n)))], .bool (btB n d x)]) (by simp (maxDischargeDepth := 6) [results, Tryz.results196, go_sem, *]) rfl ⟨rfl, zB⟩
def crC (kn : Bool) (lo hi a n d c : Int) : Int := if okL kn lo hi a && okD n d && okT c then (if kn then (if c < a then 3 else if btB n d (c - a) then (if bv lo hi (upI ((c - a) * d) (d + n)) (dnI ((c - a) * d) (d - n)) then 0 else 4) else 4) else 2) else 1
def crL (kn : Bool) (lo hi a n d c : Int) : Int := if crC kn lo hi a n d c = 0 then lo + upI ((c - a) * d) (d + n) else 0
def crH (kn : Bool) (lo hi a n d c : Int) : Int := if crC kn lo hi a n d c = 0 then hi + dnI ((c - a) * d) (d - n) else 0
def crP (kn : Bool) (lo hi a n d c : Int) : Bool := okL kn lo hi a && okD n d && okT c
theorem pP {kn : Bool} {lo hi a n d c : Int} (h : crP kn lo hi a n d c = false) : crC kn lo hi a n d c = 1 ∧ crL kn lo hi a n d c = 0 ∧ crH kn lo hi a n d c = 0 := by
 have e : crC kn lo hi a n d c = 1 := by unfold crC; unfold crP at h; rw [h]; rfl
 exact ⟨e, by simp [crL, e], by simp [crH, e]⟩
theorem pQ {lo hi a n d c : Int} (h : crP false lo hi a n d c = true) : crC false lo hi a n d c = 2 ∧ crL false lo hi a n d c = 0 ∧ crH false lo hi a n d c = 0 := by
 have e : crC false lo hi a n d c = 2 := by unfold crC; unfold crP at h; rw [h]; rfl
 exact ⟨e, by simp [crL, e], by simp [crH, e]⟩
theorem nK {lo hi a n d c : Int} (h : crP true lo hi a n d c = true) (h3 : c < a) : crC true lo hi a n d c = 3 ∧ crL true lo hi a n d c = 0 ∧ crH true lo hi a n d c = 0 := by
 have e : crC true lo hi a n d c = 3 := by unfold crC; unfold crP at h; rw [h]; simp [h3]
 exact ⟨e, by simp [crL, e], by simp [crH, e]⟩
theorem nL {lo hi a n d c : Int} (h : crP true lo hi a n d c = true) (h3 : ¬ c < a) (h4 : btB n d (c - a) = false) : crC true lo hi a n d c = 4 ∧ crL true lo hi a n d c = 0 ∧ crH true lo hi a n d c = 0 := by
 have e : crC true lo hi a n d c = 4 := by unfold crC; unfold crP at h; rw [h]; simp [h3, h4]
 exact ⟨e, by simp [crL, e], by simp [crH, e]⟩
theorem nM {lo hi a n d c : Int} (h : crP true lo hi a n d c = true) (h3 : ¬ c < a) (h4 : btB n d (c - a) = true) (h5 : bv lo hi (upI ((c - a) * d) (d + n)) (dnI ((c - a) * d) (d - n)) = false) : crC true lo hi a n d c = 4 ∧ crL true lo hi a n d c = 0 ∧ crH true lo hi a n d c = 0 := by
 have e : crC true lo hi a n d c = 4 := by unfold crC; unfold crP at h; rw [h]; simp [h3, h4, h5]
 exact ⟨e, by simp [crL, e], by simp [crH, e]⟩
theorem nJ {lo hi a n d c : Int} (h : crP true lo hi a n d c = true) (h3 : ¬ c < a) (h4 : btB n d (c - a) = true) (h5 : bv lo hi (upI ((c - a) * d) (d + n)) (dnI ((c - a) * d) (d - n)) = true) : crC true lo hi a n d c = 0 ∧ crL true lo hi a n d c = lo + upI ((c - a) * d) (d + n) ∧ crH true lo hi a n d c = hi + dnI ((c - a) * d) (d - n) := by
 have e : crC true lo hi a n d c = 0 := by unfold crC; unfold crP at h; rw [h]; simp [h3, h4, h5]
 exact ⟨e, by simp [crL, e], by simp [crH, e]⟩
theorem pR {lo hi a n d c : Int} (h : crP true lo hi a n d c = true) : okI lo hi = true ∧ okT a = true ∧ okD n d = true ∧ okT c = true := by
 simp [crP] at h; have := okL_t h.1.1; exact ⟨this.1, this.2, h.1.2, h.2⟩
theorem bi (kn : Bool) (lo hi a n d c : Int) (w : World) :
 Calls Tryz.prog 29 #[.agg #[.bool kn, .int .i64 lo, .int .i64 hi, .int .i64 a], .agg #[.int .i64 n, .int .i64 d], .int .i64 c] w fun e w' => e = .returned (.tuple #[.agg #[.int .i64 (crL kn lo hi a n d c), .int .i64 (crH kn lo hi a n d c)], .int .i64 (crC kn lo hi a n d c)]) ∧ Below w.heap.size w w' := by
 cases hp : crP kn lo hi a n d c
 ·obtain ⟨e1, e2, e3⟩ := pP hp
  rw [e1, e2, e3]
  clear e1 e2 e3
  cases h1 : okL kn lo hi a
  ·go_enter Tryz.func29, Tryz.ntmps29
   go_wp2_with (first | (go_at_call 73; refine (aR _ _ _ _ _).mono ?_; rintro e w' ⟨rfl, hb⟩; obtain ⟨hc, hf⟩ := aj hb; (first | have hB := Below.trans (Below.trans hB zB) (Below.mono hb zL) | have hB := hb); obtain ⟨hC, hF⟩ := aj hB; have hz := hb.size; (try simp at hz); (first | have hz0 := zH4 w w' | have hz0 := zH3 w w' | have hz0 := zH2 w w' | have hz0 := zH1 w w' | skip)) | (go_at_call 74; refine (aB _ _ _).mono ?_; rintro e w' ⟨rfl, hb⟩; obtain ⟨hc, hf⟩ := aj hb; (first | have hB := Below.trans (Below.trans hB zB) (Below.mono hb zL) | have hB := hb); obtain ⟨hC, hF⟩ := aj hB; have hz := hb.size; (try simp at hz); (first | have hz0 := zH4 w w' | have hz0 := zH3 w w' | have hz0 := zH2 w w' | have hz0 := zH1 w w' | skip)) | (go_at_call 75; refine (aw _ _).mono ?_; rintro e w' ⟨rfl, rfl⟩))
   exact bodyPost_ret (v := .tuple #[.agg #[.int .i64 0, .int .i64 0], .int .i64 1]) (by simp (maxDischargeDepth := 6) [results, Tryz.results29, go_sem, *]) rfl ⟨rfl, zB⟩
  cases h2 : okD n d
  ·go_enter Tryz.func29, Tryz.ntmps29
   go_wp2_with (first | (go_at_call 73; refine (aR _ _ _ _ _).mono ?_; rintro e w' ⟨rfl, hb⟩; obtain ⟨hc, hf⟩ := aj hb; (first | have hB := Below.trans (Below.trans hB zB) (Below.mono hb zL) | have hB := hb); obtain ⟨hC, hF⟩ := aj hB; have hz := hb.size; (try simp at hz); (first | have hz0 := zH4 w w' | have hz0 := zH3 w w' | have hz0 := zH2 w w' | have hz0 := zH1 w w' | skip)) | (go_at_call 74; refine (aB _ _ _).mono ?_; rintro e w' ⟨rfl, hb⟩; obtain ⟨hc, hf⟩ := aj hb; (first | have hB := Below.trans (Below.trans hB zB) (Below.mono hb zL) | have hB := hb); obtain ⟨hC, hF⟩ := aj hB; have hz := hb.size; (try simp at hz); (first | have hz0 := zH4 w w' | have hz0 := zH3 w w' | have hz0 := zH2 w w' | have hz0 := zH1 w w' | skip)) | (go_at_call 75; refine (aw _ _).mono ?_; rintro e w' ⟨rfl, rfl⟩))
   exact bodyPost_ret (v := .tuple #[.agg #[.int .i64 0, .int .i64 0], .int .i64 1]) (by simp (maxDischargeDepth := 6) [results, Tryz.results29, go_sem, *]) rfl ⟨rfl, zB⟩
  have h3 : okT c = false := by simpa [crP, h1, h2] using hp
  go_enter Tryz.func29, Tryz.ntmps29
  go_wp2_with (first | (go_at_call 73; refine (aR _ _ _ _ _).mono ?_; rintro e w' ⟨rfl, hb⟩; obtain ⟨hc, hf⟩ := aj hb; (first | have hB := Below.trans (Below.trans hB zB) (Below.mono hb zL) | have hB := hb); obtain ⟨hC, hF⟩ := aj hB; have hz := hb.size; (try simp at hz); (first | have hz0 := zH4 w w' | have hz0 := zH3 w w' | have hz0 := zH2 w w' | have hz0 := zH1 w w' | skip)) | (go_at_call 74; refine (aB _ _ _).mono ?_; rintro e w' ⟨rfl, hb⟩; obtain ⟨hc, hf⟩ := aj hb; (first | have hB := Below.trans (Below.trans hB zB) (Below.mono hb zL) | have hB := hb); obtain ⟨hC, hF⟩ := aj hB; have hz := hb.size; (try simp at hz); (first | have hz0 := zH4 w w' | have hz0 := zH3 w w' | have hz0 := zH2 w w' | have hz0 := zH1 w w' | skip)) | (go_at_call 75; refine (aw _ _).mono ?_; rintro e w' ⟨rfl, rfl⟩))
  exact bodyPost_ret (v := .tuple #[.agg #[.int .i64 0, .int .i64 0], .int .i64 1]) (by simp (maxDischargeDepth := 6) [results, Tryz.results29, go_sem, *]) rfl ⟨rfl, zB⟩
 have hp3 : okL kn lo hi a = true ∧ okD n d = true ∧ okT c = true := by simp [crP] at hp; exact ⟨hp.1.1, hp.1.2, hp.2⟩
 obtain ⟨h1, h2, h3⟩ := hp3
 cases kn
 ·obtain ⟨e1, e2, e3⟩ := pQ hp
  rw [e1, e2, e3]
  clear e1 e2 e3 hp
  go_enter Tryz.func29, Tryz.ntmps29
  go_wp2_with (first | (go_at_call 73; refine (aR _ _ _ _ _).mono ?_; rintro e w' ⟨rfl, hb⟩; obtain ⟨hc, hf⟩ := aj hb; (first | have hB := Below.trans (Below.trans hB zB) (Below.mono hb zL) | have hB := hb); obtain ⟨hC, hF⟩ := aj hB; have hz := hb.size; (try simp at hz); (first | have hz0 := zH4 w w' | have hz0 := zH3 w w' | have hz0 := zH2 w w' | have hz0 := zH1 w w' | skip)) | (go_at_call 74; refine (aB _ _ _).mono ?_; rintro e w' ⟨rfl, hb⟩; obtain ⟨hc, hf⟩ := aj hb; (first | have hB := Below.trans (Below.trans hB zB) (Below.mono hb zL) | have hB := hb); obtain ⟨hC, hF⟩ := aj hB; have hz := hb.size; (try simp at hz); (first | have hz0 := zH4 w w' | have hz0 := zH3 w w' | have hz0 := zH2 w w' | have hz0 := zH1 w w' | skip)) | (go_at_call 75; refine (aw _ _).mono ?_; rintro e w' ⟨rfl, rfl⟩))
  exact bodyPost_ret (v := .tuple #[.agg #[.int .i64 0, .int .i64 0], .int .i64 2]) (by simp (maxDischargeDepth := 6) [results, Tryz.results29, go_sem, *]) rfl ⟨rfl, zB⟩
 by_cases h4 : c < a
 ·obtain ⟨e1, e2, e3⟩ := nK hp h4
  rw [e1, e2, e3]
  clear e1 e2 e3 hp
  go_enter Tryz.func29, Tryz.ntmps29
  go_wp2_with (first | (go_at_call 73; refine (aR _ _ _ _ _).mono ?_; rintro e w' ⟨rfl, hb⟩; obtain ⟨hc, hf⟩ := aj hb; (first | have hB := Below.trans (Below.trans hB zB) (Below.mono hb zL) | have hB := hb); obtain ⟨hC, hF⟩ := aj hB; have hz := hb.size; (try simp at hz); (first | have hz0 := zH4 w w' | have hz0 := zH3 w w' | have hz0 := zH2 w w' | have hz0 := zH1 w w' | skip)) | (go_at_call 74; refine (aB _ _ _).mono ?_; rintro e w' ⟨rfl, hb⟩; obtain ⟨hc, hf⟩ := aj hb; (first | have hB := Below.trans (Below.trans hB zB) (Below.mono hb zL) | have hB := hb); obtain ⟨hC, hF⟩ := aj hB; have hz := hb.size; (try simp at hz); (first | have hz0 := zH4 w w' | have hz0 := zH3 w w' | have hz0 := zH2 w w' | have hz0 := zH1 w w' | skip)) | (go_at_call 75; refine (aw _ _).mono ?_; rintro e w' ⟨rfl, rfl⟩))
  exact bodyPost_ret (v := .tuple #[.agg #[.int .i64 0, .int .i64 0], .int .i64 3]) (by simp (maxDischargeDepth := 6) [results, Tryz.results29, go_sem, *]) rfl ⟨rfl, zB⟩
 obtain ⟨_, p2, _, _⟩ := pR hp
 obtain ⟨a1, a2⟩ := cD p2
 obtain ⟨c1, c2⟩ := cD h3
 have CB := fun w' => fg n d (c - a) w'
 cases h5 : btB n d (c - a)
 ·obtain ⟨e1, e2, e3⟩ := nL hp h4 h5
  rw [e1, e2, e3]
  rw [h5, aK rfl, aK rfl] at CB
  clear e1 e2 e3 hp p2
  go_enter Tryz.func29, Tryz.ntmps29
  go_wp2_with (first | (go_at_call 76; refine (CB _).mono ?_; rintro e w' ⟨rfl, hb⟩; obtain ⟨hc, hf⟩ := aj hb; (first | have hB := Below.trans (Below.trans hB zB) (Below.mono hb zL) | have hB := hb); obtain ⟨hC, hF⟩ := aj hB; have hz := hb.size; (try simp at hz); (first | have hz0 := zH4 w w' | have hz0 := zH3 w w' | have hz0 := zH2 w w' | have hz0 := zH1 w w' | skip)) | (first | (go_at_call 73; refine (aR _ _ _ _ _).mono ?_; rintro e w' ⟨rfl, hb⟩; obtain ⟨hc, hf⟩ := aj hb; (first | have hB := Below.trans (Below.trans hB zB) (Below.mono hb zL) | have hB := hb); obtain ⟨hC, hF⟩ := aj hB; have hz := hb.size; (try simp at hz); (first | have hz0 := zH4 w w' | have hz0 := zH3 w w' | have hz0 := zH2 w w' | have hz0 := zH1 w w' | skip)) | (go_at_call 74; refine (aB _ _ _).mono ?_; rintro e w' ⟨rfl, hb⟩; obtain ⟨hc, hf⟩ := aj hb; (first | have hB := Below.trans (Below.trans hB zB) (Below.mono hb zL) | have hB := hb); obtain ⟨hC, hF⟩ := aj hB; have hz := hb.size; (try simp at hz); (first | have hz0 := zH4 w w' | have hz0 := zH3 w w' | have hz0 := zH2 w w' | have hz0 := zH1 w w' | skip)) | (go_at_call 75; refine (aw _ _).mono ?_; rintro e w' ⟨rfl, rfl⟩)))
  exact bodyPost_ret (v := .tuple #[.agg #[.int .i64 0, .int .i64 0], .int .i64 4]) (by simp (maxDischargeDepth := 6) [results, Tryz.results29, go_sem, *]) rfl ⟨rfl, zB⟩
 rw [h5, bo rfl, bo rfl] at CB
 have CP := fun w' => eK lo hi (upI ((c - a) * d) (d + n)) (dnI ((c - a) * d) (d - n)) w'
 cases h6 : bv lo hi (upI ((c - a) * d) (d + n)) (dnI ((c - a) * d) (d - n))
 ·obtain ⟨e1, e2, e3⟩ := nM hp h4 h5 h6
  rw [e1, e2, e3]
  rw [h6, aK rfl, aK rfl] at CP
  clear e1 e2 e3 hp p2 h6
  generalize upI ((c - a) * d) (d + n) = U at *
  generalize dnI ((c - a) * d) (d - n) = D at *
  go_enter Tryz.func29, Tryz.ntmps29
  go_wp2_with (first | (go_at_call 76; refine (CB _).mono ?_; rintro e w' ⟨rfl, hb⟩; obtain ⟨hc, hf⟩ := aj hb; (first | have hB := Below.trans (Below.trans hB zB) (Below.mono hb zL) | have hB := hb); obtain ⟨hC, hF⟩ := aj hB; have hz := hb.size; (try simp at hz); (first | have hz0 := zH4 w w' | have hz0 := zH3 w w' | have hz0 := zH2 w w' | have hz0 := zH1 w w' | skip)) | (go_at_call 77; refine (CP _).mono ?_; rintro e w' ⟨rfl, hb⟩; obtain ⟨hc, hf⟩ := aj hb; (first | have hB := Below.trans (Below.trans hB zB) (Below.mono hb zL) | have hB := hb); obtain ⟨hC, hF⟩ := aj hB; have hz := hb.size; (try simp at hz); (first | have hz0 := zH4 w w' | have hz0 := zH3 w w' | have hz0 := zH2 w w' | have hz0 := zH1 w w' | skip)) | (first | (go_at_call 73; refine (aR _ _ _ _ _).mono ?_; rintro e w' ⟨rfl, hb⟩; obtain ⟨hc, hf⟩ := aj hb; (first | have hB := Below.trans (Below.trans hB zB) (Below.mono hb zL) | have hB := hb); obtain ⟨hC, hF⟩ := aj hB; have hz := hb.size; (try simp at hz); (first | have hz0 := zH4 w w' | have hz0 := zH3 w w' | have hz0 := zH2 w w' | have hz0 := zH1 w w' | skip)) | (go_at_call 74; refine (aB _ _ _).mono ?_; rintro e w' ⟨rfl, hb⟩; obtain ⟨hc, hf⟩ := aj hb; (first | have hB := Below.trans (Below.trans hB zB) (Below.mono hb zL) | have hB := hb); obtain ⟨hC, hF⟩ := aj hB; have hz := hb.size; (try simp at hz); (first | have hz0 := zH4 w w' | have hz0 := zH3 w w' | have hz0 := zH2 w w' | have hz0 := zH1 w w' | skip)) | (go_at_call 75; refine (aw _ _).mono ?_; rintro e w' ⟨rfl, rfl⟩)))
  exact bodyPost_ret (v := .tuple #[.agg #[.int .i64 0, .int .i64 0], .int .i64 4]) (by simp (maxDischargeDepth := 6) [results, Tryz.results29, go_sem, *]) rfl ⟨rfl, zB⟩
 obtain ⟨e1, e2, e3⟩ := nJ hp h4 h5 h6
 rw [e1, e2, e3]
 rw [h6, bo rfl, bo rfl] at CP
 clear e1 e2 e3 hp p2 h6
 generalize upI ((c - a) * d) (d + n) = U at *
 generalize dnI ((c - a) * d) (d - n) = D at *
 generalize lo + U = X at *
 generalize hi + D = Y at *
 go_enter Tryz.func29, Tryz.ntmps29
 go_wp2_with (first | (go_at_call 76; refine (CB _).mono ?_; rintro e w' ⟨rfl, hb⟩; obtain ⟨hc, hf⟩ := aj hb; (first | have hB := Below.trans (Below.trans hB zB) (Below.mono hb zL) | have hB := hb); obtain ⟨hC, hF⟩ := aj hB; have hz := hb.size; (try simp at hz); (first | have hz0 := zH4 w w' | have hz0 := zH3 w w' | have hz0 := zH2 w w' | have hz0 := zH1 w w' | skip)) | (go_at_call 77; refine (CP _).mono ?_; rintro e w' ⟨rfl, hb⟩; obtain ⟨hc, hf⟩ := aj hb; (first | have hB := Below.trans (Below.trans hB zB) (Below.mono hb zL) | have hB := hb); obtain ⟨hC, hF⟩ := aj hB; have hz := hb.size; (try simp at hz); (first | have hz0 := zH4 w w' | have hz0 := zH3 w w' | have hz0 := zH2 w w' | have hz0 := zH1 w w' | skip)) | (first | (go_at_call 73; refine (aR _ _ _ _ _).mono ?_; rintro e w' ⟨rfl, hb⟩; obtain ⟨hc, hf⟩ := aj hb; (first | have hB := Below.trans (Below.trans hB zB) (Below.mono hb zL) | have hB := hb); obtain ⟨hC, hF⟩ := aj hB; have hz := hb.size; (try simp at hz); (first | have hz0 := zH4 w w' | have hz0 := zH3 w w' | have hz0 := zH2 w w' | have hz0 := zH1 w w' | skip)) | (go_at_call 74; refine (aB _ _ _).mono ?_; rintro e w' ⟨rfl, hb⟩; obtain ⟨hc, hf⟩ := aj hb; (first | have hB := Below.trans (Below.trans hB zB) (Below.mono hb zL) | have hB := hb); obtain ⟨hC, hF⟩ := aj hB; have hz := hb.size; (try simp at hz); (first | have hz0 := zH4 w w' | have hz0 := zH3 w w' | have hz0 := zH2 w w' | have hz0 := zH1 w w' | skip)) | (go_at_call 75; refine (aw _ _).mono ?_; rintro e w' ⟨rfl, rfl⟩)))
 exact bodyPost_ret (v := .tuple #[.agg #[.int .i64 X, .int .i64 Y], .int .i64 0]) (by simp (maxDischargeDepth := 6) [results, Tryz.results29, go_sem, *]) rfl ⟨rfl, zB⟩
end Go.Proofs.YtikbjljkakabdaaGreat
