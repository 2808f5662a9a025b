/- Contracts of Nearest and Within. -/
import Derived.Test.YtdllkfllnljaaaaW2
import Derived.WalkKit
import Derived.WalkSpells
import Derived.WalkLawsBesides
import Derived.Deep.RegionHeld
namespace Go.Proofs.Ytdllkfllnljaaaa
open Go.RowKit
set_option linter.unusedVariables false
def nearI (lo hi t : Int) : Int := match okI lo hi with | true => imn (imx t lo) hi | false => 0
theorem nearI_t {lo hi t : Int} (h : okI lo hi = true) : nearI lo hi t = imn (imx t lo) hi := by rw [nearI, h]
theorem nearI_f {lo hi t : Int} (h : okI lo hi = false) : nearI lo hi t = 0 := by rw [nearI, h]
set_option maxHeartbeats 400000 in
theorem implNearest_any (lo hi t : Int) (w : World) :
    Calls Try.prog 62 #[.agg #[.int .i64 lo, .int .i64 hi], .int .i64 t] w fun e w' => e = .returned (.tuple #[.int .i64 (nearI lo hi t), .bool (okI lo hi)]) ∧ Below w.heap.size w w' := by
  cases h : okI lo hi
  · rw [nearI_f h]
    go_enter Try.func62, Try.ntmps62
    go_wp2_with (first | (go_at_call 50; refine (ok_any _ _ _).mono ?_; rintro e w' ⟨rfl, hb⟩; obtain ⟨hc, hf⟩ := bcell hb; (first | have hB := Below.trans (Below.trans hB (by repeat (first | exact Below.refl _ _ | refine Below.drew ?_ | refine Below.alloc ?_ (by first | (simp; done) | (simp; omega) | omega) _ | refine Below.setCell ?_ (by first | (simp; done) | (simp; omega) | omega) _ | refine Below.trans ?_ (Below.mono (by assumption) (by first | (simp; done) | (simp; omega) | omega))))) (Below.mono hb (by first | (simp; done) | (simp; omega) | omega)) | have hB := hb); obtain ⟨hC, hF⟩ := bcell hB; have hz := hb.size; (try simp at hz); (try (have hz0 : w.heap.size < w'.heap.size := by omega)); (try (have hz1 : w.heap.size + 1 < w'.heap.size := by omega)); (try (have hz2 : w.heap.size + 1 + 1 < w'.heap.size := by omega)); (try (have hz3 : w.heap.size + 1 + 1 + 1 < w'.heap.size := by omega))))
    go_ret2
    exact ⟨rfl, by repeat (first | exact Below.refl _ _ | refine Below.drew ?_ | refine Below.alloc ?_ (by first | (simp; done) | (simp; omega) | omega) _ | refine Below.setCell ?_ (by first | (simp; done) | (simp; omega) | omega) _ | refine Below.trans ?_ (Below.mono (by assumption) (by first | (simp; done) | (simp; omega) | omega)))⟩
  · rw [nearI_t h, imx_comm]
    go_enter Try.func62, Try.ntmps62
    go_wp2_with (first | (go_at_call 50; refine (ok_any _ _ _).mono ?_; rintro e w' ⟨rfl, hb⟩; obtain ⟨hc, hf⟩ := bcell hb; (first | have hB := Below.trans (Below.trans hB (by repeat (first | exact Below.refl _ _ | refine Below.drew ?_ | refine Below.alloc ?_ (by first | (simp; done) | (simp; omega) | omega) _ | refine Below.setCell ?_ (by first | (simp; done) | (simp; omega) | omega) _ | refine Below.trans ?_ (Below.mono (by assumption) (by first | (simp; done) | (simp; omega) | omega))))) (Below.mono hb (by first | (simp; done) | (simp; omega) | omega)) | have hB := hb); obtain ⟨hC, hF⟩ := bcell hB; have hz := hb.size; (try simp at hz); (try (have hz0 : w.heap.size < w'.heap.size := by omega)); (try (have hz1 : w.heap.size + 1 < w'.heap.size := by omega)); (try (have hz2 : w.heap.size + 1 + 1 < w'.heap.size := by omega)); (try (have hz3 : w.heap.size + 1 + 1 + 1 < w'.heap.size := by omega))) | (go_at_call 68; refine (ranked_any _ _ _).mono ?_; rintro e w' ⟨rfl, rfl⟩))
    go_ret2
    exact ⟨rfl, by repeat (first | exact Below.refl _ _ | refine Below.drew ?_ | refine Below.alloc ?_ (by first | (simp; done) | (simp; omega) | omega) _ | refine Below.setCell ?_ (by first | (simp; done) | (simp; omega) | omega) _ | refine Below.trans ?_ (Below.mono (by assumption) (by first | (simp; done) | (simp; omega) | omega)))⟩
def withinI (al ah bl bh : Int) : Bool := okII al ah bl bh && decide (bl ≤ al ∧ ah ≤ bh)
end Go.Proofs.Ytdllkfllnljaaaa
