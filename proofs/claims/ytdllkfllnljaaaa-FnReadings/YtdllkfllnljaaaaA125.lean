/- AppLag in the specification. -/
import Derived.Test.YtdllkfllnljaaaaA121
import Derived.WalkKit
import Derived.WalkSpells
import Derived.WalkLawsBesides
import Derived.Deep.RegionHeld
namespace Go.Proofs.Ytdllkfllnljaaaa
open Go.RowKit
set_option linter.unusedVariables false
/- How far a clock that is read is ahead. -/
def lgI (h : Bool) (l lo hi : Int) : Int := match (apB h l && (okI lo hi && h)) with | true => imx 0 (l - hi) | false => 0
theorem lgI_no {h : Bool} {l lo hi : Int} (e : (apB h l && (okI lo hi && h)) = false) : lgI h l lo hi = 0 := by unfold lgI; rw [e]
theorem lgI_yes {h : Bool} {l lo hi : Int} (e : (apB h l && (okI lo hi && h)) = true) : lgI h l lo hi = imx 0 (l - hi) := by unfold lgI; rw [e]
set_option maxRecDepth 100000 in
set_option maxHeartbeats 4000000 in
theorem specAppLag_any (h : Bool) (l : Int) (lo hi : Int) (w : World) : Calls Try.prog 25 #[.agg #[.bool h, .int .i64 l], .agg #[.int .i64 lo, .int .i64 hi]] w fun e w' => e = .returned (.int .i64 (lgI h l lo hi)) ∧ Below w.heap.size w w' := by
  have A0 := Below.nw w (.cells #[.bool h, .int .i64 l] 25)
  have A1 := Below.nw (w.alloc (.cells #[.bool h, .int .i64 l] 25)) (.cells #[.int .i64 lo, .int .i64 hi] 30)
  have N := (Bx2.new w (.bool h) (.int .i64 l) 25).below A1
  have Q := Bx2.new (w.alloc (.cells #[.bool h, .int .i64 l] 25)) (.int .i64 lo) (.int .i64 hi) 30
  have B := A0.trans (A1.mono A0.size)
  simp only [World.size_alloc] at Q
  clear A0 A1
  cases h1 : apB h l
  · rw [lgI_no (by rw [h1]; rfl)]
    go_enter Try.func25, Try.ntmps25; go_upto_region 1 with fail; generalize (w.alloc (.cells #[.bool h, .int .i64 l] 25)).alloc (.cells #[.int .i64 lo, .int .i64 hi] 30) = v at *; generalize w.heap.size + 1 = jb at *
    obtain ⟨n0, n1, n2, n3, n4⟩ := id N; go_wp2_with fail; refine (specAppOk_any h l v).mono ?_; rintro e v2 ⟨rfl, hbl⟩; rw [h1]; clear n0 n1 n2 n3 n4; replace N := N.below hbl; replace Q := Q.below hbl; replace B := B.trans (hbl.mono B.size); clear hbl
    go_wp2_with fail
    go_ret
    exact ⟨rfl, B⟩
  cases h2 : okI lo hi
  · rw [lgI_no (by rw [h1, h2]; rfl)]
    go_enter Try.func25, Try.ntmps25; go_upto_region 1 with fail; generalize (w.alloc (.cells #[.bool h, .int .i64 l] 25)).alloc (.cells #[.int .i64 lo, .int .i64 hi] 30) = v at *; generalize w.heap.size + 1 = jb at *
    obtain ⟨n0, n1, n2, n3, n4⟩ := id N; go_wp2_with fail; refine (specAppOk_any h l v).mono ?_; rintro e v2 ⟨rfl, hbl⟩; rw [h1]; clear n0 n1 n2 n3 n4; replace N := N.below hbl; replace Q := Q.below hbl; replace B := B.trans (hbl.mono B.size); clear hbl
    obtain ⟨m0, m1, m2, m3, m4⟩ := id Q; go_wp2_with fail; refine (specIvalOk_any lo hi v2).mono ?_; rintro e v3 ⟨rfl, hbl⟩; rw [h2]; clear m0 m1 m2 m3 m4; replace N := N.below hbl; replace Q := Q.below hbl; replace B := B.trans (hbl.mono B.size); clear hbl
    go_wp2_with fail
    go_ret
    exact ⟨rfl, B⟩
  cases h
  · rw [lgI_no (by rw [h1, h2]; rfl)]
    go_enter Try.func25, Try.ntmps25; go_upto_region 1 with fail; generalize (w.alloc (.cells #[.bool false, .int .i64 l] 25)).alloc (.cells #[.int .i64 lo, .int .i64 hi] 30) = v at *; generalize w.heap.size + 1 = jb at *
    obtain ⟨n0, n1, n2, n3, n4⟩ := id N; go_wp2_with fail; refine (specAppOk_any false l v).mono ?_; rintro e v2 ⟨rfl, hbl⟩; rw [h1]; clear n0 n1 n2 n3 n4; replace N := N.below hbl; replace Q := Q.below hbl; replace B := B.trans (hbl.mono B.size); clear hbl
    obtain ⟨m0, m1, m2, m3, m4⟩ := id Q; go_wp2_with fail; refine (specIvalOk_any lo hi v2).mono ?_; rintro e v3 ⟨rfl, hbl⟩; rw [h2]; clear m0 m1 m2 m3 m4; replace N := N.below hbl; replace Q := Q.below hbl; replace B := B.trans (hbl.mono B.size); clear hbl
    obtain ⟨n0, n1, n2, n3, n4⟩ := id N
    go_wp2_with fail
    go_ret
    exact ⟨rfl, B⟩
  · rw [lgI_yes (by rw [h1, h2]; rfl)]
    have i1 := okI_t h2
    have i2 := (apB_t h1).1
    have hw : IntKind.i64.wrap (l - hi) = l - hi := Go.IntWalk.i64_in _ ⟨by omega, by omega⟩
    have CX := fun w' => l1Max_any 0 (l - hi) w'
    generalize imx 0 (l - hi) = mx at *
    clear i1 i2
    go_enter Try.func25, Try.ntmps25; go_upto_region 1 with fail; generalize (w.alloc (.cells #[.bool true, .int .i64 l] 25)).alloc (.cells #[.int .i64 lo, .int .i64 hi] 30) = v at *; generalize w.heap.size + 1 = jb at *
    obtain ⟨n0, n1, n2, n3, n4⟩ := id N; go_wp2_with fail; refine (specAppOk_any true l v).mono ?_; rintro e v2 ⟨rfl, hbl⟩; rw [h1]; clear n0 n1 n2 n3 n4; replace N := N.below hbl; replace Q := Q.below hbl; replace B := B.trans (hbl.mono B.size); clear hbl
    obtain ⟨m0, m1, m2, m3, m4⟩ := id Q; go_wp2_with fail; refine (specIvalOk_any lo hi v2).mono ?_; rintro e v3 ⟨rfl, hbl⟩; rw [h2]; clear m0 m1 m2 m3 m4; replace N := N.below hbl; replace Q := Q.below hbl; replace B := B.trans (hbl.mono B.size); clear hbl
    obtain ⟨n0, n1, n2, n3, n4⟩ := id N
    obtain ⟨m0, m1, m2, m3, m4⟩ := id Q
    go_wp2_with fail
    refine (CX _).mono ?_
    rintro e w' ⟨rfl, rfl⟩
    go_wp2_with fail
    go_ret
    exact ⟨rfl, B⟩
end Go.Proofs.Ytdllkfllnljaaaa
