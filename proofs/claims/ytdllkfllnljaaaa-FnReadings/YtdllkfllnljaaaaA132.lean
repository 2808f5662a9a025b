/- The program: a clock, a look, a reading; what a reading comes to. -/
import Derived.Test.YtdllkfllnljaaaaA128
import Derived.Test.YtdllkfllnljaaaaW7
import Derived.WalkKit
import Derived.WalkSpells
import Derived.WalkLawsBesides
import Derived.Deep.RegionHeld
namespace Go.Proofs.Ytdllkfllnljaaaa
open Go.RowKit
set_option linter.unusedVariables false
/- The program's clock: when it is right, whether it is ahead, what it tells at least. -/
set_option maxHeartbeats 2000000 in
theorem appok_any (h : Bool) (l : Int) (w : World) : Calls Try.prog 45 #[.agg #[.bool h, .int .i64 l]] w fun e w' => e = .returned (.bool (apB h l)) ∧ Below w.heap.size w w' := by
  have A := Below.nw w (.cells #[.bool h, .int .i64 l] 25)
  by_cases h1 : -1000000000000 ≤ l
  · by_cases h2 : l ≤ 1000000000000
    · have e0 : apB h l = (h || (l == 0)) := by unfold apB inT; rw [decide_eq_true ⟨h1, h2⟩]; rfl
      rw [e0]
      clear e0
      cases h
      · cases hz : (l == 0)
        all_goals
          go_enter Try.func45, Try.ntmps45
          go_wp2
          go_ret
          exact ⟨by first | rfl | (rw [hz]; rfl) | (simp; done), A⟩
      · go_enter Try.func45, Try.ntmps45
        go_wp2
        go_ret
        exact ⟨rfl, A⟩
    · have e0 : apB h l = false := by unfold apB inT; rw [decide_eq_false (by omega)]; rfl
      rw [e0]
      clear e0
      go_enter Try.func45, Try.ntmps45
      go_wp2
      go_ret
      exact ⟨rfl, A⟩
  · have e0 : apB h l = false := by unfold apB inT; rw [decide_eq_false (by omega)]; rfl
    rw [e0]
    clear e0
    go_enter Try.func45, Try.ntmps45
    go_wp2
    go_ret
    exact ⟨rfl, A⟩
set_option maxHeartbeats 2000000 in
theorem above_any (h : Bool) (l lo hi : Int) (w : World) : Calls Try.prog 51 #[.agg #[.bool h, .int .i64 l], .agg #[.int .i64 lo, .int .i64 hi]] w fun e w' => e = .returned (.bool (h && decide (hi < l))) ∧ Below w.heap.size w w' := by
  have A0 := Below.nw w (.cells #[.bool h, .int .i64 l] 25)
  have A1 := Below.nw (w.alloc (.cells #[.bool h, .int .i64 l] 25)) (.cells #[.int .i64 lo, .int .i64 hi] 30)
  have A := A0.trans (A1.mono A0.size)
  clear A0 A1
  cases h
  · go_enter Try.func51, Try.ntmps51
    go_wp2
    go_ret
    exact ⟨rfl, A⟩
  · by_cases c : hi < l
    · have c' : decide (hi < l) = true := decide_eq_true c
      rw [c']
      go_enter Try.func51, Try.ntmps51
      go_wp2
      go_ret
      exact ⟨rfl, A⟩
    · have c' : decide (hi < l) = false := decide_eq_false c
      rw [c']
      go_enter Try.func51, Try.ntmps51
      go_wp2
      go_ret
      exact ⟨rfl, A⟩
def gdM (h : Bool) (l m : Int) : Int := match h with | true => imx m l | false => m
set_option maxHeartbeats 2000000 in
theorem atLeast_any (h : Bool) (l m : Int) (w : World) : Calls Try.prog 61 #[.agg #[.bool h, .int .i64 l], .int .i64 m] w fun e w' => e = .returned (.int .i64 (gdM h l m)) ∧ Below w.heap.size w w' := by
  have A := Below.nw w (.cells #[.bool h, .int .i64 l] 25)
  have CR := fun w' => ranked_any m l w'
  cases h
  · show Calls Try.prog 61 #[.agg #[.bool false, .int .i64 l], .int .i64 m] w fun e w' => e = .returned (.int .i64 m) ∧ Below w.heap.size w w'
    go_enter Try.func61, Try.ntmps61
    go_wp2
    go_ret
    exact ⟨rfl, A⟩
  · show Calls Try.prog 61 #[.agg #[.bool true, .int .i64 l], .int .i64 m] w fun e w' => e = .returned (.int .i64 (imx m l)) ∧ Below w.heap.size w w'
    generalize imx m l = mx at *
    generalize imn m l = mn at *
    go_enter Try.func61, Try.ntmps61
    go_wp2_with fail
    refine (CR _).mono ?_
    rintro e w' ⟨rfl, rfl⟩
    go_wp2
    go_ret
    exact ⟨rfl, A⟩
/- A look that is right; what a reading tells within an interval. -/
set_option maxHeartbeats 2000000 in
theorem lookok_any (k : Bool) (lo hi : Int) (w : World) : Calls Try.prog 60 #[.agg #[.bool k, .int .i64 lo, .int .i64 hi]] w fun e w' => e = .returned (.bool (!k || okI lo hi)) ∧ Below w.heap.size w w' := by
  have A := Below.nw w (.cells #[.bool k, .int .i64 lo, .int .i64 hi] 32)
  have CR := fun w' => ok_any lo hi w'
  generalize okI lo hi = q at *
  cases k
  · go_enter Try.func60, Try.ntmps60
    go_wp2
    go_ret
    exact ⟨rfl, A⟩
  · go_enter Try.func60, Try.ntmps60
    go_wp2_with fail
    refine (CR _).mono ?_
    rintro e w' ⟨rfl, hb⟩
    have B := A.trans (hb.mono A.size)
    go_wp2
    go_ret
    exact ⟨rfl, B⟩
set_option maxHeartbeats 2000000 in
theorem within_any (x : Int) (d : Bool) (c lo hi : Int) (w : World) : Calls Try.prog 44 #[.agg #[.int .i64 x, .bool d, .int .i64 c], .agg #[.int .i64 lo, .int .i64 hi]] w fun e w' => e = .returned (.tuple #[.int .i64 (nearI lo hi x), .bool (okI lo hi)]) ∧ Below w.heap.size w w' := by
  have A0 := Below.nw w (.cells #[.int .i64 x, .bool d, .int .i64 c] 40)
  have A1 := Below.nw (w.alloc (.cells #[.int .i64 x, .bool d, .int .i64 c] 40)) (.cells #[.int .i64 lo, .int .i64 hi] 30)
  have A := A0.trans (A1.mono A0.size)
  clear A0 A1
  have CR := fun w' => implNearest_any lo hi x w'
  generalize okI lo hi = q at *
  generalize nearI lo hi x = z at *
  go_enter Try.func44, Try.ntmps44
  go_wp2_with fail
  refine (CR _).mono ?_
  rintro e w' ⟨rfl, hb⟩
  have B := A.trans (hb.mono A.size)
  go_wp2
  go_ret2
  exact ⟨rfl, B⟩
/- What a reading comes to, where the clock tells m within the interval: its value, the clock behind it. -/
def gdX (h : Bool) (l : Int) (k : Bool) (lo hi m : Int) : Int := match arBad h l k lo hi, k, (h && decide (hi < l)) with | true, _, _ => 0 | false, false, _ => (match h with | true => l | false => 0) | false, true, true => l | false, true, false => gdM h l m
def gdS (h : Bool) (l : Int) (k : Bool) (lo hi m : Int) : Bool × Int := match arBad h l k lo hi, k, (h && decide (hi < l)) with | false, true, false => (true, gdM h l m) | _, _, _ => (h, l)
theorem gd_bad {h : Bool} {l : Int} {k : Bool} {lo hi m : Int} (e : arBad h l k lo hi = true) : gdX h l k lo hi m = 0 ∧ gdS h l k lo hi m = (h, l) := by
  refine ⟨?_, ?_⟩
  · unfold gdX; rw [e]
  · unfold gdS; rw [e]
theorem gd_no {l : Int} {lo hi m : Int} (e : arBad false l false lo hi = false) : gdX false l false lo hi m = 0 ∧ gdS false l false lo hi m = (false, l) := by
  refine ⟨?_, ?_⟩
  · unfold gdX; rw [e]
  · unfold gdS; rw [e]
theorem gd_old {l : Int} {lo hi m : Int} (e : arBad true l false lo hi = false) : gdX true l false lo hi m = l ∧ gdS true l false lo hi m = (true, l) := by
  refine ⟨?_, ?_⟩
  · unfold gdX; rw [e]
  · unfold gdS; rw [e]
theorem gd_held {h : Bool} {l : Int} {lo hi m : Int} (e : arBad h l true lo hi = false) (c : (h && decide (hi < l)) = true) : gdX h l true lo hi m = l ∧ gdS h l true lo hi m = (h, l) := by
  refine ⟨?_, ?_⟩
  · unfold gdX; rw [e, c]
  · unfold gdS; rw [e, c]
theorem gd_free {h : Bool} {l : Int} {lo hi m : Int} (e : arBad h l true lo hi = false) (c : (h && decide (hi < l)) = false) : gdX h l true lo hi m = gdM h l m ∧ gdS h l true lo hi m = (true, gdM h l m) := by
  refine ⟨?_, ?_⟩
  · unfold gdX; rw [e, c]
  · unfold gdS; rw [e, c]
/- By the middle of the interval: as the specification has it. -/
theorem gd_mid {h : Bool} {l : Int} {k : Bool} {lo hi : Int} : gdX h l k lo hi (midI lo hi) = arX h l k lo hi ∧ gdS h l k lo hi (midI lo hi) = anN (h, l) (k, lo, hi) := by
  cases eb : arBad h l k lo hi
  · cases k
    · cases h
      · obtain ⟨e1, e2, e3, e4, e5⟩ := ar_no eb
        obtain ⟨g1, g2⟩ := gd_no (m := midI lo hi) eb
        refine ⟨g1.trans e3.symm, g2.trans ?_⟩
        unfold anN anC
        rw [e5, e1, e2]
        rfl
      · obtain ⟨e1, e2, e3, e4, e5⟩ := ar_old eb
        obtain ⟨g1, g2⟩ := gd_old (m := midI lo hi) eb
        refine ⟨g1.trans e3.symm, g2.trans ?_⟩
        unfold anN anC
        rw [e5, e1, e2]
        rfl
    · obtain ⟨e1, e2, e3, e4, e5⟩ := ar_known eb
      have hm : midI lo hi = (lo + hi) / 2 := by
        cases ho : okI lo hi
        · unfold arBad at eb
          rw [ho] at eb
          simp at eb
        · exact midI_t ho
      cases hc : (h && decide (hi < l))
      · obtain ⟨g1, g2⟩ := gd_free (m := midI lo hi) eb hc
        rw [hc] at e3
        have e6 : gdM h l (midI lo hi) = arM h l lo hi := by rw [hm]; rfl
        refine ⟨g1.trans (e6.trans e3.symm), g2.trans ?_⟩
        unfold anN anC
        rw [e5, e1, e2, e3, e6]
        rfl
      · obtain ⟨g1, g2⟩ := gd_held (m := midI lo hi) eb hc
        rw [hc] at e3
        have hh : h = true := by cases h <;> simp at hc ⊢
        refine ⟨g1.trans e3.symm, g2.trans ?_⟩
        unfold anN anC
        rw [e5, e1, e2, e3, hh]
        rfl
  · obtain ⟨e1, e2, e3, e4, e5⟩ := ar_eqs eb
    obtain ⟨g1, g2⟩ := gd_bad (m := midI lo hi) eb
    refine ⟨g1.trans e3.symm, g2.trans ?_⟩
    unfold anN anC
    rw [e5]
    rfl
end Go.Proofs.Ytdllkfllnljaaaa
