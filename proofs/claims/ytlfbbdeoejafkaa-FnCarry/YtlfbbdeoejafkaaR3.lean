/- Contracts of OscRun. -/
import Derived.Test.YtlfbbdeoejafkaaR1
import Derived.Test.YtlfbbdeoejafkaaR2
import Derived.WalkKit
import Derived.WalkSpells
import Derived.WalkLawsBesides
import Derived.Deep.RegionHeld
namespace Go.Proofs.Ytlfbbdeoejafkaa
open Go.RowKit
set_option linter.unusedVariables false
theorem specOscRun_any (n d t c : Int) (a : Option Addr) (m cp : Nat) (f : Nat → Int × Int) (w : World) (hm : m ≤ maxLen) (hs : Src w a m f) :
    Calls Try.prog 8 #[.agg #[.int .i64 n, .int .i64 d, .int .i64 t, .int .i64 c], .slice a m cp] w fun e w' => ∃ v, e = .returned (.tuple #[v, .int .i64 (runD n d t c f m)]) ∧ w'.ownsRow w.heap.size 42 2 v (runL n d t c f m).length (prs (runL n d t c f m)) ∧ Below w.heap.size w w' := by
  cases h : runG n d t c m
  · have e1 : runD n d t c f m = 0 := by simp [runD, h]
    have e2 : runL n d t c f m = [] := by simp [runL, h]
    rw [e1, e2]
    exact specOscRun_bad n d t c a m cp w hm h
  · have e1 : runD n d t c f m = (runN n d t c f m : Int) := by simp [runD, h]
    have e2 : runL n d t c f m = mkL n d t c f (runN n d t c f m) := by simp [runL, h]
    rw [e1, e2, mkL_len]
    simp only [runG, Bool.and_eq_true, decide_eq_true_eq] at h
    exact specOscRun_good n d t c a m cp f w h.1 h.2 hs
theorem runL_len (n d t c : Int) (f : Nat → Int × Int) (m : Nat) : (runL n d t c f m).length ≤ 201 := by
  cases h : runG n d t c m
  · simp [runL, h]
  · have e2 : runL n d t c f m = mkL n d t c f (runN n d t c f m) := by simp [runL, h]
    rw [e2, mkL_len]
    simp only [runG, Bool.and_eq_true, decide_eq_true_eq] at h
    have := runN_le (n := n) (d := d) (t := t) (c := c) (f := f) m
    omega
end Go.Proofs.Ytlfbbdeoejafkaa
