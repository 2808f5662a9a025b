/- What DrawBetween and DrawClamp leave: a drift and numbers, whatever they are. -/
import Derived.Test.YtogapogkdgaobaaK1
import Derived.Test.YtogapogkdgaobaaW2
import Derived.WalkKit
import Derived.WalkSpells
import Derived.WalkLawsBesides
import Derived.Deep.RegionHeld
import Derived.RegionTactic
import Derived.Deep.QuietTactic
import Derived.BigQuiet
namespace Go.Proofs.Ytogapogkdgaobaa
open Go.RowKit
set_option linter.unusedVariables false
set_option maxHeartbeats 1000000 in
theorem l2DrawPair_any (a : Option Addr) (n c : Nat) (w : World) (hn : n ≤ 1048576) (hcode : CodeB w w.heap.size a n) :
    Calls Try.prog 53 #[.slice a n c] w fun e w' => ∃ x y t : Int, e = .returned (.tuple #[.agg #[.int .i64 x, .int .i64 y], .int .i64 t]) ∧ Below w.heap.size w w' := by
  have A1 : Below w.heap.size w (w.alloc (.cells #[.int .i64 0, .int .i64 0] 43)) := Below.al _ _
  have R0 : Box (w.alloc (.cells #[.int .i64 0, .int .i64 0] 43)) w.heap.size 0 0 := Box.new w 0 0 43
  have HC : Hid (CodeB w w.heap.size a n) := hcode
  clear hcode
  go_enter Try.func53, Try.ntmps53
  go_wp2_with fail
  refine (l1New_any a n c _ hn (by exact (HC.out.below A1).more (by simp))).mono ?_
  rintro e w1 ⟨p, rfl, w1c, w1b⟩
  have q1 := w1c.lt
  simp only [World.size_alloc] at q1
  have R1 := R0.below w1b
  have b1 : Below w.heap.size w w1 := A1.trans (w1b.mono (by simp))
  have hpw : w.heap.size ≠ p := by omega
  clear R0 w1b A1
  go_wp2_with fail
  refine (l2DrawDrift_any _ p _ w1c).mono ?_
  rintro e w2 ⟨x, y, rfl, w2c, w2b⟩
  have R2 := R1.but w2b hpw
  have b2 : Below w.heap.size w w2 := b1.trans (w2b.below (by omega) b1.size)
  have q2 := w2c.lt
  have hk : w2.heap.size ≠ p := by omega
  have A2 : Below w2.heap.size w2 (w2.alloc (.cells #[.int .i64 x, .int .i64 y] 43)) := Below.al _ _
  have w2c' := w2c.below A2
  have R2' := R2.below A2
  have N2 := Box.new w2 x y 43
  have b2' : Below w.heap.size w (w2.alloc (.cells #[.int .i64 x, .int .i64 y] 43)) := b2.trans (A2.mono (by omega))
  have hwk : w.heap.size < w2.heap.size := R2.1
  clear R1 w2b w1c b1
  have n1 : w.heap.size ≠ w2.heap.size := by omega
  have n2 : w2.heap.size ≠ w.heap.size := by omega
  have hwp : w.heap.size ≤ p := by omega
  generalize hv : w2.alloc (.cells #[.int .i64 x, .int .i64 y] 43) = v at *
  obtain ⟨g1, g2, g3, g4, g5⟩ := id R2'
  obtain ⟨m1, m2, m3, m4, m5⟩ := id N2
  go_wp2_with fail
  go_region_with (go_at_call 64; refine (l2DrawCount_any _ p _ (by first | exact w2c' | exact CurOk.drew w2c')).mono ?_; rintro e w3 ⟨t, rfl, w3c, w3b⟩; (have w3b : But p v w3 := w3b); (have R3 := R2'.but w3b hpw); (have N3 := N2.but w3b hk); (have b3 : Below w.heap.size w w3 := b2'.trans (w3b.below hwp b2'.size)); obtain ⟨g1, g2, g3, g4, g5⟩ := id R3; obtain ⟨m1, m2, m3, m4, m5⟩ := id N3)
  all_goals go_wp2
  all_goals exact bodyPost_ret (v := .tuple #[.agg #[.int .i64 x, .int .i64 y], .int .i64 t]) (by simp (maxDischargeDepth := 6) [results, Try.results53, go_sem, *]) rfl ⟨_, _, _, rfl, (b3.setCell (Nat.le_refl _) _).setCell (Nat.le_refl _) _⟩
set_option maxHeartbeats 1000000 in
theorem DrawBetween_any (a : Option Addr) (n c : Nat) (w : World) (hn : n ≤ 1048576) (hcode : CodeB w w.heap.size a n) :
    Calls Try.prog 29 #[.slice a n c] w fun e w' => ∃ x y t : Int, e = .returned (.tuple #[.agg #[.int .i64 x, .int .i64 y], .int .i64 t]) ∧ Below w.heap.size w w' := by
  have A1 : Below w.heap.size w (w.alloc (.cells #[.int .i64 0, .int .i64 0] 43)) := Below.al _ _
  have R0 : Box (w.alloc (.cells #[.int .i64 0, .int .i64 0] 43)) w.heap.size 0 0 := Box.new w 0 0 43
  have HC : Hid (CodeB w w.heap.size a n) := hcode
  clear hcode
  go_enter Try.func29, Try.ntmps29
  go_wp2_with fail
  refine (l2DrawPair_any a n c _ hn (by exact (HC.out.below A1).more (by simp))).mono ?_
  rintro e w1 ⟨x, y, t, rfl, w1b⟩
  have R1 := R0.below w1b
  have b1 : Below w.heap.size w w1 := A1.trans (w1b.mono (by simp))
  obtain ⟨g1, g2, g3, g4, g5⟩ := R1
  have n1 : w1.heap.size ≠ w.heap.size := by omega
  have n2 : w.heap.size ≠ w1.heap.size := by omega
  clear R0 w1b A1
  go_wp2_with fail
  exact bodyPost_ret (v := .tuple #[.agg #[.int .i64 x, .int .i64 y], .int .i64 t]) (by simp (maxDischargeDepth := 6) [results, Try.results29, go_sem, *]) rfl ⟨_, _, _, rfl, by repeat (first | exact Below.refl _ _ | refine Below.drew ?_ | refine Below.alloc ?_ (by first | (simp; done) | (simp; omega) | omega) _ | refine Below.setCell ?_ (by first | (simp; done) | (simp; omega) | omega) _ | refine Below.trans ?_ (Below.mono (by assumption) (by first | (simp; done) | (simp; omega) | omega)))⟩
set_option maxHeartbeats 2000000 in
theorem DrawClamp_any (a : Option Addr) (n c : Nat) (w : World) (hn : n ≤ 1048576) (hcode : CodeB w w.heap.size a n) :
    Calls Try.prog 33 #[.slice a n c] w fun e w' => ∃ x y t u : Int, e = .returned (.tuple #[.agg #[.int .i64 x, .int .i64 y], .int .i64 t, .int .i64 u]) ∧ Below w.heap.size w w' := by
  have A1 : Below w.heap.size w (w.alloc (.cells #[.int .i64 0, .int .i64 0] 43)) := Below.al _ _
  have R0 : Box (w.alloc (.cells #[.int .i64 0, .int .i64 0] 43)) w.heap.size 0 0 := Box.new w 0 0 43
  have HC : Hid (CodeB w w.heap.size a n) := hcode
  clear hcode
  go_enter Try.func33, Try.ntmps33
  go_wp2_with fail
  refine (l1New_any a n c _ hn (by exact (HC.out.below A1).more (by simp))).mono ?_
  rintro e w1 ⟨p, rfl, w1c, w1b⟩
  have q1 := w1c.lt
  simp only [World.size_alloc] at q1
  have R1 := R0.below w1b
  have b1 : Below w.heap.size w w1 := A1.trans (w1b.mono (by simp))
  have hpw : w.heap.size ≠ p := by omega
  clear R0 w1b A1
  go_wp2_with fail
  refine (l2DrawDrift_any _ p _ w1c).mono ?_
  rintro e w2 ⟨x, y, rfl, w2c, w2b⟩
  have R2 := R1.but w2b hpw
  have b2 : Below w.heap.size w w2 := b1.trans (w2b.below (by omega) b1.size)
  have q2 := w2c.lt
  have hk : w2.heap.size ≠ p := by omega
  have A2 : Below w2.heap.size w2 (w2.alloc (.cells #[.int .i64 x, .int .i64 y] 43)) := Below.al _ _
  have N2 := Box.new w2 x y 43
  have b2' : Below w.heap.size w (w2.alloc (.cells #[.int .i64 x, .int .i64 y] 43)) := b2.trans (A2.mono b2.size)
  have hwk : w.heap.size < w2.heap.size := R2.1
  have n1 : w.heap.size ≠ w2.heap.size := by omega
  have n2 : w2.heap.size ≠ w.heap.size := by omega
  have hwp : w.heap.size ≤ p := by omega
  clear R1 w2b w1c b1 b2
  go_wp2_with fail
  refine (l2DrawCount_any _ p _ (by exact w2c.below A2)).mono ?_
  rintro e w3 ⟨t, rfl, w3c, w3b⟩
  have R3 := (R2.below A2).but w3b hpw
  have N3 := N2.but w3b hk
  have b3 : Below w.heap.size w w3 := b2'.trans (w3b.below hwp b2'.size)
  clear R2 N2 b2' w3b A2 w2c
  have i1 : imx (imn t 100000) 1 ≥ 1 := by unfold imx; split <;> omega
  have i2 : imx (imn t 100000) 1 ≤ 100000 := by unfold imx imn; split <;> split <;> omega
  go_wp2_with (first | (go_at_call 47; refine (l1Max_any _ _ _).mono ?_; rintro e w' ⟨rfl, rfl⟩) | (go_at_call 46; refine (l1Min_any _ _ _).mono ?_; rintro e w' ⟨rfl, rfl⟩))
  refine (l1Below_any _ p _ _ w3c).mono ?_
  rintro e w4 ⟨u, rfl, ul, uh, up, uz, w4c, w4b⟩
  have R4 := R3.but w4b hpw
  have N4 := N3.but w4b hk
  have b4 : Below w.heap.size w w4 := b3.trans (w4b.below hwp b3.size)
  clear up uz R3 N3 b3 w4b w3c
  go_wp2_with fail
  refine (l1Once_any _ p _ _ w4c).mono ?_
  rintro e w5 ⟨o, rfl, w5c, w5b⟩
  have R5 := R4.but w5b hpw
  have N5 := N4.but w5b hk
  have b5 : Below w.heap.size w w5 := b4.trans (w5b.below hwp b4.size)
  clear R4 N4 b4 w5b w4c
  cases o
  · obtain ⟨g1, g2, g3, g4, g5⟩ := R5
    obtain ⟨m1, m2, m3, m4, m5⟩ := N5
    go_wp2_with fail
    exact bodyPost_ret (v := .tuple #[.agg #[.int .i64 x, .int .i64 y], .int .i64 t, .int .i64 (u - 5)]) (by simp (maxDischargeDepth := 6) [results, Try.results33, go_sem, *]) rfl ⟨_, _, _, _, rfl, (b5.setCell (Nat.le_refl _) _).setCell (Nat.le_refl _) _⟩
  · go_wp2_with fail
    have hp := pickLit _ p w5 [9223372036854775807, -9223372036854775807, -1] w5c (by decide) (by decide); simp only [List.map_cons, List.map_nil, List.length_cons, List.length_nil, Nat.zero_add, Nat.reduceAdd] at hp; refine hp.mono ?_; clear hp; rintro e w6 ⟨v, rfl, w6c, w6b⟩
    obtain ⟨g1, g2, g3, g4, g5⟩ := R5.but w6b hpw
    obtain ⟨m1, m2, m3, m4, m5⟩ := N5.but w6b hk
    have b6 : Below w.heap.size w w6 := b5.trans (w6b.below hwp b5.size)
    clear R5 N5 b5 w6b w5c
    go_wp2_with fail
    exact bodyPost_ret (v := .tuple #[.agg #[.int .i64 x, .int .i64 y], .int .i64 t, .int .i64 v]) (by simp (maxDischargeDepth := 6) [results, Try.results33, go_sem, *]) rfl ⟨_, _, _, _, rfl, (b6.setCell (Nat.le_refl _) _).setCell (Nat.le_refl _) _⟩
end Go.Proofs.Ytogapogkdgaobaa
