/- The walk of the law of Between. -/
import Derived.Test.YtogapogkdgaobaaK2
import Derived.Test.YtogapogkdgaobaaK3
import Derived.WalkKit
import Derived.WalkSpells
import Derived.WalkLawsBesides
import Derived.Deep.RegionHeld
import Derived.RegionTactic
import Derived.Deep.QuietTactic
import Derived.BigQuiet
namespace Go.Proofs.Ytogapogkdgaobaa
open Go.RowKit
set_option linter.unusedVariables false
theorem CodeB.drew {w : World} {B : Nat} {a : Option Addr} {n : Nat} (h : CodeB w B a n) : CodeB w.drew B a n := h
set_option maxHeartbeats 4000000 in
theorem walkBetween (a : Option Addr) (n c : Nat) (w : World) (hcode : CodeB w w.heap.size a n) :
    Calls Try.prog 6 #[.slice a n c] w fun e w' => e = .returned (.bool true) ∧ Below w.heap.size w w' := by
  by_cases hbig : (1048576 : Int) < (n : Int)
  · go_enter Try.func6, Try.ntmps6
    go_wp2_with (go_at_call 8; refine (big_any _ _ _ _).mono ?_; rintro e w' ⟨rfl, rfl⟩)
    go_ret
    exact ⟨rfl, Below.refl _ _⟩
  have hd : decide ((1048576 : Int) < (n : Int)) = false := by simp; omega
  have hn : n ≤ 1048576 := by omega
  have HC : Hid (CodeB w w.heap.size a n) := hcode
  clear hcode hbig
  go_enter Try.func6, Try.ntmps6
  go_wp2_with (go_at_call 8; refine (big_any _ _ _ _).mono ?_; rintro e w' ⟨rfl, rfl⟩)
  refine (DrawBetween_any a n c _ hn HC.out).mono ?_
  rintro e w1 ⟨x, y, t, rfl, w1b⟩
  have A1 : Below w1.heap.size w1 (w1.alloc (.cells #[.int .i64 x, .int .i64 y] 43)) := Below.al _ _
  have D1 := Box.new w1 x y 43
  have B1 : Below w.heap.size w (w1.alloc (.cells #[.int .i64 x, .int .i64 y] 43)) := w1b.trans (A1.mono w1b.size)
  go_wp2_with fail
  refine (implBetween_any _ _ _ _).mono ?_
  rintro e w2 ⟨rfl, w2b⟩
  have D2 := D1.below w2b
  have B2 : Below w.heap.size w w2 := B1.trans (w2b.mono B1.size)
  clear D1 B1 w1b A1 w2b
  cases hg : btB x y t
  · have f1 : mcB 1 2 4 6 = true := by decide
    have f2 : mcB 1 2 4 7 = false := by decide
    have A2 : Below w2.heap.size w2 (w2.alloc (.cells #[.int .i64 (sel false (upI (t * y) (y + x))), .int .i64 (sel false (dnI (t * y) (y - x)))] 25)) := Below.al _ _
    have D3 := D2.below A2
    have B3 : Below w.heap.size w (w2.alloc (.cells #[.int .i64 (sel false (upI (t * y) (y + x))), .int .i64 (sel false (dnI (t * y) (y - x)))] 25)) := B2.trans (A2.mono B2.size)
    obtain ⟨g1, g2, g3, g4, g5⟩ := id D2
    go_wp2_with fail
    refine (specBetween_any _ _ _ _).mono ?_
    rintro e w4 ⟨rfl, w4b⟩
    have B4 : Below w.heap.size w w4 := B3.trans (w4b.mono B3.size)
    have B5 : Below w.heap.size w (w4.alloc (.cells #[.int .i64 (sel false (upI (t * y) (y + x))), .int .i64 (sel false (dnI (t * y) (y - x)))] 25)) := B4.alloc B4.size _
    clear D3 B3 A2 w4b g1 g2 g3 g4 g5 D2
    go_wp2_with fail
    refine (implMayCount_any _ _ _ _ _).mono ?_
    rintro e w6 ⟨rfl, w6b⟩
    have B6 : Below w.heap.size w w6 := B5.trans (w6b.mono B5.size)
    clear B5 w6b
    go_wp2_with fail
    refine (implMayCount_any _ _ _ _ _).mono ?_
    rintro e w7 ⟨rfl, w7b⟩
    have B7 : Below w.heap.size w w7 := B6.trans (w7b.mono B6.size)
    go_wp2_with fail
    go_ret
    exact ⟨rfl, B7⟩
  · have hh : rB x y t (upI (t * y) (y + x)) = true ∧ rB x y t (dnI (t * y) (y - x)) = true := by simpa [btB] using hg
    have ⟨f1, f2, f3, f4, f5⟩ := bt_facts hh.1 hh.2
    have ⟨l1, l2⟩ := okT_t (rB_o hh.1).2.2
    have ⟨m1, m2⟩ := okT_t (rB_o hh.2).2.2
    have SP := specBetween_any x y t
    rw [hg] at SP
    have e1 : sel true (upI (t * y) (y + x)) = (upI (t * y) (y + x)) := rfl
    have e2 : sel true (dnI (t * y) (y - x)) = (dnI (t * y) (y - x)) := rfl
    rw [e1, e2] at SP ⊢
    clear hh hg e1 e2
    generalize (upI (t * y) (y + x)) = L at *
    generalize (dnI (t * y) (y - x)) = H at *
    have A2 : Below w2.heap.size w2 (w2.alloc (.cells #[.int .i64 L, .int .i64 H] 25)) := Below.al _ _
    have D3 := D2.below A2
    have I3 := Box.new w2 L H 25
    have B3 : Below w.heap.size w (w2.alloc (.cells #[.int .i64 L, .int .i64 H] 25)) := B2.trans (A2.mono B2.size)
    obtain ⟨g1, g2, g3, g4, g5⟩ := id D2
    go_wp2_with fail
    refine (SP _).mono ?_
    rintro e w4 ⟨rfl, w4b⟩
    have B4 : Below w.heap.size w w4 := B3.trans (w4b.mono B3.size)
    have A4 : Below w4.heap.size w4 (w4.alloc (.cells #[.int .i64 L, .int .i64 H] 25)) := Below.al _ _
    have D4 := D3.below w4b
    have I4 := I3.below w4b
    have B5 : Below w.heap.size w (w4.alloc (.cells #[.int .i64 L, .int .i64 H] 25)) := B4.alloc B4.size _
    clear D3 I3 B3 A2 w4b g1 g2 g3 g4 g5 D2 SP B4
    obtain ⟨g1, g2, g3, g4, g5⟩ := id D4
    obtain ⟨j1, j2, j3, j4, j5⟩ := id I4
    go_wp2_with fail
    refine (implMayCount_any _ _ _ _ _).mono ?_
    rintro e w6 ⟨rfl, w6b⟩
    have D6 := (D4.below A4).below w6b
    have I6 := (I4.below A4).below w6b
    have B6 : Below w.heap.size w w6 := B5.trans (w6b.mono B5.size)
    clear g1 g2 g3 g4 g5 j1 j2 j3 j4 j5 D4 I4 A4 w6b B5
    obtain ⟨g1, g2, g3, g4, g5⟩ := id D6
    obtain ⟨j1, j2, j3, j4, j5⟩ := id I6
    go_wp2_with fail
    refine (implMayCount_any _ _ _ _ _).mono ?_; rintro e w7 ⟨rfl, w7b⟩; (have D7 := D6.below w7b); (have I7 := I6.below w7b); (have B7 : Below w.heap.size w w7 := B6.trans (w7b.mono B6.size)); clear g1 g2 g3 g4 g5 j1 j2 j3 j4 j5 D6 I6 w7b B6; obtain ⟨g1, g2, g3, g4, g5⟩ := id D7; obtain ⟨j1, j2, j3, j4, j5⟩ := id I7
    go_wp2_with fail
    refine (implMayCount_any _ _ _ _ _).mono ?_; rintro e w8 ⟨rfl, w8b⟩; (have D8 := D7.below w8b); (have I8 := I7.below w8b); (have B8 : Below w.heap.size w w8 := B7.trans (w8b.mono B7.size)); clear g1 g2 g3 g4 g5 j1 j2 j3 j4 j5 D7 I7 w8b B7; obtain ⟨g1, g2, g3, g4, g5⟩ := id D8; obtain ⟨j1, j2, j3, j4, j5⟩ := id I8
    go_wp2_with fail
    refine (implMayCount_any _ _ _ _ _).mono ?_; rintro e w9 ⟨rfl, w9b⟩; (have D9 := D8.below w9b); (have I9 := I8.below w9b); (have B9 : Below w.heap.size w w9 := B8.trans (w9b.mono B8.size)); clear g1 g2 g3 g4 g5 j1 j2 j3 j4 j5 D8 I8 w9b B8; obtain ⟨g1, g2, g3, g4, g5⟩ := id D9; obtain ⟨j1, j2, j3, j4, j5⟩ := id I9
    go_wp2_with fail
    refine (implMayCount_any _ _ _ _ _).mono ?_
    rintro e w10 ⟨rfl, w10b⟩
    have B10 : Below w.heap.size w w10 := B9.trans (w10b.mono B9.size)
    go_wp2_with fail
    go_ret
    exact ⟨rfl, B10⟩
end Go.Proofs.Ytogapogkdgaobaa
