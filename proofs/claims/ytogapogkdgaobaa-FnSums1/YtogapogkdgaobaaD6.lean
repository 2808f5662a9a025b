/- What the draw of two intervals out of the bytes of a draw leaves: two intervals, whatever they are. -/
import Derived.Test.YtogapogkdgaobaaD4
import Derived.Test.YtogapogkdgaobaaD5
import Derived.WalkKit
import Derived.WalkSpells
import Derived.WalkLawsBesides
namespace Go.Proofs.Ytogapogkdgaobaa
open Go.RowKit
set_option linter.unusedVariables false
set_option maxHeartbeats 1000000 in
theorem DrawMeet_any (a : Option Addr) (n c : Nat) (w : World) (hn : n ≤ 1048576) (hcode : CodeB w w.heap.size a n) :
    Calls Try.prog 9 #[.slice a n c] w fun e w' => ∃ x y z u : Int, e = .returned (.tuple #[.agg #[.int .i64 x, .int .i64 y], .agg #[.int .i64 z, .int .i64 u]]) ∧ Below w.heap.size w w' := by
  have A1 : Below w.heap.size w ((w.alloc (.cells #[.int .i64 0, .int .i64 0] 25)).alloc (.cells #[.int .i64 0, .int .i64 0] 25)) := ((Below.refl _ _).alloc (Nat.le_refl _) _).alloc (by simp) _
  have R0 : Box ((w.alloc (.cells #[.int .i64 0, .int .i64 0] 25)).alloc (.cells #[.int .i64 0, .int .i64 0] 25)) w.heap.size 0 0 := (Box.new w 0 0 25).alloc _
  have V0 : Box ((w.alloc (.cells #[.int .i64 0, .int .i64 0] 25)).alloc (.cells #[.int .i64 0, .int .i64 0] 25)) (w.heap.size + 1) 0 0 := by
    have := Box.new (w.alloc (.cells #[.int .i64 0, .int .i64 0] 25)) 0 0 25
    simpa using this
  have HC : Hid (CodeB w w.heap.size a n) := hcode
  clear hcode
  go_enter Try.func9, Try.ntmps9
  go_wp2_with fail
  refine (l1New_any a n c _ hn (by exact (HC.out.below A1).more (by simp; omega))).mono ?_
  rintro e w1 ⟨p, rfl, w1c, w1b⟩
  have q1 := w1c.lt
  simp only [World.size_alloc] at q1
  have R1 := R0.below w1b
  have V1 := V0.below w1b
  have b1 : Below w.heap.size w w1 := A1.trans (w1b.mono (by simp; omega))
  have hpw : w.heap.size ≠ p := by omega
  have hpv : w.heap.size + 1 ≠ p := by omega
  clear R0 V0 w1b A1
  go_wp2_with fail
  refine (l1DrawTwo_any _ p _ w1c).mono ?_
  rintro e w2 ⟨x, y, z, u, rfl, w2c, w2b⟩
  obtain ⟨g1, g2, g3, g4, g5⟩ := R1.but w2b hpw
  obtain ⟨m1, m2, m3, m4, m5⟩ := V1.but w2b hpv
  have b2 : Below w.heap.size w w2 := b1.trans (w2b.below (by omega) b1.size)
  clear R1 V1 w2b w2c w1c
  go_wp2_with fail
  exact bodyPost_ret (v := .tuple #[.agg #[.int .i64 x, .int .i64 y], .agg #[.int .i64 z, .int .i64 u]]) (by simp (maxDischargeDepth := 6) [results, Try.results9, go_sem, *]) rfl ⟨_, _, _, _, rfl, (((b2.setCell (Nat.le_refl _) _).setCell (Nat.le_refl _) _).setCell (Nat.le_succ _) _).setCell (Nat.le_succ _) _⟩
end Go.Proofs.Ytogapogkdgaobaa
