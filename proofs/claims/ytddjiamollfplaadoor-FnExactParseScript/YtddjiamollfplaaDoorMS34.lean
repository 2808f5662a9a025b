/- OpLine in the specification. -/
import Derived.Test.YtddjiamollfplaaDoorMS28
namespace Go.Proofs.YtddjiamollfplaaDoor
open Go.RowKit
set_option linter.unusedVariables false
theorem own_cellY {w : World} {base : Nat} {v : Value} {L : List Int} (h : w.ownsRow base 3 1 v L.length (irow L)) (hl : 0 < L.length) : ∃ g cap, v = .slice (some ⟨g, 0, none⟩) L.length cap ∧ Cs w g 0 L.length (fun j => .int .i64 (gI L j)) := by
 rcases own_cellX h with ⟨_, h0⟩ | ⟨g, cap, rfl, hc⟩
 ·omega
 ·refine ⟨g, cap, rfl, ?_, fun i hi => by rw [Nat.zero_add]; exact hc i hi⟩
  rcases h.2 with ⟨h1, _⟩ | ⟨g', cap', cur, h1, _, h3, _⟩
  ·cases h1
  ·cases h1
   exact (Array.getElem?_eq_some_iff.1 h3).1
theorem opN_pos (k nd tt a b : Int) (n : Nat) (f : Nat → Int) : 0 < (opN k nd tt a b n f).length := by
 unfold opN
 repeat' split
 all_goals simp
end Go.Proofs.YtddjiamollfplaaDoor
