/- The contract of spec.NetMove. -/
import Derived.Test.YtfdcjfebfbpliaaN72
import Derived.Test.YtfdcjfebfbpliaaN68
import Derived.Laws.AppendOwnNone
import Derived.WalkKit
import Derived.WalkSpells
import Derived.WalkLawsBesides
import Derived.Deep.RegionHeld
namespace Go.Proofs.Ytfdcjfebfbpliaa
open Go.RowKit
set_option linter.unusedVariables false
theorem frow_congr {G H : Nat → FT} {m : Nat} (h : ∀ k, k < m → G k = H k) : frow G m = frow H m := by
  unfold frow
  apply List.map_congr_left
  intro j hj
  have hj' : j < m * 5 := List.mem_range.1 hj
  unfold MFFlight
  rw [h (j / 5) (by omega)]
theorem frow_ins1 {G : Nat → FT} {t : Nat} {x0 x1 x2 : Int} {x3 : ByteArray} {x4 : Int} (f : FT) (hf : f = (x0, x1, x2, x3, x4)) : frow G t ++ [.int .i64 x0, .int .i64 x1, .int .i64 x2, .string x3, .int .i64 x4] = frow (insG G t f) (t + 1) := by
  rw [frow_congr (G := G) (H := insG G t f) (fun k hk => by unfold insG; rw [if_pos hk])]
  exact frow_add ((insG_at G t f).trans hf)
def part (G : Nat → FT) (t m : Nat) : List Value := (List.range (m * 5)).map fun k => MFFlight G (t * 5 + k)
theorem part_len (G : Nat → FT) (t m : Nat) : (part G t m).length = m * 5 := by simp [part]
theorem part_get {G : Nat → FT} {t m k : Nat} {v : Value} (h : (part G t m)[k]? = some v) : k < m * 5 ∧ v = MFFlight G (t * 5 + k) := by
  have hk : k < (part G t m).length := (List.getElem?_eq_some_iff.1 h).1
  rw [part_len] at hk
  refine ⟨hk, ?_⟩
  simp [part, hk] at h
  exact h.symm
theorem part_one (G : Nat → FT) (t m : Nat) : ∀ v ∈ part G t m, v.oneCell' = true := by
  intro v hv
  simp only [part, List.mem_map] at hv
  obtain ⟨j, _, rfl⟩ := hv
  unfold MFFlight MCFlight
  split <;> rfl
theorem frow_part {G : Nat → FT} {t m : Nat} {f : FT} : frow (insG G t f) (t + 1) ++ part G t m = frow (insG G t f) (t + 1 + m) := by
  have e : part G t m = (List.range (m * 5)).map fun k => MFFlight (insG G t f) ((t + 1) * 5 + k) := by
    unfold part
    apply List.map_congr_left
    intro k hk
    unfold MFFlight
    rw [show (t * 5 + k) / 5 = t + k / 5 by omega, show ((t + 1) * 5 + k) / 5 = t + 1 + k / 5 by omega, show (t * 5 + k) % 5 = k % 5 by omega, show ((t + 1) * 5 + k) % 5 = k % 5 by omega]
    have : insG G t f (t + 1 + k / 5) = G (t + k / 5) := by
      unfold insG
      rw [if_neg (by omega), if_neg (by omega)]
      congr 1
      omega
    rw [this]
  have r : List.range ((t + 1 + m) * 5) = List.range ((t + 1) * 5) ++ (List.range (m * 5)).map fun x => (t + 1) * 5 + x := by
    rw [Nat.add_mul (t + 1) m 5, List.range_add]
  rw [e]
  unfold frow
  rw [r, List.map_append, List.map_map]
  rfl
end Go.Proofs.Ytfdcjfebfbpliaa
