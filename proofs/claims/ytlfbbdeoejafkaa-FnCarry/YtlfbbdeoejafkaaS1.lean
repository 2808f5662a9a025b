/- Contracts for lists of intervals: l1All, szIvalS, eqIvalS. -/
import Derived.Test.YtlfbbdeoejafkaaW2
import Derived.WalkKit
import Derived.WalkSpells
import Derived.WalkLawsBesides
import Derived.Deep.RegionHeld
namespace Go.Proofs.Ytlfbbdeoejafkaa
open Go.RowKit
set_option linter.unusedVariables false
def Prs (w : World) (b off n : Nat) (f : Nat → Int × Int) : Prop :=
  b < w.heap.size ∧ ∀ i, i < n → w.cell? ⟨b, off + i * 2, none⟩ = some (.int .i64 (f i).1) ∧ w.cell? ⟨b, off + i * 2 + 1, none⟩ = some (.int .i64 (f i).2)
theorem Prs.below {w w' : World} {B b off n : Nat} {f : Nat → Int × Int} (h : Prs w b off n f) (hb : Below B w w') (hB : b < B) : Prs w' b off n f :=
  ⟨Nat.lt_of_lt_of_le h.1 hb.size, fun i hi => ⟨by rw [hb.cell (p := ⟨b, off + i * 2, none⟩) hB]; exact (h.2 i hi).1, by rw [hb.cell (p := ⟨b, off + i * 2 + 1, none⟩) hB]; exact (h.2 i hi).2⟩⟩
def allOk (f : Nat → Int × Int) : Nat → Bool
  | 0 => true
  | n + 1 => allOk f n && okI (f n).1 (f n).2
theorem allOk_no {f : Nat → Int × Int} {k : Nat} (h : okI (f k).1 (f k).2 = false) : ∀ n, k < n → allOk f n = false
  | 0, hn => absurd hn (Nat.not_lt_zero _)
  | n + 1, hn => by
    rcases Nat.lt_succ_iff_lt_or_eq.1 hn with h1 | h1
    · simp [allOk, allOk_no h n h1]
    · subst h1; simp [allOk, h]
end Go.Proofs.Ytlfbbdeoejafkaa
