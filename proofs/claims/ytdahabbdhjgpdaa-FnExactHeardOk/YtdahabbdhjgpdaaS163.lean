/- Whether what is asked of is right; whether a number is in a row; the slots of what was heard. -/
import Derived.Test.YtdahabbdhjgpdaaS162
import Derived.Test.YtdahabbdhjgpdaaB134
import Derived.Deep.RegionHeld3
import Derived.Deep.DeepCutAuto
import Derived.WalkKit
import Derived.WalkSpells
import Derived.WalkLawsBesides
import Derived.Deep.RegionHeld
namespace Go.Proofs.Ytdahabbdhjgpdaa
open Go.RowKit
set_option linter.unusedVariables false
/- Whether what is asked of is right. -/
theorem rtB_t {M : Nat → VT} {n : Nat} {s g : Int} {PM : Nat → SlT} {m : Nat} {nu de c : Int} (h : rtB M n s g PM m nu de c = true) : hrB M n = true ∧ plB s g PM m = true ∧ okD nu de = true ∧ okT c = true := by
  unfold rtB at h
  simp only [Bool.and_eq_true] at h
  exact h
theorem okT_t16 {c : Int} (h : okT c = true) : 0 ≤ c ∧ c ≤ 1000000000000 := by
  unfold okT at h
  simp at h
  omega
theorem iloo {w : World} {a : Option Addr} {l : Nat} {f : Nat → Int} (hs : SrcC w a (l * 1) (MFInt f)) {j : Nat} (hj : j < l) : ∃ b off, a = some ⟨b, off, none⟩ ∧ w.cell? ⟨b, off + j, none⟩ = some (.int .i64 (f j)) := by
  rcases hs with q | ⟨b, off, e, hc⟩
  · exact absurd q (by omega)
  · exact ⟨b, off, e, hc.2 j (by omega)⟩
def slL (M : Nat → VT) (n : Nat) : List Int := (List.range n).map (slS M)
theorem slL_len (M : Nat → VT) (n : Nat) : (slL M n).length = n := by unfold slL; simp
theorem slL_snoc (M : Nat → VT) (n : Nat) : slL M (n + 1) = slL M n ++ [(M n).1] := by unfold slL; rw [List.range_succ, List.map_append]; rfl
theorem slL_at {M : Nat → VT} {n i : Nat} (h : i < n) : gI (slL M n) i = slS M i := by unfold gI slL; simp [h]
theorem slL_has (M : Nat → VT) (n : Nat) (x : Int) : hasJ (gI (slL M n)) x (slL M n).length = hasJ (slS M) x n := by rw [slL_len]; exact hasJ_congr fun i hi => slL_at hi
end Go.Proofs.Ytdahabbdhjgpdaa
