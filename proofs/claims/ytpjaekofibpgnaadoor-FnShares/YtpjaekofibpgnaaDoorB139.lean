/- PlanMoved in the specification. -/
import Derived.Test.YtpjaekofibpgnaaDoorB138
import Derived.Deep.DeepAppendRoom
import Derived.Deep.RegionHeld3
import Derived.WalkKit
import Derived.WalkSpells
import Derived.WalkLawsBesides
import Derived.Deep.RegionHeld
namespace Go.Proofs.YtpjaekofibpgnaaDoor
open Go.RowKit
set_option linter.unusedVariables false
/- Rows of slots as lists of cells; a copy of a plan; a plan that is moved, in the specification. -/
def srow (M : Nat → SlT) (n : Nat) : List Value := (List.range (n * 2)).map (MFSlot M)
theorem srow_len (M : Nat → SlT) (n : Nat) : (srow M n).length = n * 2 := by rw [srow, List.length_map, List.length_range]
theorem srow_get {M : Nat → SlT} {n j : Nat} {u : Value} (h : (srow M n)[j]? = some u) : j < n * 2 ∧ MFSlot M j = u := by
  rw [srow, List.getElem?_map] at h
  by_cases hj : j < n * 2
  · rw [List.getElem?_range hj] at h
    exact ⟨hj, by simpa using h⟩
  · rw [List.getElem?_eq_none (by rw [List.length_range]; omega)] at h
    simp at h
theorem MFSlot_one (M : Nat → SlT) (j : Nat) : (MFSlot M j).oneCell' = true := by
  have h : j % 2 = 0 ∨ j % 2 = 1 := by omega
  unfold MFSlot
  rcases h with h | h <;> rw [h] <;> rfl
theorem srow_one (M : Nat → SlT) (n : Nat) : ∀ u ∈ srow M n, u.oneCell' = true := by
  intro u hu
  rw [srow, List.mem_map] at hu
  obtain ⟨j, _, rfl⟩ := hu
  exact MFSlot_one M j
theorem addr_add (b off j : Nat) : (⟨b, off, none⟩ : Addr).add j = ⟨b, off + j, none⟩ := by
  unfold Addr.add
  split
  · next h => subst h; rfl
  · rfl
theorem Cs.srow {w : World} {b off n : Nat} {M : Nat → SlT} (h : Cs w b off (n * 2) (MFSlot M)) : ∀ j u, (Go.Proofs.YtpjaekofibpgnaaDoor.srow M n)[j]? = some u → w.cell? ((⟨b, off, none⟩ : Addr).add j) = some u := by
  intro j u hu
  obtain ⟨hj, rfl⟩ := srow_get hu
  rw [addr_add]
  exact h.2 j hj
theorem info13_parts : ∃ i, Tryd.prog.info? 48 = some i ∧ i.zero = some (.agg #[.int .i64 0, .int .i64 0]) ∧ i.size = 2 ∧ i.bytes = 16 := by
  obtain ⟨i, hi, hz⟩ := Option.map_eq_some_iff.1 infoSlot
  simp only [Prod.mk.injEq] at hz
  exact ⟨i, hi, hz.1, hz.2.1, hz.2.2⟩
def pmS (s g : Int) (M : Nat → SlT) (n : Nat) (b : Int) : Int := match pmB s g M n b with | true => s + b | false => 0
def pmG (s g : Int) (M : Nat → SlT) (n : Nat) (b : Int) : Int := match pmB s g M n b with | true => g | false => 0
def pmN (s g : Int) (M : Nat → SlT) (n : Nat) (b : Int) : Nat := match pmB s g M n b with | true => n | false => 0
theorem pm_no {s g : Int} {M : Nat → SlT} {n : Nat} {b : Int} (h : pmB s g M n b = false) : pmS s g M n b = 0 ∧ pmG s g M n b = 0 ∧ pmN s g M n b = 0 := by
  unfold pmS pmG pmN
  rw [h]
  exact ⟨rfl, rfl, rfl⟩
theorem pm_yes {s g : Int} {M : Nat → SlT} {n : Nat} {b : Int} (h : pmB s g M n b = true) : pmS s g M n b = s + b ∧ pmG s g M n b = g ∧ pmN s g M n b = n := by
  unfold pmS pmG pmN
  rw [h]
  exact ⟨rfl, rfl, rfl⟩
end Go.Proofs.YtpjaekofibpgnaaDoor
