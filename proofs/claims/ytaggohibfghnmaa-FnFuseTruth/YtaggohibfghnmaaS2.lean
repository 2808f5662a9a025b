/- Contracts for lists of intervals: what toIvalS makes. -/
import Derived.Test.YtaggohibfghnmaaS1
import Derived.Deep.OwnRows
import Derived.Test.YtaggohibfghnmaaW4
import Derived.WalkKit
import Derived.WalkSpells
import Derived.WalkLawsBesides
import Derived.Deep.RegionHeld
namespace Go.Proofs.Ytaggohibfghnmaa
open Go.RowKit
set_option linter.unusedVariables false
def rowObj (n : Nat) : Obj := .cells (madeCells #[.int .i64 0, .int .i64 0] (n * 2)) 25
theorem infoIval : (Try.prog.info? 25).map (fun i => (i.zero, i.size, i.bytes)) = some (some (.agg #[.int .i64 0, .int .i64 0]), 2, 16) := by kernel_rfl
theorem mk_row (n : Nat) (h : n ≤ 1048576) (w : World) : (Instr.makeSlice 26 (.int .i64 (n : Int)) (.int .i64 (n : Int))).run Try.prog w = .ok (.slice (some ⟨w.heap.size, 0, none⟩) n n) (w.alloc (rowObj n)) := by
  obtain ⟨i, hi, hz⟩ := Option.map_eq_some_iff.1 infoIval
  simp only [Prod.mk.injEq] at hz
  obtain ⟨h1, h2, h3⟩ := hz
  have hr := run_make (P := Try.prog) w 26 25 i _ Try.underlying26 hi h1 .i64 .i64 n n (by omega) (Int.le_refl _) (by rw [h3]; omega) (by omega)
  simp only [Int.toNat_natCast, h2] at hr
  exact hr
theorem rowObj_is (w : World) (n : Nat) : (w.alloc (rowObj n)).rowIs w.heap.size 25 (n * 2) (fun _ => .int .i64 0) := by
  have h := World.rowIs_alloc w (madeCells #[.int .i64 0, .int .i64 0] (n * 2)) 25 (fun _ => .int .i64 0) (fun i hi => by
    rw [size_madeCells] at hi
    have : i % 2 = 0 ∨ i % 2 = 1 := by omega
    rcases this with h | h <;> simp [madeCells, hi, h])
  rw [size_madeCells] at h
  exact h
theorem row_prs {w : World} {b t n : Nat} {g : Nat → Value} {f : Nat → Int × Int} (h : w.rowIs b t (n * 2) g) (hg : ∀ j, j < n → g (j * 2) = .int .i64 (f j).1 ∧ g (j * 2 + 1) = .int .i64 (f j).2) : Prs w b 0 n f :=
  ⟨h.lt, fun i hi => ⟨by rw [Nat.zero_add, h.cell (by omega), (hg i hi).1], by rw [Nat.zero_add, h.cell (by omega), (hg i hi).2]⟩⟩
def RowK (w : World) (b t n k : Nat) (f : Nat → Int × Int) : Prop := ∃ g, w.rowIs b t (n * 2) g ∧ ∀ j, j < k → g (j * 2) = .int .i64 (f j).1 ∧ g (j * 2 + 1) = .int .i64 (f j).2
theorem RowK.step {w : World} {b t n k : Nat} {f : Nat → Int × Int} (h : RowK w b t n k f) : RowK ((w.setCell ⟨b, k * 2, none⟩ (.int .i64 (f k).1)).setCell ⟨b, k * 2 + 1, none⟩ (.int .i64 (f k).2)) b t n (k + 1) f := by
  obtain ⟨g, hr, hg⟩ := h
  refine ⟨_, (hr.set _ _).set _ _, fun j hj => ?_⟩
  rcases Nat.lt_succ_iff_lt_or_eq.1 hj with h1 | h1
  · have e1 : ¬ j * 2 = k * 2 + 1 := by omega
    have e2 : ¬ j * 2 = k * 2 := by omega
    have e3 : ¬ j * 2 + 1 = k * 2 + 1 := by omega
    have e4 : ¬ j * 2 + 1 = k * 2 := by omega
    simp only [if_neg e1, if_neg e2, if_neg e3, if_neg e4]
    exact hg j h1
  · subst h1
    have e1 : ¬ j * 2 = j * 2 + 1 := by omega
    simp only [if_neg e1, if_true, and_self]
theorem RowK.below {w w' : World} {B b t n k : Nat} {f : Nat → Int × Int} (h : RowK w b t n k f) (hb : Below B w w') (hB : b < B) : RowK w' b t n k f := by
  obtain ⟨g, hr, hg⟩ := h
  exact ⟨g, hr.of_block (hb.block b hB), hg⟩
theorem RowK.facts {w : World} {b t n k : Nat} {f : Nat → Int × Int} (h : RowK w b t n k f) (hk : k < n) : b < w.heap.size ∧ (∃ v, w.cell? ⟨b, k * 2, none⟩ = some v) ∧ (∃ v, w.cell? ⟨b, k * 2 + 1, none⟩ = some v) ∧ w.frozen? ⟨b, k * 2, none⟩ = false ∧ w.frozen? ⟨b, k * 2 + 1, none⟩ = false := by
  obtain ⟨g, hr, hg⟩ := h
  exact ⟨hr.lt, ⟨_, hr.cell (by omega)⟩, ⟨_, hr.cell (by omega)⟩, hr.frozen _, hr.frozen _⟩
end Go.Proofs.Ytaggohibfghnmaa
