/- Contracts for lists of intervals: what toIvalS makes. -/
import Derived.Test.YtmnheknjllobdaaS1
import Derived.Deep.OwnRows
import Derived.Test.YtmnheknjllobdaaW4
import Derived.WalkKit
import Derived.WalkSpells
import Derived.WalkLawsBesides
import Derived.Deep.RegionHeld
namespace Go.Proofs.Ytmnheknjllobdaa
open Go.RowKit
set_option linter.unusedVariables false
def rowObj (n : Nat) : Obj := .cells (madeCells #[.int .i64 0, .int .i64 0] (n * 2)) 33
theorem infoIval : (Try.prog.info? 33).map (fun i => (i.zero, i.size, i.bytes)) = some (some (.agg #[.int .i64 0, .int .i64 0]), 2, 16) := by kernel_rfl
theorem mk_row (n : Nat) (h : n ≤ 1048576) (w : World) : (Instr.makeSlice 25 (.int .i64 (n : Int)) (.int .i64 (n : Int))).run Try.prog w = .ok (.slice (some ⟨w.heap.size, 0, none⟩) n n) (w.alloc (rowObj n)) := by
  obtain ⟨i, hi, hz⟩ := Option.map_eq_some_iff.1 infoIval
  simp only [Prod.mk.injEq] at hz
  obtain ⟨h1, h2, h3⟩ := hz
  have hr := run_make (P := Try.prog) w 25 33 i _ Try.underlying25 hi h1 .i64 .i64 n n (by omega) (Int.le_refl _) (by rw [h3]; omega) (by omega)
  simp only [Int.toNat_natCast, h2] at hr
  exact hr
theorem rowObj_is (w : World) (n : Nat) : (w.alloc (rowObj n)).rowIs w.heap.size 33 (n * 2) (fun _ => .int .i64 0) := by
  have h := World.rowIs_alloc w (madeCells #[.int .i64 0, .int .i64 0] (n * 2)) 33 (fun _ => .int .i64 0) (fun i hi => by
    rw [size_madeCells] at hi
    have : i % 2 = 0 ∨ i % 2 = 1 := by omega
    rcases this with h | h <;> simp [madeCells, hi, h])
  rw [size_madeCells] at h
  exact h
theorem row_prs {w : World} {b t n : Nat} {g : Nat → Value} {f : Nat → Int × Int} (h : w.rowIs b t (n * 2) g) (hg : ∀ j, j < n → g (j * 2) = .int .i64 (f j).1 ∧ g (j * 2 + 1) = .int .i64 (f j).2) : Prs w b 0 n f :=
  ⟨h.lt, fun i hi => ⟨by rw [Nat.zero_add, h.cell (by omega), (hg i hi).1], by rw [Nat.zero_add, h.cell (by omega), (hg i hi).2]⟩⟩
def RowK (w : World) (b t n k : Nat) (f : Nat → Int × Int) : Prop := ∃ g, w.rowIs b t (n * 2) g ∧ ∀ j, j < k → g (j * 2) = .int .i64 (f j).1 ∧ g (j * 2 + 1) = .int .i64 (f j).2
theorem RowK.step {w : World} {b t n k : Nat} {f : Nat → Int × Int} (h : RowK w b t n k f) : RowK ((w.setCell ⟨b, k * 2, none⟩ (.int .i64 (f k).1)).setCell ⟨b, k * 2 + 1, none⟩ (.int .i64 (f k).2)) b t n (k + 1) f := by
  obtain ⟨g, hr, hg⟩ := h
  refine ⟨_, (hr.set _ _).set _ _, fun j hj => ?_⟩
  rcases Nat.lt_succ_iff_lt_or_eq.1 hj with h1 | h1
  · have e1 : ¬ j * 2 = k * 2 + 1 := by omega
    have e2 : ¬ j * 2 = k * 2 := by omega
    have e3 : ¬ j * 2 + 1 = k * 2 + 1 := by omega
    have e4 : ¬ j * 2 + 1 = k * 2 := by omega
    simp only [if_neg e1, if_neg e2, if_neg e3, if_neg e4]
    exact hg j h1
  · subst h1
    have e1 : ¬ j * 2 = j * 2 + 1 := by omega
    simp only [if_neg e1, if_true, and_self]
theorem RowK.below {w w' : World} {B b t n k : Nat} {f : Nat → Int × Int} (h : RowK w b t n k f) (hb : Below B w w') (hB : b < B) : RowK w' b t n k f := by
  obtain ⟨g, hr, hg⟩ := h
  exact ⟨g, hr.of_block (hb.block b hB), hg⟩
theorem RowK.facts {w : World} {b t n k : Nat} {f : Nat → Int × Int} (h : RowK w b t n k f) (hk : k < n) : b < w.heap.size ∧ (∃ v, w.cell? ⟨b, k * 2, none⟩ = some v) ∧ (∃ v, w.cell? ⟨b, k * 2 + 1, none⟩ = some v) ∧ w.frozen? ⟨b, k * 2, none⟩ = false ∧ w.frozen? ⟨b, k * 2 + 1, none⟩ = false := by
  obtain ⟨g, hr, hg⟩ := h
  exact ⟨hr.lt, ⟨_, hr.cell (by omega)⟩, ⟨_, hr.cell (by omega)⟩, hr.frozen _, hr.frozen _⟩
set_option maxHeartbeats 1000000 in
theorem toIvalS_some (b off n c : Nat) (f : Nat → Int × Int) (w : World) (hn : n ≤ 1048576) (hf : Prs w b off n f) :
    Calls Try.prog 13 #[.slice (some ⟨b, off, none⟩) n c] w fun e w' => e = .returned (.slice (some ⟨w.heap.size, 0, none⟩) n n) ∧ Prs w' w.heap.size 0 n f ∧ Below w.heap.size w w' := by
  have hmk := mk_row n hn
  go_enter Try.func13, Try.ntmps13
  go_wp2_with fail
  clear hmk
  go_loopw [4] (fun i wr => ∃ k : Nat, k ≤ n ∧ i = .int .i64 k ∧ RowK wr w.heap.size 33 n k f ∧ Below w.heap.size w wr) (fun i _ => n - (intOf i).toNat)
  case atStart => exact ⟨0, Nat.zero_le _, rfl, ⟨_, rowObj_is w n, fun j hj => absurd hj (Nat.not_lt_zero _)⟩, (Below.refl _ _).alloc (Nat.le_refl _) _⟩
  case round =>
    obtain ⟨k, hk, rfl, hrow, hB⟩ := hrel
    by_cases hlt : k < n
    · have c0 : wr.cell? ⟨b, off + k * 2, none⟩ = some (.int .i64 (f k).1) := ((hf.below hB hf.1).2 k hlt).1
      have c1 : wr.cell? ⟨b, off + k * 2 + 1, none⟩ = some (.int .i64 (f k).2) := ((hf.below hB hf.1).2 k hlt).2
      have hli : (k : Int) < (n : Int) := by omega
      have hsz := hB.size
      have hwl : w.heap.size < wr.heap.size := (hrow.facts hlt).1
      go_wp2_with fail
      refine (toIval_any _ _ _).mono ?_
      rintro e w1 ⟨rfl, hb⟩
      have hrow1 := hrow.below hb hwl
      obtain ⟨l1, ⟨v1, e1⟩, ⟨v2, e2⟩, f1, f2⟩ := hrow1.facts hlt
      go_wp2_with fail
      go_roundw
      case rel => exact ⟨k + 1, by omega, by go_num, hrow1.step, ((hB.trans (hb.mono hsz)).setCell (Nat.le_refl _) _).setCell (Nat.le_refl _) _⟩
      case measure => simp [intOf]; omega
    · have hkn : k = n := by omega
      subst hkn
      obtain ⟨g, hr, hg⟩ := hrow
      have hli : ¬ (k : Int) < (k : Int) := by omega
      go_wp2_with fail
      go_ret
      exact ⟨rfl, row_prs hr hg, hB⟩
set_option maxHeartbeats 1000000 in
theorem toIvalS_empty (a : Option Addr) (c : Nat) (f : Nat → Int × Int) (w : World) :
    Calls Try.prog 13 #[.slice a 0 c] w fun e w' => e = .returned (.slice (some ⟨w.heap.size, 0, none⟩) 0 0) ∧ Prs w' w.heap.size 0 0 f ∧ Below w.heap.size w w' := by
  have hmk := mk_row 0 (by omega)
  simp only [Int.ofNat_zero] at hmk
  go_enter Try.func13, Try.ntmps13
  go_wp2_with fail
  clear hmk
  go_loopw [4] (fun i wr => i = .int .i64 0 ∧ RowK wr w.heap.size 33 0 0 f ∧ Below w.heap.size w wr) (fun i _ => 0)
  case atStart => exact ⟨rfl, ⟨_, rowObj_is w 0, fun j hj => absurd hj (Nat.not_lt_zero _)⟩, (Below.refl _ _).alloc (Nat.le_refl _) _⟩
  case round =>
    obtain ⟨rfl, hrow, hB⟩ := hrel
    obtain ⟨g, hr, hg⟩ := hrow
    go_wp2_with fail
    go_ret
    exact ⟨rfl, row_prs hr hg, hB⟩
end Go.Proofs.Ytmnheknjllobdaa
