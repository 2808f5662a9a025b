/- What the laws make of bytes, and whether two rows of them are the same. -/
import Derived.Test.YtddjiamollfplaaDoorG2
import Derived.WalkKit
import Derived.WalkSpells
import Derived.WalkLawsBesides
import Derived.Deep.RegionHeld
namespace Go.Proofs.YtddjiamollfplaaDoor
open Go.RowKit
set_option linter.unusedVariables false
def rowObjB (n : Nat) : Obj := .cells (madeCells #[.int .u8 0] n) 5
theorem mk_rowB (n : Nat) (h : n ≤ 1048576) (w : World) : (Instr.makeSlice 22 (.int .i64 (n : Int)) (.int .i64 (n : Int))).run Tryd.prog w = .ok (.slice (some ⟨w.heap.size, 0, none⟩) n n) (w.alloc (rowObjB n)) := by
  obtain ⟨i, hi, hz⟩ := Option.map_eq_some_iff.1 infoByte
  simp only [Prod.mk.injEq] at hz
  obtain ⟨h1, h2, h3⟩ := hz
  have hr := run_make (P := Tryd.prog) w 22 5 i _ Tryd.underlying22 hi h1 .i64 .i64 n n (by omega) (Int.le_refl _) (by rw [h3]; omega) (by omega)
  simp only [Int.toNat_natCast, h2, Nat.mul_one] at hr
  exact hr
theorem rowObjB_is (w : World) (n : Nat) : (w.alloc (rowObjB n)).rowIs w.heap.size 5 n (fun _ => .int .u8 0) := by
  have h := World.rowIs_alloc w (madeCells #[.int .u8 0] n) 5 (fun _ => .int .u8 0) (fun i hi => by
    rw [size_madeCells] at hi
    simp [madeCells, hi, Nat.mod_one])
  rw [size_madeCells] at h
  exact h
def RowB (w : World) (b t n k : Nat) (f : Nat → Int) : Prop := ∃ g, w.rowIs b t n g ∧ ∀ j, j < k → g j = .int .u8 (f j)
theorem RowB.step {w : World} {b t n k : Nat} {f : Nat → Int} (h : RowB w b t n k f) : RowB (w.setCell ⟨b, k, none⟩ (.int .u8 (f k))) b t n (k + 1) f := by
  obtain ⟨g, hr, hg⟩ := h
  refine ⟨_, hr.set _ _, fun j hj => ?_⟩
  rcases Nat.lt_succ_iff_lt_or_eq.1 hj with h1 | h1
  · have e1 : ¬ j = k := by omega
    simp only [if_neg e1]
    exact hg j h1
  · subst h1
    simp only [if_true]
theorem RowB.below {w w' : World} {B b t n k : Nat} {f : Nat → Int} (h : RowB w b t n k f) (hb : Below B w w') (hB : b < B) : RowB w' b t n k f := by
  obtain ⟨g, hr, hg⟩ := h
  exact ⟨g, hr.of_block (hb.block b hB), hg⟩
theorem RowB.facts {w : World} {b t n k : Nat} {f : Nat → Int} (h : RowB w b t n k f) (hk : k < n) : b < w.heap.size ∧ (∃ v, w.cell? ⟨b, k, none⟩ = some v) ∧ w.frozen? ⟨b, k, none⟩ = false := by
  obtain ⟨g, hr, hg⟩ := h
  exact ⟨hr.lt, ⟨_, hr.cell (by omega)⟩, hr.frozen _⟩
theorem RowB.lt {w : World} {b t n k : Nat} {f : Nat → Int} (h : RowB w b t n k f) : b < w.heap.size := by obtain ⟨g, hr, hg⟩ := h; exact hr.lt
theorem RowB.byts {w : World} {b t N n : Nat} {f : Nat → Int} (h : RowB w b t N n f) (hn : n ≤ N) : Byts w b 0 n f := by
  obtain ⟨g, hr, hg⟩ := h
  exact ⟨hr.lt, fun i hi => by rw [Nat.zero_add, hr.cell (by omega), hg i hi]⟩
def fmb (i : Nat) : Int := IntKind.u8.wrap (1 + (i : Int))
theorem grownB_set {w wr : World} {b : Nat} (h : w.grownBy wr (some b)) (o : Nat) (u : Value) : w.grownBy (wr.setCell ⟨b, o, none⟩ u) (some b) :=
  ⟨h.os, h.tape, h.output, by rw [World.size_setCell]; exact h.size, fun k hk hp => (Below.heap_setCell wr ⟨b, o, none⟩ u k (fun e => hp (by rw [e]))).trans (h.block k hk hp)⟩
theorem grownB_belowB {w w' : World} {b B : Nat} (h : w.grownBy w' (some b)) (hB : B ≤ b) (hs : B ≤ w.heap.size) : Below B w w' := ⟨h.os, h.tape, h.output, h.size, fun k hk => h.block k (by omega) (fun e => by simp at e; omega)⟩
theorem ownB_rowB {w : World} {base : Nat} {T : TypeId} {g n cap : Nat} {xs : List Value} (h : w.ownsRow base T 1 (.slice (some ⟨g, 0, none⟩) n cap) n xs) : base ≤ g ∧ n ≤ cap ∧ RowB w g T cap 0 fmb := by
  rcases h.2 with ⟨h, _⟩ | ⟨g', cap', cur, he, h2, h3, h4, h5, h6, h7⟩
  · simp at h
  · simp at he
    obtain ⟨rfl, rfl⟩ := he
    exact ⟨h2, h4, _, ⟨cur, h3, by omega, fun i hi => by rw [Array.getElem?_eq_getElem (by omega)]; exact congrArg some (by rw [Array.getD_eq_getD_getElem?, Array.getElem?_eq_getElem (by omega)]; rfl : cur[i]'(by omega) = cur.getD i undef)⟩, fun j hj => absurd hj (Nat.not_lt_zero _)⟩
end Go.Proofs.YtddjiamollfplaaDoor
