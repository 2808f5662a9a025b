/- Asks and rows of asks: what the laws make of them, and whether two are the same. -/
import Derived.Test.YtlaladalnbdhpaaN51
import Derived.Test.YtlaladalnbdhpaaA1
import Derived.Deep.RegionHeld3
import Derived.WalkKit
import Derived.WalkSpells
import Derived.WalkLawsBesides
import Derived.Deep.RegionHeld
namespace Go.Proofs.Ytlaladalnbdhpaa
open Go.RowKit
set_option linter.unusedVariables false
def KT : Type := Int × Int × Int × Int
def zK : KT := (0, 0, 0, 0)
def kT (x0 x1 x2 x3 : Int) : KT := (x0, x1, x2, x3)
def MCAsk (M : KT) : Nat → Value
  | 0 => .int .i64 M.1
  | 1 => .int .i64 M.2.1
  | 2 => .int .i64 M.2.2.1
  | _ => .int .i64 M.2.2.2
def MFAsk (M : Nat → KT) (c : Nat) : Value := MCAsk (M (c / 4)) (c % 4)
theorem MFAsk_at (M : Nat → KT) (k j : Nat) (hj : j < 4) : MFAsk M (k * 4 + j) = MCAsk (M k) j := by
  have h1 : (k * 4 + j) / 4 = k := by omega
  have h2 : (k * 4 + j) % 4 = j := by omega
  rw [MFAsk, h1, h2]
theorem MFAsk_vals {M : Nat → KT} {k : Nat} {x0 : Int} {x1 : Int} {x2 : Int} {x3 : Int} (hM : M k = (x0, x1, x2, x3)) : MFAsk M (k * 4) = .int .i64 x0 ∧ MFAsk M (k * 4 + 1) = .int .i64 x1 ∧ MFAsk M (k * 4 + 2) = .int .i64 x2 ∧ MFAsk M (k * 4 + 3) = .int .i64 x3 :=
  ⟨by have q := MFAsk_at M k 0 (by decide); rw [hM] at q; exact q, by have q := MFAsk_at M k 1 (by decide); rw [hM] at q; exact q, by have q := MFAsk_at M k 2 (by decide); rw [hM] at q; exact q, by have q := MFAsk_at M k 3 (by decide); rw [hM] at q; exact q⟩
theorem Cs.elAsk {w : World} {b off n k : Nat} {M : Nat → KT} {x0 : Int} {x1 : Int} {x2 : Int} {x3 : Int} (h : Cs w b off (n * 4) (MFAsk M)) (hk : k < n) (hM : M k = (x0, x1, x2, x3)) : w.cell? ⟨b, off + k * 4, none⟩ = some (.int .i64 x0) ∧ w.cell? ⟨b, off + k * 4 + 1, none⟩ = some (.int .i64 x1) ∧ w.cell? ⟨b, off + k * 4 + 2, none⟩ = some (.int .i64 x2) ∧ w.cell? ⟨b, off + k * 4 + 3, none⟩ = some (.int .i64 x3) := by
  obtain ⟨q0, q1, q2, q3⟩ := MFAsk_vals hM
  exact ⟨by have := h.2 (k * 4) (by omega); rw [q0] at this; exact this, by have := h.2 (k * 4 + 1) (by omega); rw [q1] at this; exact this, by have := h.2 (k * 4 + 2) (by omega); rw [q2] at this; exact this, by have := h.2 (k * 4 + 3) (by omega); rw [q3] at this; exact this⟩
theorem tupAsk (M : Nat → KT) (k : Nat) : ∃ (x0 : Int) (x1 : Int) (x2 : Int) (x3 : Int), M k = (x0, x1, x2, x3) := ⟨_, _, _, _, rfl⟩
def rowObjAsk (n : Nat) : Obj := .cells (madeCells #[.int .i64 0, .int .i64 0, .int .i64 0, .int .i64 0] (n * 4)) 34
theorem infoAsk : (Try.prog.info? 34).map (fun i => (i.zero, i.size, i.bytes)) = some (some (.agg #[.int .i64 0, .int .i64 0, .int .i64 0, .int .i64 0]), 4, 32) := by kernel_rfl
theorem mk_rowAsk (n : Nat) (h : n ≤ 1048576) (w : World) : (Instr.makeSlice 24 (.int .i64 (n : Int)) (.int .i64 (n : Int))).run Try.prog w = .ok (.slice (some ⟨w.heap.size, 0, none⟩) n n) (w.alloc (rowObjAsk n)) := by
  obtain ⟨i, hi, hz⟩ := Option.map_eq_some_iff.1 infoAsk
  simp only [Prod.mk.injEq] at hz
  obtain ⟨h1, h2, h3⟩ := hz
  have hr := run_make (P := Try.prog) w 24 34 i _ Try.underlying24 hi h1 .i64 .i64 n n (by omega) (Int.le_refl _) (by rw [h3]; omega) (by omega)
  simp only [Int.toNat_natCast, h2] at hr
  exact hr
theorem rowObjAsk_is (w : World) (n : Nat) (F : Nat → Value) : RowF (w.alloc (rowObjAsk n)) w.heap.size 34 (n * 4) 0 F := by
  have h := World.rowIs_alloc w (madeCells #[.int .i64 0, .int .i64 0, .int .i64 0, .int .i64 0] (n * 4)) 34 (fun i => (madeCells #[.int .i64 0, .int .i64 0, .int .i64 0, .int .i64 0] (n * 4)).getD i undef) (fun i hi => by
    rw [Array.getElem?_eq_getElem hi]; exact congrArg some (by rw [Array.getD_eq_getD_getElem?, Array.getElem?_eq_getElem hi]; rfl))
  rw [size_madeCells] at h
  exact ⟨_, h, fun j hj => absurd hj (Nat.not_lt_zero _)⟩
def mkAsk (q : Int) (c : Nat) : Value := .int .i64 (q + (c : Int))
theorem mkAsk_i {q : Int} {k j : Nat} {x : Int} (h : x = q + ((k * 4 + j : Nat) : Int)) : mkAsk q (k * 4 + j) = .int .i64 x := by rw [mkAsk, h]
end Go.Proofs.Ytlaladalnbdhpaa
