/- Rows of flights: what the laws make of them, and whether two are the same. -/
import Derived.Test.YtfdcjfebfbpliaaN51
import Derived.Deep.RegionHeld3
import Derived.WalkKit
import Derived.WalkSpells
import Derived.WalkLawsBesides
import Derived.Deep.RegionHeld
namespace Go.Proofs.Ytfdcjfebfbpliaa
open Go.RowKit
set_option linter.unusedVariables false
def MCFlight (M : FT) : Nat → Value
  | 0 => .int .i64 M.1
  | 1 => .int .i64 M.2.1
  | 2 => .int .i64 M.2.2.1
  | 3 => .string M.2.2.2.1
  | _ => .int .i64 M.2.2.2.2
def MFFlight (M : Nat → FT) (c : Nat) : Value := MCFlight (M (c / 5)) (c % 5)
theorem MFFlight_at (M : Nat → FT) (k j : Nat) (hj : j < 5) : MFFlight M (k * 5 + j) = MCFlight (M k) j := by
  have h1 : (k * 5 + j) / 5 = k := by omega
  have h2 : (k * 5 + j) % 5 = j := by omega
  rw [MFFlight, h1, h2]
theorem MFFlight_vals {M : Nat → FT} {k : Nat} {x0 : Int} {x1 : Int} {x2 : Int} {x3 : ByteArray} {x4 : Int} (hM : M k = (x0, x1, x2, x3, x4)) : MFFlight M (k * 5) = .int .i64 x0 ∧ MFFlight M (k * 5 + 1) = .int .i64 x1 ∧ MFFlight M (k * 5 + 2) = .int .i64 x2 ∧ MFFlight M (k * 5 + 3) = .string x3 ∧ MFFlight M (k * 5 + 4) = .int .i64 x4 :=
  ⟨by have q := MFFlight_at M k 0 (by decide); rw [hM] at q; exact q, by have q := MFFlight_at M k 1 (by decide); rw [hM] at q; exact q, by have q := MFFlight_at M k 2 (by decide); rw [hM] at q; exact q, by have q := MFFlight_at M k 3 (by decide); rw [hM] at q; exact q, by have q := MFFlight_at M k 4 (by decide); rw [hM] at q; exact q⟩
theorem Cs.elFlight {w : World} {b off n k : Nat} {M : Nat → FT} {x0 : Int} {x1 : Int} {x2 : Int} {x3 : ByteArray} {x4 : Int} (h : Cs w b off (n * 5) (MFFlight M)) (hk : k < n) (hM : M k = (x0, x1, x2, x3, x4)) : w.cell? ⟨b, off + k * 5, none⟩ = some (.int .i64 x0) ∧ w.cell? ⟨b, off + k * 5 + 1, none⟩ = some (.int .i64 x1) ∧ w.cell? ⟨b, off + k * 5 + 2, none⟩ = some (.int .i64 x2) ∧ w.cell? ⟨b, off + k * 5 + 3, none⟩ = some (.string x3) ∧ w.cell? ⟨b, off + k * 5 + 4, none⟩ = some (.int .i64 x4) := by
  obtain ⟨q0, q1, q2, q3, q4⟩ := MFFlight_vals hM
  exact ⟨by have := h.2 (k * 5) (by omega); rw [q0] at this; exact this, by have := h.2 (k * 5 + 1) (by omega); rw [q1] at this; exact this, by have := h.2 (k * 5 + 2) (by omega); rw [q2] at this; exact this, by have := h.2 (k * 5 + 3) (by omega); rw [q3] at this; exact this, by have := h.2 (k * 5 + 4) (by omega); rw [q4] at this; exact this⟩
theorem tupFlight (M : Nat → FT) (k : Nat) : ∃ (x0 : Int) (x1 : Int) (x2 : Int) (x3 : ByteArray) (x4 : Int), M k = (x0, x1, x2, x3, x4) := ⟨_, _, _, _, _, rfl⟩
def rowObjFlight (n : Nat) : Obj := .cells (madeCells #[.int .i64 0, .int .i64 0, .int .i64 0, .string ⟨#[]⟩, .int .i64 0] (n * 5)) 30
theorem infoFlight : (Try.prog.info? 30).map (fun i => (i.zero, i.size, i.bytes)) = some (some (.agg #[.int .i64 0, .int .i64 0, .int .i64 0, .string ⟨#[]⟩, .int .i64 0]), 5, 48) := by kernel_rfl
theorem mk_rowFlight (n : Nat) (h : n ≤ 1048576) (w : World) : (Instr.makeSlice 24 (.int .i64 (n : Int)) (.int .i64 (n : Int))).run Try.prog w = .ok (.slice (some ⟨w.heap.size, 0, none⟩) n n) (w.alloc (rowObjFlight n)) := by
  obtain ⟨i, hi, hz⟩ := Option.map_eq_some_iff.1 infoFlight
  simp only [Prod.mk.injEq] at hz
  obtain ⟨h1, h2, h3⟩ := hz
  have hr := run_make (P := Try.prog) w 24 30 i _ Try.underlying24 hi h1 .i64 .i64 n n (by omega) (Int.le_refl _) (by rw [h3]; omega) (by omega)
  simp only [Int.toNat_natCast, h2] at hr
  exact hr
theorem rowObjFlight_is (w : World) (n : Nat) (F : Nat → Value) : RowF (w.alloc (rowObjFlight n)) w.heap.size 30 (n * 5) 0 F := by
  have h := World.rowIs_alloc w (madeCells #[.int .i64 0, .int .i64 0, .int .i64 0, .string ⟨#[]⟩, .int .i64 0] (n * 5)) 30 (fun i => (madeCells #[.int .i64 0, .int .i64 0, .int .i64 0, .string ⟨#[]⟩, .int .i64 0] (n * 5)).getD i undef) (fun i hi => by
    rw [Array.getElem?_eq_getElem hi]; exact congrArg some (by rw [Array.getD_eq_getD_getElem?, Array.getElem?_eq_getElem hi]; rfl))
  rw [size_madeCells] at h
  exact ⟨_, h, fun j hj => absurd hj (Nat.not_lt_zero _)⟩
def mkFlight (c : Nat) : Value := if c % 5 = 3 then .string (txt (1 + (c : Int))) else .int .i64 (1 + (c : Int))
theorem mkFlight_i {k j : Nat} {x : Int} (hj : j < 5) (hs : j ≠ 3) (h : x = 1 + ((k * 5 + j : Nat) : Int)) : mkFlight (k * 5 + j) = .int .i64 x := by
  have e : (k * 5 + j) % 5 = j := by omega
  rw [mkFlight, e, if_neg (by omega), h]
theorem mkFlight_s {k j : Nat} {x : Int} (hj : j < 5) (hs : j = 3) (h : x = 1 + ((k * 5 + j : Nat) : Int)) : mkFlight (k * 5 + j) = .string (txt x) := by
  have e : (k * 5 + j) % 5 = j := by omega
  rw [mkFlight, e, if_pos (by omega), h]
end Go.Proofs.Ytfdcjfebfbpliaa
