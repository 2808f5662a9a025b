/- Rows of messages: what the laws make of them, and whether two are the same. -/
import Derived.Test.YtbflhhifkhoapaaJ1
import Derived.Test.YtbflhhifkhoapaaH12
import Derived.Deep.RegionHeld3
import Derived.WalkKit
import Derived.WalkSpells
import Derived.WalkLawsBesides
import Derived.Deep.RegionHeld
namespace Go.Proofs.Ytbflhhifkhoapaa
open Go.RowKit
set_option linter.unusedVariables false
def MCMsg (M : MT) : Nat → Value
  | 0 => .int .i64 M.1
  | 1 => .int .i64 M.2.1
  | 2 => .int .i64 M.2.2.1
  | 3 => .int .i64 M.2.2.2.1
  | 4 => .int .i64 M.2.2.2.2.1
  | 5 => .int .i64 M.2.2.2.2.2.1
  | 6 => .int .i64 M.2.2.2.2.2.2.1
  | _ => .string M.2.2.2.2.2.2.2
def MFMsg (M : Nat → MT) (c : Nat) : Value := MCMsg (M (c / 8)) (c % 8)
theorem MFMsg_at (M : Nat → MT) (k j : Nat) (hj : j < 8) : MFMsg M (k * 8 + j) = MCMsg (M k) j := by
  have h1 : (k * 8 + j) / 8 = k := by omega
  have h2 : (k * 8 + j) % 8 = j := by omega
  rw [MFMsg, h1, h2]
theorem MFMsg_vals {M : Nat → MT} {k : Nat} {x0 : Int} {x1 : Int} {x2 : Int} {x3 : Int} {x4 : Int} {x5 : Int} {x6 : Int} {x7 : ByteArray} (hM : M k = (x0, x1, x2, x3, x4, x5, x6, x7)) : MFMsg M (k * 8) = .int .i64 x0 ∧ MFMsg M (k * 8 + 1) = .int .i64 x1 ∧ MFMsg M (k * 8 + 2) = .int .i64 x2 ∧ MFMsg M (k * 8 + 3) = .int .i64 x3 ∧ MFMsg M (k * 8 + 4) = .int .i64 x4 ∧ MFMsg M (k * 8 + 5) = .int .i64 x5 ∧ MFMsg M (k * 8 + 6) = .int .i64 x6 ∧ MFMsg M (k * 8 + 7) = .string x7 :=
  ⟨by have q := MFMsg_at M k 0 (by decide); rw [hM] at q; exact q, by have q := MFMsg_at M k 1 (by decide); rw [hM] at q; exact q, by have q := MFMsg_at M k 2 (by decide); rw [hM] at q; exact q, by have q := MFMsg_at M k 3 (by decide); rw [hM] at q; exact q, by have q := MFMsg_at M k 4 (by decide); rw [hM] at q; exact q, by have q := MFMsg_at M k 5 (by decide); rw [hM] at q; exact q, by have q := MFMsg_at M k 6 (by decide); rw [hM] at q; exact q, by have q := MFMsg_at M k 7 (by decide); rw [hM] at q; exact q⟩
theorem Cs.elMsg {w : World} {b off n k : Nat} {M : Nat → MT} {x0 : Int} {x1 : Int} {x2 : Int} {x3 : Int} {x4 : Int} {x5 : Int} {x6 : Int} {x7 : ByteArray} (h : Cs w b off (n * 8) (MFMsg M)) (hk : k < n) (hM : M k = (x0, x1, x2, x3, x4, x5, x6, x7)) : w.cell? ⟨b, off + k * 8, none⟩ = some (.int .i64 x0) ∧ w.cell? ⟨b, off + k * 8 + 1, none⟩ = some (.int .i64 x1) ∧ w.cell? ⟨b, off + k * 8 + 2, none⟩ = some (.int .i64 x2) ∧ w.cell? ⟨b, off + k * 8 + 3, none⟩ = some (.int .i64 x3) ∧ w.cell? ⟨b, off + k * 8 + 4, none⟩ = some (.int .i64 x4) ∧ w.cell? ⟨b, off + k * 8 + 5, none⟩ = some (.int .i64 x5) ∧ w.cell? ⟨b, off + k * 8 + 6, none⟩ = some (.int .i64 x6) ∧ w.cell? ⟨b, off + k * 8 + 7, none⟩ = some (.string x7) := by
  obtain ⟨q0, q1, q2, q3, q4, q5, q6, q7⟩ := MFMsg_vals hM
  exact ⟨by have := h.2 (k * 8) (by omega); rw [q0] at this; exact this, by have := h.2 (k * 8 + 1) (by omega); rw [q1] at this; exact this, by have := h.2 (k * 8 + 2) (by omega); rw [q2] at this; exact this, by have := h.2 (k * 8 + 3) (by omega); rw [q3] at this; exact this, by have := h.2 (k * 8 + 4) (by omega); rw [q4] at this; exact this, by have := h.2 (k * 8 + 5) (by omega); rw [q5] at this; exact this, by have := h.2 (k * 8 + 6) (by omega); rw [q6] at this; exact this, by have := h.2 (k * 8 + 7) (by omega); rw [q7] at this; exact this⟩
theorem tupMsg (M : Nat → MT) (k : Nat) : ∃ (x0 : Int) (x1 : Int) (x2 : Int) (x3 : Int) (x4 : Int) (x5 : Int) (x6 : Int) (x7 : ByteArray), M k = (x0, x1, x2, x3, x4, x5, x6, x7) := ⟨_, _, _, _, _, _, _, _, rfl⟩
def rowObjMsg (n : Nat) : Obj := .cells (madeCells #[.int .i64 0, .int .i64 0, .int .i64 0, .int .i64 0, .int .i64 0, .int .i64 0, .int .i64 0, .string ⟨#[]⟩] (n * 8)) 27
theorem infoMsg : (Try.prog.info? 27).map (fun i => (i.zero, i.size, i.bytes)) = some (some (.agg #[.int .i64 0, .int .i64 0, .int .i64 0, .int .i64 0, .int .i64 0, .int .i64 0, .int .i64 0, .string ⟨#[]⟩]), 8, 72) := by kernel_rfl
theorem mk_rowMsg (n : Nat) (h : n ≤ 1048576) (w : World) : (Instr.makeSlice 37 (.int .i64 (n : Int)) (.int .i64 (n : Int))).run Try.prog w = .ok (.slice (some ⟨w.heap.size, 0, none⟩) n n) (w.alloc (rowObjMsg n)) := by
  obtain ⟨i, hi, hz⟩ := Option.map_eq_some_iff.1 infoMsg
  simp only [Prod.mk.injEq] at hz
  obtain ⟨h1, h2, h3⟩ := hz
  have hr := run_make (P := Try.prog) w 37 27 i _ Try.underlying37 hi h1 .i64 .i64 n n (by omega) (Int.le_refl _) (by rw [h3]; omega) (by omega)
  simp only [Int.toNat_natCast, h2] at hr
  exact hr
theorem rowObjMsg_is (w : World) (n : Nat) (F : Nat → Value) : RowF (w.alloc (rowObjMsg n)) w.heap.size 27 (n * 8) 0 F := by
  have h := World.rowIs_alloc w (madeCells #[.int .i64 0, .int .i64 0, .int .i64 0, .int .i64 0, .int .i64 0, .int .i64 0, .int .i64 0, .string ⟨#[]⟩] (n * 8)) 27 (fun i => (madeCells #[.int .i64 0, .int .i64 0, .int .i64 0, .int .i64 0, .int .i64 0, .int .i64 0, .int .i64 0, .string ⟨#[]⟩] (n * 8)).getD i undef) (fun i hi => by
    rw [Array.getElem?_eq_getElem hi]; exact congrArg some (by rw [Array.getD_eq_getD_getElem?, Array.getElem?_eq_getElem hi]; rfl))
  rw [size_madeCells] at h
  exact ⟨_, h, fun j hj => absurd hj (Nat.not_lt_zero _)⟩
def mkMsg (c : Nat) : Value := if c % 8 = 7 then .string (txt (1 + (c : Int))) else .int .i64 (1 + (c : Int))
theorem mkMsg_i {k j : Nat} {x : Int} (hj : j < 8) (hs : j ≠ 7) (h : x = 1 + ((k * 8 + j : Nat) : Int)) : mkMsg (k * 8 + j) = .int .i64 x := by
  have e : (k * 8 + j) % 8 = j := by omega
  rw [mkMsg, e, if_neg (by omega), h]
theorem mkMsg_s {k j : Nat} {x : Int} (hj : j < 8) (hs : j = 7) (h : x = 1 + ((k * 8 + j : Nat) : Int)) : mkMsg (k * 8 + j) = .string (txt x) := by
  have e : (k * 8 + j) % 8 = j := by omega
  rw [mkMsg, e, if_pos (by omega), h]
end Go.Proofs.Ytbflhhifkhoapaa
