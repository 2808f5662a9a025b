/- Flights: contracts of what asks whether one is right; what the laws make of one. Asks and rows of asks: what the laws make of them, and whether two are the same. -/
import Derived.Test.YtddijpjgkifngaaGreatM0
import Derived.Test.YtddijpjgkifngaaGreatM4
namespace Go.Proofs.YtddijpjgkifngaaGreat
open Go.RowKit
set_option linter.unusedVariables false
def FT : Type := Int × Int × Int × ByteArray × Int
def zF : FT := (0, 0, 0, ⟨#[]⟩, 0)
def fT (x0 x1 x2 : Int) (x3 : ByteArray) (x4 : Int) : FT := (x0, x1, x2, x3, x4)
def tmB (t : Int) : Bool := decide (0 ≤ t ∧ t ≤ 1000000000000)
def flB (x1 x2 : Int) (x3 : ByteArray) (x4 : Int) : Bool := nodB x1 && nodB x2 && decide (x3.size ≤ 64) && tmB x4
def flT (M : FT) : Bool := flB M.2.1 M.2.2.1 M.2.2.2.1 M.2.2.2.2
set_option maxHeartbeats 400000 in
theorem isTime_any5 (n : Int) (w : World) :
 Calls Tryz.prog 99 #[.int .i64 n] w fun e w' => e = .returned (.bool (tmB n)) ∧ w = w' := by
 go_enter Tryz.func99, Tryz.ntmps99
 go_wp2
 all_goals go_ret
 all_goals exact ⟨ret_bool (by rw [Bool.eq_iff_iff]; simp [tmB]; try omega), rfl⟩
set_option maxHeartbeats 400000 in
theorem l2Time_any5 (n : Int) (w : World) :
 Calls Tryz.prog 43 #[.int .i64 n] w fun e w' => e = .returned (.bool (tmB n)) ∧ w = w' := by
 go_enter Tryz.func43, Tryz.ntmps43
 go_wp2_with (first | (go_at_call 42; refine (l1In_any _ _ _ _).mono ?_; rintro e w' ⟨rfl, rfl⟩))
 go_ret
 exact ⟨ret_bool (by simp [tmB]), rfl⟩
def Box5 (w : World) (j : Nat) (x0 x1 x2 : Int) (x3 : ByteArray) (x4 : Int) : Prop := j < w.heap.size ∧ w.cell? ⟨j, 0, none⟩ = some (.int .i64 x0) ∧ w.cell? ⟨j, 1, none⟩ = some (.int .i64 x1) ∧ w.cell? ⟨j, 2, none⟩ = some (.int .i64 x2) ∧ w.cell? ⟨j, 3, none⟩ = some (.string x3) ∧ w.cell? ⟨j, 4, none⟩ = some (.int .i64 x4)
theorem Box5.belowB {j B : Nat} {w w' : World} {x0 x1 x2 : Int} {x3 : ByteArray} {x4 : Int} (h : Box5 w j x0 x1 x2 x3 x4) (hw : Below B w w') (hk : j < B) : Box5 w' j x0 x1 x2 x3 x4 := by
 obtain ⟨h0, h1, h2, h3, h4, h5⟩ := h
 exact ⟨Nat.lt_of_lt_of_le h0 hw.size, by rw [hw.cell (p := ⟨j, 0, none⟩) hk]; exact h1, by rw [hw.cell (p := ⟨j, 1, none⟩) hk]; exact h2, by rw [hw.cell (p := ⟨j, 2, none⟩) hk]; exact h3, by rw [hw.cell (p := ⟨j, 3, none⟩) hk]; exact h4, by rw [hw.cell (p := ⟨j, 4, none⟩) hk]; exact h5⟩
theorem Box5.below {j : Nat} {w w' : World} {x0 x1 x2 : Int} {x3 : ByteArray} {x4 : Int} (h : Box5 w j x0 x1 x2 x3 x4) (hw : Below w.heap.size w w') : Box5 w' j x0 x1 x2 x3 x4 := h.belowB hw h.1
theorem Box5.new (w : World) (x0 x1 x2 : Int) (x3 : ByteArray) (x4 : Int) (T : TypeId) : Box5 (w.alloc (.cells #[.int .i64 x0, .int .i64 x1, .int .i64 x2, .string x3, .int .i64 x4] T)) w.heap.size x0 x1 x2 x3 x4 := ⟨by simp, by simp, by simp, by simp, by simp, by simp⟩
set_option maxHeartbeats 4000000 in
theorem l5Flight_any (x0 x1 x2 : Int) (x3 : ByteArray) (x4 : Int) (w : World) (hs : x3.size ≤ maxLen) :
 Calls Tryz.prog 84 #[.agg #[.int .i64 x0, .int .i64 x1, .int .i64 x2, .string x3, .int .i64 x4]] w fun e w' => e = .returned (.bool (flB x1 x2 x3 x4)) ∧ Below w.heap.size w w' := by
 unfold maxLen at hs
 have B0 := Below.nw w (.cells #[.int .i64 x0, .int .i64 x1, .int .i64 x2, .string x3, .int .i64 x4] 101)
 cases h1 : nodB x1
 ·go_enter Tryz.func84, Tryz.ntmps84
  go_wp2_with fail
  refine (l4Node_any _ _).mono ?_
  rintro e w' ⟨rfl, rfl⟩
  rw [h1]
  go_wp2_with fail
  go_ret
  exact ⟨ret_bool (by simp [flB, h1]), B0⟩
 ·cases h2 : nodB x2
  ·go_enter Tryz.func84, Tryz.ntmps84
   go_wp2_with fail
   refine (l4Node_any _ _).mono ?_
   rintro e w' ⟨rfl, rfl⟩
   rw [h1]
   go_wp2_with fail
   refine (l4Node_any _ _).mono ?_
   rintro e w' ⟨rfl, rfl⟩
   rw [h2]
   go_wp2_with fail
   go_ret
   exact ⟨ret_bool (by simp [flB, h2]), B0⟩
  ·by_cases h3 : (x3.size : Int) ≤ 64
   ·have h3n : x3.size ≤ 64 := by omega
    go_enter Tryz.func84, Tryz.ntmps84
    go_wp2_with fail
    refine (l4Node_any _ _).mono ?_
    rintro e w' ⟨rfl, rfl⟩
    rw [h1]
    go_wp2_with fail
    refine (l4Node_any _ _).mono ?_
    rintro e w' ⟨rfl, rfl⟩
    rw [h2]
    go_wp2_with fail
    refine (l2Time_any5 _ _).mono ?_
    rintro e w' ⟨rfl, rfl⟩
    go_wp2_with fail
    go_ret
    exact ⟨ret_bool (by simp [flB, h1, h2, h3n]), B0⟩
   ·have h3n : ¬ x3.size ≤ 64 := by omega
    have HN : Hid (flB x1 x2 x3 x4 = false) := by simp [Hid, flB, h3n]
    go_enter Tryz.func84, Tryz.ntmps84
    go_wp2_with fail
    refine (l4Node_any _ _).mono ?_
    rintro e w' ⟨rfl, rfl⟩
    rw [h1]
    go_wp2_with fail
    refine (l4Node_any _ _).mono ?_
    rintro e w' ⟨rfl, rfl⟩
    rw [h2]
    go_wp2_with fail
    go_ret
    exact ⟨ret_bool HN.out.symm, B0⟩
set_option maxHeartbeats 4000000 in
theorem flightOk_any (x0 x1 x2 : Int) (x3 : ByteArray) (x4 : Int) (w : World) (hs : x3.size ≤ maxLen) :
 Calls Tryz.prog 200 #[.agg #[.int .i64 x0, .int .i64 x1, .int .i64 x2, .string x3, .int .i64 x4]] w fun e w' => e = .returned (.bool (flB x1 x2 x3 x4)) ∧ Below w.heap.size w w' := by
 unfold maxLen at hs
 have B0 := Below.nw w (.cells #[.int .i64 x0, .int .i64 x1, .int .i64 x2, .string x3, .int .i64 x4] 101)
 cases h1 : nodB x1
 ·go_enter Tryz.func200, Tryz.ntmps200
  go_wp2_with fail
  refine (isNode_any _ _).mono ?_
  rintro e w' ⟨rfl, rfl⟩
  rw [h1]
  go_wp2_with fail
  go_ret
  exact ⟨ret_bool (by simp [flB, h1]), B0⟩
 ·cases h2 : nodB x2
  ·go_enter Tryz.func200, Tryz.ntmps200
   go_wp2_with fail
   refine (isNode_any _ _).mono ?_
   rintro e w' ⟨rfl, rfl⟩
   rw [h1]
   go_wp2_with fail
   refine (isNode_any _ _).mono ?_
   rintro e w' ⟨rfl, rfl⟩
   rw [h2]
   go_wp2_with fail
   go_ret
   exact ⟨ret_bool (by simp [flB, h2]), B0⟩
  ·by_cases h3 : (x3.size : Int) ≤ 64
   ·have h3n : x3.size ≤ 64 := by omega
    go_enter Tryz.func200, Tryz.ntmps200
    go_wp2_with fail
    refine (isNode_any _ _).mono ?_
    rintro e w' ⟨rfl, rfl⟩
    rw [h1]
    go_wp2_with fail
    refine (isNode_any _ _).mono ?_
    rintro e w' ⟨rfl, rfl⟩
    rw [h2]
    go_wp2_with fail
    refine (isTime_any5 _ _).mono ?_
    rintro e w' ⟨rfl, rfl⟩
    go_wp2_with fail
    go_ret
    exact ⟨ret_bool (by simp [flB, h1, h2, h3n]), B0⟩
   ·have h3n : ¬ x3.size ≤ 64 := by omega
    have HN : Hid (flB x1 x2 x3 x4 = false) := by simp [Hid, flB, h3n]
    go_enter Tryz.func200, Tryz.ntmps200
    go_wp2_with fail
    refine (isNode_any _ _).mono ?_
    rintro e w' ⟨rfl, rfl⟩
    rw [h1]
    go_wp2_with fail
    refine (isNode_any _ _).mono ?_
    rintro e w' ⟨rfl, rfl⟩
    rw [h2]
    go_wp2_with fail
    go_ret
    exact ⟨ret_bool HN.out.symm, B0⟩
set_option maxHeartbeats 1000000 in
theorem szFlight_left (x0 x1 x2 : Int) (x3 : ByteArray) (x4 : Int) (L : Int) (w : World) (hs : x3.size ≤ maxLen) (L0 : 0 ≤ L) (L1 : L ≤ 1048576) :
 Calls Tryz.prog 136 #[.agg #[.int .i64 x0, .int .i64 x1, .int .i64 x2, .string x3, .int .i64 x4], .int .i64 L] w fun e w' => e = .returned (.int .i64 (if (x3.size : Int) ≤ L then L - (x3.size : Int) else -1)) ∧ Below w.heap.size w w' := by
 unfold maxLen at hs
 have B0 := Below.nw w (.cells #[.int .i64 x0, .int .i64 x1, .int .i64 x2, .string x3, .int .i64 x4] 193)
 by_cases h : (x3.size : Int) ≤ L
 ·rw [if_pos h]
  have hd : decide (L - (x3.size : Int) < 0) = false := by simp; omega
  go_enter Tryz.func136, Tryz.ntmps136
  go_wp2
  go_ret
  exact ⟨rfl, B0⟩
 ·rw [if_neg h]
  have hd : decide (L - (x3.size : Int) < 0) = true := by simp; omega
  go_enter Tryz.func136, Tryz.ntmps136
  go_wp2
  go_ret
  exact ⟨rfl, B0⟩
set_option maxHeartbeats 2000000 in
theorem toFlight_any (x0 x1 x2 : Int) (x3 : ByteArray) (x4 : Int) (w : World) :
 Calls Tryz.prog 145 #[.agg #[.int .i64 x0, .int .i64 x1, .int .i64 x2, .string x3, .int .i64 x4]] w fun e w' => e = .returned (.agg #[.int .i64 x0, .int .i64 x1, .int .i64 x2, .string x3, .int .i64 x4]) ∧ Below w.heap.size w w' := by
 go_enter Tryz.func145, Tryz.ntmps145
 go_wp2_with fail
 exact bodyPost_ret (v := .agg #[.int .i64 x0, .int .i64 x1, .int .i64 x2, .string x3, .int .i64 x4]) (by simp (maxDischargeDepth := 6) [results, Tryz.results145, go_sem, *]) rfl ⟨rfl, by repeat (first | refine Below.setCell ?_ (by first | (simp; done) | (simp; omega) | omega) _ | refine Below.alloc ?_ (by first | exact Nat.le_refl _ | (simp; done) | (simp; omega)) _ | exact Below.refl _ _)⟩
set_option maxHeartbeats 2000000 in
theorem eqFlight_same (x0 x1 x2 : Int) (x3 : ByteArray) (x4 : Int) (w : World) :
 Calls Tryz.prog 159 #[.agg #[.int .i64 x0, .int .i64 x1, .int .i64 x2, .string x3, .int .i64 x4], .agg #[.int .i64 x0, .int .i64 x1, .int .i64 x2, .string x3, .int .i64 x4]] w fun e w' => e = .returned (.bool true) ∧ Below w.heap.size w w' := by
 go_enter Tryz.func159, Tryz.ntmps159
 go_wp2_with fail
 go_ret
 exact ⟨rfl, by repeat (first | refine Below.alloc ?_ (by first | exact Nat.le_refl _ | (simp; done) | (simp; omega)) _ | exact Below.refl _ _)⟩
end Go.Proofs.YtddijpjgkifngaaGreat
namespace Go.Proofs.YtddijpjgkifngaaGreat
open Go.RowKit
set_option linter.unusedVariables false
def KT : Type := Int × Int × Int × Int
def zK : KT := (0, 0, 0, 0)
set_option maxHeartbeats 2000000 in
theorem toAsk_any (x0 x1 x2 x3 : Int) (w : World) :
 Calls Tryz.prog 193 #[.agg #[.int .i64 x0, .int .i64 x1, .int .i64 x2, .int .i64 x3]] w fun e w' => e = .returned (.agg #[.int .i64 x0, .int .i64 x1, .int .i64 x2, .int .i64 x3]) ∧ Below w.heap.size w w' := by
 go_enter Tryz.func193, Tryz.ntmps193
 go_wp2_with fail
 exact bodyPost_ret (v := .agg #[.int .i64 x0, .int .i64 x1, .int .i64 x2, .int .i64 x3]) (by simp (maxDischargeDepth := 6) [results, Tryz.results193, go_sem, *]) rfl ⟨rfl, by repeat (first | refine Below.setCell ?_ (by first | (simp; done) | (simp; omega) | omega) _ | refine Below.alloc ?_ (by first | exact Nat.le_refl _ | (simp; done) | (simp; omega)) _ | exact Below.refl _ _)⟩
set_option maxHeartbeats 2000000 in
theorem eqAsk_same (x0 x1 x2 x3 : Int) (w : World) :
 Calls Tryz.prog 201 #[.agg #[.int .i64 x0, .int .i64 x1, .int .i64 x2, .int .i64 x3], .agg #[.int .i64 x0, .int .i64 x1, .int .i64 x2, .int .i64 x3]] w fun e w' => e = .returned (.bool true) ∧ Below w.heap.size w w' := by
 go_enter Tryz.func201, Tryz.ntmps201
 go_wp2_with fail
 go_ret
 exact ⟨rfl, by repeat (first | refine Below.alloc ?_ (by first | exact Nat.le_refl _ | (simp; done) | (simp; omega)) _ | exact Below.refl _ _)⟩
def MCAsk (M : KT) : Nat → Value
 | 0 => .int .i64 M.1
 | 1 => .int .i64 M.2.1
 | 2 => .int .i64 M.2.2.1
 | _ => .int .i64 M.2.2.2
def MFAsk (M : Nat → KT) (c : Nat) : Value := MCAsk (M (c / 4)) (c % 4)
theorem MFAsk_at (M : Nat → KT) (k j : Nat) (hj : j < 4) : MFAsk M (k * 4 + j) = MCAsk (M k) j := by
 have h1 : (k * 4 + j) / 4 = k := by omega
 have h2 : (k * 4 + j) % 4 = j := by omega
 rw [MFAsk, h1, h2]
theorem MFAsk_vals {M : Nat → KT} {k : Nat} {x0 : Int} {x1 : Int} {x2 : Int} {x3 : Int} (hM : M k = (x0, x1, x2, x3)) : MFAsk M (k * 4) = .int .i64 x0 ∧ MFAsk M (k * 4 + 1) = .int .i64 x1 ∧ MFAsk M (k * 4 + 2) = .int .i64 x2 ∧ MFAsk M (k * 4 + 3) = .int .i64 x3 :=
 ⟨by have q := MFAsk_at M k 0 (by decide); rw [hM] at q; exact q, by have q := MFAsk_at M k 1 (by decide); rw [hM] at q; exact q, by have q := MFAsk_at M k 2 (by decide); rw [hM] at q; exact q, by have q := MFAsk_at M k 3 (by decide); rw [hM] at q; exact q⟩
theorem Cs.elAsk {w : World} {b off n k : Nat} {M : Nat → KT} {x0 : Int} {x1 : Int} {x2 : Int} {x3 : Int} (h : Cs w b off (n * 4) (MFAsk M)) (hk : k < n) (hM : M k = (x0, x1, x2, x3)) : w.cell? ⟨b, off + k * 4, none⟩ = some (.int .i64 x0) ∧ w.cell? ⟨b, off + k * 4 + 1, none⟩ = some (.int .i64 x1) ∧ w.cell? ⟨b, off + k * 4 + 2, none⟩ = some (.int .i64 x2) ∧ w.cell? ⟨b, off + k * 4 + 3, none⟩ = some (.int .i64 x3) := by
 obtain ⟨q0, q1, q2, q3⟩ := MFAsk_vals hM
 exact ⟨by have := h.2 (k * 4) (by omega); rw [q0] at this; exact this, by have := h.2 (k * 4 + 1) (by omega); rw [q1] at this; exact this, by have := h.2 (k * 4 + 2) (by omega); rw [q2] at this; exact this, by have := h.2 (k * 4 + 3) (by omega); rw [q3] at this; exact this⟩
theorem tupAsk (M : Nat → KT) (k : Nat) : ∃ (x0 : Int) (x1 : Int) (x2 : Int) (x3 : Int), M k = (x0, x1, x2, x3) := ⟨_, _, _, _, rfl⟩
set_option maxHeartbeats 1000000 in
theorem szAskS_any (a : Option Addr) (n c : Nat) (L : Int) (w : World) (hm : n ≤ maxLen) (L0 : 0 ≤ L) (L1 : L ≤ 1048576) :
 Calls Tryz.prog 171 #[.slice a n c, .int .i64 L] w fun e w' => e = .returned (.int .i64 (if (n : Int) ≤ L then L - (n : Int) else -1)) ∧ w = w' := by
 unfold maxLen at hm
 by_cases h : (n : Int) ≤ L
 ·rw [if_pos h]
  have hd : decide (L - (n : Int) < 0) = false := by simp; omega
  go_enter Tryz.func171, Tryz.ntmps171
  go_wp2_with fail
  go_ret
  exact ⟨rfl, rfl⟩
 ·rw [if_neg h]
  have hd : decide (L - (n : Int) < 0) = true := by simp; omega
  go_enter Tryz.func171, Tryz.ntmps171
  go_wp2_with fail
  go_ret
  exact ⟨rfl, rfl⟩
def rowObjAsk (n : Nat) : Obj := .cells (madeCells #[.int .i64 0, .int .i64 0, .int .i64 0, .int .i64 0] (n * 4)) 160
theorem infoAsk : (Tryz.prog.info? 160).map (fun i => (i.zero, i.size, i.bytes)) = some (some (.agg #[.int .i64 0, .int .i64 0, .int .i64 0, .int .i64 0]), 4, 32) := by kernel_rfl
theorem mk_rowAsk (n : Nat) (h : n ≤ 1048576) (w : World) : (Instr.makeSlice 90 (.int .i64 (n : Int)) (.int .i64 (n : Int))).run Tryz.prog w = .ok (.slice (some ⟨w.heap.size, 0, none⟩) n n) (w.alloc (rowObjAsk n)) := by
 obtain ⟨i, hi, hz⟩ := Option.map_eq_some_iff.1 infoAsk
 simp only [Prod.mk.injEq] at hz
 obtain ⟨h1, h2, h3⟩ := hz
 have hr := run_make (P := Tryz.prog) w 90 160 i _ Tryz.underlying90 hi h1 .i64 .i64 n n (by omega) (Int.le_refl _) (by rw [h3]; omega) (by omega)
 simp only [Int.toNat_natCast, h2] at hr
 exact hr
theorem rowObjAsk_is (w : World) (n : Nat) (F : Nat → Value) : RowF (w.alloc (rowObjAsk n)) w.heap.size 160 (n * 4) 0 F := by
 have h := World.rowIs_alloc w (madeCells #[.int .i64 0, .int .i64 0, .int .i64 0, .int .i64 0] (n * 4)) 160 (fun i => (madeCells #[.int .i64 0, .int .i64 0, .int .i64 0, .int .i64 0] (n * 4)).getD i undef) (fun i hi => by
  rw [Array.getElem?_eq_getElem hi]; exact congrArg some (by rw [Array.getD_eq_getD_getElem?, Array.getElem?_eq_getElem hi]; rfl))
 rw [size_madeCells] at h
 exact ⟨_, h, fun j hj => absurd hj (Nat.not_lt_zero _)⟩
set_option maxHeartbeats 4000000 in
theorem toAskS_some (b off n c : Nat) (M : Nat → KT) (w : World) (hn : n ≤ 1048576) (hf : Cs w b off (n * 4) (MFAsk M)) :
 Calls Tryz.prog 173 #[.slice (some ⟨b, off, none⟩) n c] w fun e w' => e = .returned (.slice (some ⟨w.heap.size, 0, none⟩) n n) ∧ RowF w' w.heap.size 160 (n * 4) (n * 4) (MFAsk M) ∧ Below w.heap.size w w' := by
 have hmk := mk_rowAsk n hn
 go_enter Tryz.func173, Tryz.ntmps173
 go_wp2_with fail
 clear hmk
 go_loopw [4] (fun i wr => ∃ k : Nat, k ≤ n ∧ i = .int .i64 k ∧ RowF wr w.heap.size 160 (n * 4) (k * 4) (MFAsk M) ∧ Below w.heap.size w wr) (fun i _ => n - (intOf i).toNat)
 case atStart => exact ⟨0, Nat.zero_le _, rfl, (rowObjAsk_is w n _).eqm (by omega), (Below.refl _ _).alloc (Nat.le_refl _) _⟩
 case round =>
  obtain ⟨k, hk, rfl, hrow, hB⟩ := hrel
  by_cases hlt : k < n
  ·obtain ⟨x0, x1, x2, x3, hM⟩ := tupAsk M k
   obtain ⟨c0, c1, c2, c3⟩ := (hf.below hB hf.1).elAsk hlt hM
   obtain ⟨q0, q1, q2, q3⟩ := MFAsk_vals hM
   have hli : (k : Int) < (n : Int) := by omega
   have hlr := hrow.lt
   clear hM
   go_wp2_with fail
   refine (toAsk_any x0 x1 x2 x3 _).mono ?_
   rintro e w' ⟨rfl, hb⟩
   have row := RowF.below hb hlr hrow
   have hB2 := hB.trans (hb.mono hB.size)
   clear c0 c1 c2 c3 hrow hB hb
   have hlr2 := row.lt
   obtain ⟨⟨v0, e0⟩, f0⟩ := row.facts (k * 4) (by omega)
   obtain ⟨⟨v1, e1⟩, f1⟩ := row.facts (k * 4 + 1) (by omega)
   obtain ⟨⟨v2, e2⟩, f2⟩ := row.facts (k * 4 + 2) (by omega)
   obtain ⟨⟨v3, e3⟩, f3⟩ := row.facts (k * 4 + 3) (by omega)
   go_wp2_with fail
   go_roundw
   case rel => exact ⟨k + 1, by omega, by go_num, ((((row.put (k * 4 + 1) (by omega) q0).put (k * 4 + 2) (by omega) q1).put (k * 4 + 3) (by omega) q2).put ((k + 1) * 4) (by omega) q3), ((((hB2.setCell (Nat.le_refl _) _).setCell (Nat.le_refl _) _).setCell (Nat.le_refl _) _).setCell (Nat.le_refl _) _)⟩
   case measure => simp [intOf]; omega
  ·have hkn : k = n := by omega
   subst hkn
   have hli : ¬ (k : Int) < (k : Int) := by omega
   go_wp2_with fail
   go_ret
   exact ⟨rfl, hrow, hB⟩
set_option maxHeartbeats 1000000 in
theorem toAskS_empty (a : Option Addr) (c : Nat) (F : Nat → Value) (w : World) :
 Calls Tryz.prog 173 #[.slice a 0 c] w fun e w' => e = .returned (.slice (some ⟨w.heap.size, 0, none⟩) 0 0) ∧ RowF w' w.heap.size 160 (0 * 4) (0 * 4) F ∧ Below w.heap.size w w' := by
 have hmk := mk_rowAsk 0 (by omega)
 simp only [Int.ofNat_zero] at hmk
 go_enter Tryz.func173, Tryz.ntmps173
 go_wp2_with fail
 clear hmk
 go_loopw [4] (fun i wr => i = .int .i64 0 ∧ RowF wr w.heap.size 160 (0 * 4) 0 F ∧ Below w.heap.size w wr) (fun i _ => 0)
 case atStart => exact ⟨rfl, rowObjAsk_is w 0 F, (Below.refl _ _).alloc (Nat.le_refl _) _⟩
 case round =>
  obtain ⟨rfl, hrow, hB⟩ := hrel
  go_wp2_with fail
  go_ret
  exact ⟨rfl, hrow.eqm (by omega), hB⟩
theorem toAskS_any (a : Option Addr) (n c : Nat) (M : Nat → KT) (w : World) (hn : n ≤ 1048576) (h : SrcC w a (n * 4) (MFAsk M)) :
 Calls Tryz.prog 173 #[.slice a n c] w fun e w' => e = .returned (.slice (some ⟨w.heap.size, 0, none⟩) n n) ∧ RowF w' w.heap.size 160 (n * 4) (n * 4) (MFAsk M) ∧ Below w.heap.size w w' := by
 rcases h with h0 | ⟨b, off, rfl, h2⟩
 ·have hn0 : n = 0 := by omega
  subst hn0
  exact toAskS_empty a c _ w
 ·exact toAskS_some b off n c M w hn h2
set_option maxHeartbeats 8000000 in
theorem eqAskS_some (b off b' off' n c c' : Nat) (M : Nat → KT) (w : World) (hn : n ≤ maxLen) (hf : Cs w b off (n * 4) (MFAsk M)) (hg : Cs w b' off' (n * 4) (MFAsk M)) :
 Calls Tryz.prog 186 #[.slice (some ⟨b, off, none⟩) n c, .slice (some ⟨b', off', none⟩) n c'] w fun e w' => e = .returned (.bool true) ∧ Below w.heap.size w w' := by
 unfold maxLen at hn
 go_enter Tryz.func186, Tryz.ntmps186
 go_wp2_with fail
 go_loopw [5] (fun i wr => ∃ k : Nat, k ≤ n ∧ i = .int .i64 k ∧ Below w.heap.size w wr) (fun i _ => n - (intOf i).toNat)
 case atStart => exact ⟨0, Nat.zero_le _, rfl, Below.refl _ _⟩
 case round =>
  obtain ⟨k, hk, rfl, hB⟩ := hrel
  by_cases hlt : k < n
  ·obtain ⟨x0, x1, x2, x3, hM⟩ := tupAsk M k
   obtain ⟨c0, c1, c2, c3⟩ := (hf.below hB hf.1).elAsk hlt hM
   obtain ⟨d0, d1, d2, d3⟩ := (hg.below hB hg.1).elAsk hlt hM
   have hb1 : b < wr.drew.heap.size := Nat.lt_of_lt_of_le hf.1 hB.size
   have hb2 : b' < wr.drew.heap.size := Nat.lt_of_lt_of_le hg.1 hB.size
   have hsz : w.heap.size ≤ wr.drew.heap.size := hB.size
   have hli : (k : Int) < (n : Int) := by omega
   clear hM
   go_wp2_with fail
   refine wp_region_held_drew (S := (fun w' => w'.cell? ⟨b, off + k * 4, none⟩ = some (.int .i64 x0) ∧ w'.cell? ⟨b, off + k * 4 + 1, none⟩ = some (.int .i64 x1) ∧ w'.cell? ⟨b, off + k * 4 + 2, none⟩ = some (.int .i64 x2) ∧ w'.cell? ⟨b, off + k * 4 + 3, none⟩ = some (.int .i64 x3) ∧ w'.cell? ⟨b', off' + k * 4, none⟩ = some (.int .i64 x0) ∧ w'.cell? ⟨b', off' + k * 4 + 1, none⟩ = some (.int .i64 x1) ∧ w'.cell? ⟨b', off' + k * 4 + 2, none⟩ = some (.int .i64 x2) ∧ w'.cell? ⟨b', off' + k * 4 + 3, none⟩ = some (.int .i64 x3))) (by kernel_rfl) ?_ (fun hHeld => ?_)
   ·first | exact ⟨c0, c1, c2, c3, d0, d1, d2, d3⟩ | (simp (maxDischargeDepth := 6) [go_sem, *]; done)
   refine zTk 0 ?_
   refine zTk 1 ?_
   refine zTk 2 ?_
   refine zTk 3 ?_
   refine zTk 4 ?_
   refine zTk 5 ?_
   refine zTk 6 ?_
   refine zTk 7 ?_
   refine wpAnyH_ready (rs := [8]) (by kernel_rfl) (by simp) ?_
   refine AllReadyH.cons (by rw [List.getElem?_toArray]; rfl) (fun K hK => ?_) AllReadyH.nil
   go_simp
   refine (eqAsk_same _ _ _ _ _).mono ?_; rintro e w' ⟨rfl, hb⟩; (replace c0 := (hb.cell (p := ⟨b, off + k * 4, none⟩) hb1).trans c0); (replace c1 := (hb.cell (p := ⟨b, off + k * 4 + 1, none⟩) hb1).trans c1); (replace c2 := (hb.cell (p := ⟨b, off + k * 4 + 2, none⟩) hb1).trans c2); (replace c3 := (hb.cell (p := ⟨b, off + k * 4 + 3, none⟩) hb1).trans c3); (replace d0 := (hb.cell (p := ⟨b', off' + k * 4, none⟩) hb2).trans d0); (replace d1 := (hb.cell (p := ⟨b', off' + k * 4 + 1, none⟩) hb2).trans d1); (replace d2 := (hb.cell (p := ⟨b', off' + k * 4 + 2, none⟩) hb2).trans d2); (replace d3 := (hb.cell (p := ⟨b', off' + k * 4 + 3, none⟩) hb2).trans d3)
   (try go_wp2_with fail)
   refine hK.out _ _ ?_ (fun hHeld => ?_)
   ·first | exact ⟨c0, c1, c2, c3, d0, d1, d2, d3⟩ | (simp (maxDischargeDepth := 6) [go_sem, *]; done)
   clear hK K
   (try simp only [Act.put, zSb, zS0, zS1])
   refine zTk 9 ?_
   refine wpAnyH_done (by kernel_rfl) ?_ _
   go_wp2_with fail
   go_roundw
   case rel => exact ⟨k + 1, by omega, by go_num, (Below.drew hB).trans (hb.mono hsz)⟩
   case measure => simp [intOf]; omega
  ·go_wp2_with fail
   go_ret
   exact ⟨rfl, hB⟩
set_option maxHeartbeats 400000 in
theorem eqAskS_zero (a a' : Option Addr) (c c' : Nat) (w : World) :
 Calls Tryz.prog 186 #[.slice a 0 c, .slice a' 0 c'] w fun e w' => e = .returned (.bool true) ∧ Below w.heap.size w w' := by
 go_enter Tryz.func186, Tryz.ntmps186
 go_wp2_with fail
 go_loopw [5] (fun i wr => i = .int .i64 0 ∧ w = wr) (fun i _ => 0)
 case atStart => exact ⟨rfl, rfl⟩
 case round =>
  obtain ⟨rfl, rfl⟩ := hrel
  go_wp2_with fail
  go_ret
  exact ⟨rfl, Below.refl _ _⟩
theorem eqAskS_src (a a' : Option Addr) (n c c' : Nat) (M : Nat → KT) (w : World) (hn : n ≤ maxLen) (h : SrcC w a (n * 4) (MFAsk M)) (h' : SrcC w a' (n * 4) (MFAsk M)) :
 Calls Tryz.prog 186 #[.slice a n c, .slice a' n c'] w fun e w' => e = .returned (.bool true) ∧ Below w.heap.size w w' := by
 by_cases h0 : n = 0
 ·subst h0; exact eqAskS_zero a a' c c' w
 ·rcases h with h | ⟨b, off, rfl, hp⟩
  ·omega
  ·rcases h' with h | ⟨b', off', rfl, hp'⟩
   ·omega
   ·exact eqAskS_some b off b' off' n c c' M w hn hp hp'
def mkAsk (q : Int) (c : Nat) : Value := .int .i64 (q + (c : Int))
theorem mkAsk_i {q : Int} {k j : Nat} {x : Int} (h : x = q + ((k * 4 + j : Nat) : Int)) : mkAsk q (k * 4 + j) = .int .i64 x := by rw [mkAsk, h]
set_option maxHeartbeats 8000000 in
theorem markAskS_row (b N n c : Nat) (q0 : Int) (w : World) (hn : n ≤ 1048576) (hq : 0 < q0) (hq1 : q0 ≤ 1073741824) (hN : n * 4 ≤ N) (h : RowF w b 160 N 0 (mkAsk q0)) :
 Calls Tryz.prog 118 #[.slice (some ⟨b, 0, none⟩) n c, .int .i64 q0] w fun e w' => e = .returned (.int .i64 (q0 + (n : Int) * 4)) ∧ RowF w' b 160 N (n * 4) (mkAsk q0) ∧ But b w w' := by
 go_enter Tryz.func118, Tryz.ntmps118
 go_wp2_with fail
 go_loopw [1, 5] (fun q i wr => ∃ (k : Nat) (Q : Int), k ≤ n ∧ i = .int .i64 k ∧ q = .int .i64 Q ∧ Q = q0 + (k : Int) * 4 ∧ RowF wr b 160 N (k * 4) (mkAsk q0) ∧ But b w wr) (fun _ i _ => n - (intOf i).toNat)
 case atStart => exact ⟨0, q0, Nat.zero_le _, rfl, rfl, by omega, h.eqm (by omega), But.refl _ _⟩
 case round =>
  obtain ⟨k, Q, hk, rfl, rfl, hQ, row, hB⟩ := hrel
  clear h
  have HQ : Hid (Q = q0 + (k : Int) * 4) := hQ
  by_cases hlt : k < n
  ·have hli : (k : Int) < (n : Int) := by omega
   have Q0 : 0 < Q := by omega
   have Q1 : Q ≤ 1073741824 + 1048576 * 4 := by omega
   clear hQ
   have hlr := row.lt
   obtain ⟨⟨v0, e0⟩, f0⟩ := row.facts (k * 4) (by omega)
   obtain ⟨⟨v1, e1⟩, f1⟩ := row.facts (k * 4 + 1) (by omega)
   obtain ⟨⟨v2, e2⟩, f2⟩ := row.facts (k * 4 + 2) (by omega)
   obtain ⟨⟨v3, e3⟩, f3⟩ := row.facts (k * 4 + 3) (by omega)
   go_wp2_with fail
   go_roundw
   case rel => exact ⟨k + 1, _, by omega, by go_num, rfl, by have := HQ.out; omega, (RowF.put (RowF.put (RowF.put (RowF.put row (k * 4 + 1) (by omega) (mkAsk_i (k := k) (j := 0) (by have := HQ.out; omega))) (k * 4 + 2) (by omega) (mkAsk_i (k := k) (j := 1) (by have := HQ.out; omega))) (k * 4 + 3) (by omega) (mkAsk_i (k := k) (j := 2) (by have := HQ.out; omega))) ((k + 1) * 4) (by omega) (mkAsk_i (k := k) (j := 3) (by have := HQ.out; omega))), ((((hB.setCell _ _).setCell _ _).setCell _ _).setCell _ _)⟩
   case measure => simp [intOf]; omega
  ·have hkn : k = n := by omega
   subst hkn
   have hli : ¬ (k : Int) < (k : Int) := by omega
   subst hQ
   go_wp2_with fail
   go_ret
   exact ⟨rfl, row, hB⟩
set_option maxHeartbeats 400000 in
theorem markAskS_zero (a : Option Addr) (c : Nat) (q0 : Int) (w : World) :
 Calls Tryz.prog 118 #[.slice a 0 c, .int .i64 q0] w fun e w' => e = .returned (.int .i64 q0) ∧ w = w' := by
 go_enter Tryz.func118, Tryz.ntmps118
 go_wp2_with fail
 go_loopw [1, 5] (fun q i wr => i = .int .i64 0 ∧ q = .int .i64 q0 ∧ w = wr) (fun _ i _ => 0)
 case atStart => exact ⟨rfl, rfl, by first | rfl | trivial⟩
 case round =>
  obtain ⟨rfl, rfl, rfl⟩ := hrel
  go_wp2_with fail
  go_ret
  exact ⟨rfl, rfl⟩
end Go.Proofs.YtddijpjgkifngaaGreat
