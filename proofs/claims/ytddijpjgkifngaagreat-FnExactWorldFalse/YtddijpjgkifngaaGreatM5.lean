/- Boxes that the laws keep. Rows of numbers and of truths: what the laws make of them. AppOk and AppRead in the specification. Who was heard: numbers. The program: a clock, a look, a reading; what a reading comes to. HeardOk in the program. -/
import Derived.Deep.DeepAppendRoom
import Derived.Test.YtddijpjgkifngaaGreatM4
namespace Go.Proofs.YtddijpjgkifngaaGreat
open Go.RowKit
set_option linter.unusedVariables false
def Bx2 (w : World) (k : Nat) (u0 u1 : Value) : Prop := k < w.heap.size ∧ w.cell? ⟨k, 0, none⟩ = some u0 ∧ w.cell? ⟨k, 1, none⟩ = some u1 ∧ w.frozen? ⟨k, 0, none⟩ = false ∧ w.frozen? ⟨k, 1, none⟩ = false
theorem Bx2.belowB {k B : Nat} {w w' : World} {u0 u1 : Value} (h : Bx2 w k u0 u1) (hw : Below B w w') (hk : k < B) : Bx2 w' k u0 u1 := by
 obtain ⟨h0, h1, h2, f1, f2⟩ := h
 exact ⟨Nat.lt_of_lt_of_le h0 hw.size, by rw [hw.cell (p := ⟨k, 0, none⟩) hk]; exact h1, by rw [hw.cell (p := ⟨k, 1, none⟩) hk]; exact h2, by rw [hw.frozen (p := ⟨k, 0, none⟩) hk]; exact f1, by rw [hw.frozen (p := ⟨k, 1, none⟩) hk]; exact f2⟩
theorem Bx2.below {k : Nat} {w w' : World} {u0 u1 : Value} (h : Bx2 w k u0 u1) (hw : Below w.heap.size w w') : Bx2 w' k u0 u1 := h.belowB hw h.1
theorem Bx2.but {w w' : World} {k q : Nat} {u0 u1 : Value} (h : Bx2 w k u0 u1) (hb : But q w w') (hq : k ≠ q) : Bx2 w' k u0 u1 := by
 obtain ⟨h0, h1, h2, f1, f2⟩ := h
 exact ⟨Nat.lt_of_lt_of_le h0 hb.2.2.2.1, by rw [hb.cell h0 hq]; exact h1, by rw [hb.cell h0 hq]; exact h2, by rw [hb.frozen h0 hq]; exact f1, by rw [hb.frozen h0 hq]; exact f2⟩
theorem Bx2.alloc {k : Nat} {w : World} {u0 u1 : Value} (h : Bx2 w k u0 u1) (o : Obj) : Bx2 (w.alloc o) k u0 u1 := h.below ((Below.refl _ _).alloc (Nat.le_refl _) _)
theorem Bx2.new (w : World) (u0 u1 : Value) (T : TypeId) : Bx2 (w.alloc (.cells #[u0, u1] T)) w.heap.size u0 u1 := ⟨by simp, by simp, by simp, by simp, by simp⟩
theorem Bx2.drew {k : Nat} {w : World} {u0 u1 : Value} (h : Bx2 w k u0 u1) : Bx2 w.drew k u0 u1 := h
theorem Bx2.setO {k j : Nat} {w : World} {u0 u1 : Value} (h : Bx2 w k u0 u1) (hk : j ≠ k) (o : Nat) (u : Value) : Bx2 (w.setCell ⟨j, o, none⟩ u) k u0 u1 := by
 have hne : ∀ q, (⟨j, o, none⟩ : Addr) ≠ ⟨k, q, none⟩ := fun q e => hk (congrArg Addr.block e)
 obtain ⟨h0, h1, h2, f1, f2⟩ := h
 exact ⟨by simpa using h0, by rw [World.cell?_setCell_other _ _ _ _ (hne _)]; exact h1, by rw [World.cell?_setCell_other _ _ _ _ (hne _)]; exact h2, by simpa using f1, by simpa using f2⟩
theorem Bx2.set0 {k : Nat} {w : World} {u0 u1 : Value} (h : Bx2 w k u0 u1) (x : Value) : Bx2 (w.setCell ⟨k, 0, none⟩ x) k x u1 := by
 obtain ⟨h0, h1, h2, f1, f2⟩ := h
 exact ⟨by simpa using h0, World.cell?_setCell_same _ _ _ h1, (World.cell?_setCell_other _ _ _ _ (by simp)).trans h2, by simpa using f1, by simpa using f2⟩
theorem Bx2.set1 {k : Nat} {w : World} {u0 u1 : Value} (h : Bx2 w k u0 u1) (x : Value) : Bx2 (w.setCell ⟨k, 1, none⟩ x) k u0 x := by
 obtain ⟨h0, h1, h2, f1, f2⟩ := h
 exact ⟨by simpa using h0, (World.cell?_setCell_other _ _ _ _ (by simp)).trans h1, World.cell?_setCell_same _ _ _ h2, by simpa using f1, by simpa using f2⟩
theorem Bx2.kept {w w' : World} {q : Option Nat} {k : Nat} {u0 u1 : Value} (h : Bx2 w k u0 u1) (hg : w.grownBy w' q) (hq : some k ≠ q) : Bx2 w' k u0 u1 := by
 obtain ⟨h0, h1, h2, f1, f2⟩ := h
 have cc : ∀ i, w'.cell? ⟨k, i, none⟩ = w.cell? ⟨k, i, none⟩ := fun i => cell_grown hg h0 hq
 have ff : ∀ i, w'.frozen? ⟨k, i, none⟩ = w.frozen? ⟨k, i, none⟩ := fun i => by have := hg.block k h0 hq; simp only [World.frozen?]; rw [this]
 exact ⟨Nat.lt_of_lt_of_le h0 hg.size, by rw [cc]; exact h1, by rw [cc]; exact h2, by rw [ff]; exact f1, by rw [ff]; exact f2⟩
end Go.Proofs.YtddijpjgkifngaaGreat
namespace Go.Proofs.YtddijpjgkifngaaGreat
open Go.RowKit
set_option linter.unusedVariables false
def itG (f : Nat → Int) (j : Nat) : Value := .int .i64 (f j)
def boG (f : Nat → Bool) (j : Nat) : Value := .bool (f j)
def rowObjI (n : Nat) : Obj := .cells (madeCells #[.int .i64 0] n) 3
theorem infoI : (Tryz.prog.info? 3).map (fun i => (i.zero, i.size, i.bytes)) = some (some (.int .i64 0), 1, 8) := by kernel_rfl
theorem mk_rowI (n : Nat) (h : n ≤ 1048576) (w : World) : (Instr.makeSlice 30 (.int .i64 (n : Int)) (.int .i64 (n : Int))).run Tryz.prog w = .ok (.slice (some ⟨w.heap.size, 0, none⟩) n n) (w.alloc (rowObjI n)) := by
 obtain ⟨i, hi, hz⟩ := Option.map_eq_some_iff.1 infoI
 simp only [Prod.mk.injEq] at hz
 obtain ⟨h1, h2, h3⟩ := hz
 have hr := run_make (P := Tryz.prog) w 30 3 i _ Tryz.underlying30 hi h1 .i64 .i64 n n (by omega) (Int.le_refl _) (by rw [h3]; omega) (by omega)
 simp only [Int.toNat_natCast, h2, Nat.mul_one] at hr
 exact hr
theorem rowObjI_is (w : World) (n : Nat) (F : Nat → Value) : RowF (w.alloc (rowObjI n)) w.heap.size 3 n 0 F := by
 have h := World.rowIs_alloc w (madeCells #[.int .i64 0] n) 3 (fun i => (madeCells #[.int .i64 0] n).getD i undef) (fun i hi => by
  rw [Array.getElem?_eq_getElem hi]; exact congrArg some (by rw [Array.getD_eq_getD_getElem?, Array.getElem?_eq_getElem hi]; rfl))
 rw [size_madeCells] at h
 exact ⟨_, h, fun j hj => absurd hj (Nat.not_lt_zero _)⟩
set_option maxHeartbeats 1000000 in
theorem toIntG_some (b off n c : Nat) (f : Nat → Int) (w : World) (hn : n ≤ 1048576) (hf : Cs w b off n (itG f)) :
 Calls Tryz.prog 48 #[.slice (some ⟨b, off, none⟩) n c] w fun e w' => e = .returned (.slice (some ⟨w.heap.size, 0, none⟩) n n) ∧ RowF w' w.heap.size 3 n n (itG f) ∧ Below w.heap.size w w' := by
 have hmk := mk_rowI n hn
 have HF : Hid (Cs w b off n (itG f)) := hf
 clear hf
 go_enter Tryz.func48, Tryz.ntmps48
 go_wp2_with fail
 clear hmk
 go_loopw [4] (fun i wr => ∃ k : Nat, k ≤ n ∧ i = .int .i64 k ∧ RowF wr w.heap.size 3 n k (itG f) ∧ Below w.heap.size w wr) (fun i _ => n - (intOf i).toNat)
 case atStart => exact ⟨0, Nat.zero_le _, rfl, rowObjI_is w n _, Below.nw _ _⟩
 case round =>
  obtain ⟨k, hk, rfl, hrow, hB⟩ := hrel
  by_cases hlt : k < n
  ·have c0 : wr.cell? ⟨b, off + k, none⟩ = some (.int .i64 (f k)) := (HF.out.below hB HF.out.1).2 k hlt
   have hli : (k : Int) < (n : Int) := by omega
   have hsz := hB.size
   obtain ⟨⟨v1, e1⟩, f1⟩ := hrow.facts k hlt
   have l1 := hrow.lt
   go_wp2_with fail
   go_roundw
   case rel => exact ⟨k + 1, by omega, by go_num, hrow.put (k + 1) rfl rfl, hB.setCell (Nat.le_refl _) _⟩
   case measure => simp [intOf]; omega
  ·have hkn : k = n := by omega
   subst hkn
   have hli : ¬ (k : Int) < (k : Int) := by omega
   go_wp2_with fail
   go_ret
   exact ⟨rfl, hrow, hB⟩
set_option maxHeartbeats 1000000 in
theorem toIntG_zero (a : Option Addr) (c : Nat) (f : Nat → Int) (w : World) :
 Calls Tryz.prog 48 #[.slice a 0 c] w fun e w' => e = .returned (.slice (some ⟨w.heap.size, 0, none⟩) 0 0) ∧ RowF w' w.heap.size 3 0 0 (itG f) ∧ Below w.heap.size w w' := by
 have hmk := mk_rowI 0 (by omega)
 simp only [Int.ofNat_zero] at hmk
 go_enter Tryz.func48, Tryz.ntmps48
 go_wp2_with fail
 clear hmk
 go_loopw [4] (fun i wr => i = .int .i64 0 ∧ RowF wr w.heap.size 3 0 0 (itG f) ∧ Below w.heap.size w wr) (fun i _ => 0)
 case atStart => exact ⟨rfl, rowObjI_is w 0 _, Below.nw _ _⟩
 case round =>
  obtain ⟨rfl, hrow, hB⟩ := hrel
  go_wp2_with fail
  go_ret
  exact ⟨rfl, hrow, hB⟩
theorem toIntG_any (a : Option Addr) (n c : Nat) (f : Nat → Int) (w : World) (hn : n ≤ 1048576) (h : SrcC w a n (itG f)) :
 Calls Tryz.prog 48 #[.slice a n c] w fun e w' => e = .returned (.slice (some ⟨w.heap.size, 0, none⟩) n n) ∧ RowF w' w.heap.size 3 n n (itG f) ∧ Below w.heap.size w w' := by
 rcases h with rfl | ⟨b, off, rfl, h2⟩
 ·exact toIntG_zero a c f w
 ·exact toIntG_some b off n c f w hn h2
set_option maxHeartbeats 1600000 in
theorem eqIntG_some (b off b' off' n c c' : Nat) (f : Nat → Int) (w : World) (hn : n ≤ maxLen) (hf : Cs w b off n (itG f)) (hg : Cs w b' off' n (itG f)) :
 Calls Tryz.prog 28 #[.slice (some ⟨b, off, none⟩) n c, .slice (some ⟨b', off', none⟩) n c'] w fun e w' => e = .returned (.bool true) ∧ Below w.heap.size w w' := by
 unfold maxLen at hn
 have HF : Hid (Cs w b off n (itG f)) := hf
 have HG : Hid (Cs w b' off' n (itG f)) := hg
 clear hf hg
 go_enter Tryz.func28, Tryz.ntmps28
 go_wp2_with fail
 go_loopw [5] (fun i wr => ∃ k : Nat, k ≤ n ∧ i = .int .i64 k ∧ Below w.heap.size w wr) (fun i _ => n - (intOf i).toNat)
 case atStart => exact ⟨0, Nat.zero_le _, rfl, Below.refl _ _⟩
 case round =>
  obtain ⟨k, hk, rfl, hB⟩ := hrel
  by_cases hlt : k < n
  ·have c0 : wr.cell? ⟨b, off + k, none⟩ = some (.int .i64 (f k)) := (HF.out.below hB HF.out.1).2 k hlt
   have d0 : wr.cell? ⟨b', off' + k, none⟩ = some (.int .i64 (f k)) := (HG.out.below hB HG.out.1).2 k hlt
   have hsz := hB.size
   have hli : (k : Int) < (n : Int) := by omega
   go_wp2_with fail
   go_region
   all_goals go_wp2_with fail
   all_goals go_roundw
   all_goals first | (case rel => exact ⟨k + 1, by omega, by go_num, Below.drew hB⟩) | skip
   all_goals first | (case measure => simp [intOf]; omega) | skip
  ·go_wp2_with fail
   go_ret
   exact ⟨rfl, hB⟩
set_option maxHeartbeats 400000 in
theorem eqIntG_zero (a a' : Option Addr) (c c' : Nat) (w : World) :
 Calls Tryz.prog 28 #[.slice a 0 c, .slice a' 0 c'] w fun e w' => e = .returned (.bool true) ∧ Below w.heap.size w w' := by
 go_enter Tryz.func28, Tryz.ntmps28
 go_wp2_with fail
 go_loopw [5] (fun i wr => i = .int .i64 0 ∧ w = wr) (fun i _ => 0)
 case atStart => exact ⟨rfl, by first | rfl | trivial⟩
 case round =>
  obtain ⟨rfl, rfl⟩ := hrel
  go_wp2_with fail
  go_ret
  exact ⟨rfl, Below.refl _ _⟩
theorem eqIntG_src (a a' : Option Addr) (n c c' : Nat) (f : Nat → Int) (w : World) (hn : n ≤ maxLen) (h : SrcC w a n (itG f)) (h' : SrcC w a' n (itG f)) :
 Calls Tryz.prog 28 #[.slice a n c, .slice a' n c'] w fun e w' => e = .returned (.bool true) ∧ Below w.heap.size w w' := by
 by_cases h0 : n = 0
 ·subst h0; exact eqIntG_zero a a' c c' w
 ·rcases h with h | ⟨b, off, rfl, hp⟩
  ·exact absurd h h0
  ·rcases h' with h | ⟨b', off', rfl, hp'⟩
   ·exact absurd h h0
   ·exact eqIntG_some b off b' off' n c c' f w hn hp hp'
theorem szIntG_any (a : Option Addr) (n c : Nat) (L : Int) (w : World) (hm : n ≤ maxLen) (L0 : 0 ≤ L) (L1 : L ≤ 1048576) :
 Calls Tryz.prog 37 #[.slice a n c, .int .i64 L] w fun e w' => e = .returned (.int .i64 (if (n : Int) ≤ L then L - (n : Int) else -1)) ∧ w = w' := by
 unfold maxLen at hm
 by_cases h : (n : Int) ≤ L
 ·rw [if_pos h]
  have hd : decide (L - (n : Int) < 0) = false := by simp; omega
  go_enter Tryz.func37, Tryz.ntmps37
  go_wp2_with fail
  go_ret
  exact ⟨rfl, rfl⟩
 ·rw [if_neg h]
  have hd : decide (L - (n : Int) < 0) = true := by simp; omega
  go_enter Tryz.func37, Tryz.ntmps37
  go_wp2_with fail
  go_ret
  exact ⟨rfl, rfl⟩
def rowObjBo (n : Nat) : Obj := .cells (madeCells #[.bool false] n) 4
theorem infoBo : (Tryz.prog.info? 4).map (fun i => (i.zero, i.size, i.bytes)) = some (some (.bool false), 1, 1) := by kernel_rfl
theorem mk_rowBo (n : Nat) (h : n ≤ 1048576) (w : World) : (Instr.makeSlice 29 (.int .i64 (n : Int)) (.int .i64 (n : Int))).run Tryz.prog w = .ok (.slice (some ⟨w.heap.size, 0, none⟩) n n) (w.alloc (rowObjBo n)) := by
 obtain ⟨i, hi, hz⟩ := Option.map_eq_some_iff.1 infoBo
 simp only [Prod.mk.injEq] at hz
 obtain ⟨h1, h2, h3⟩ := hz
 have hr := run_make (P := Tryz.prog) w 29 4 i _ Tryz.underlying29 hi h1 .i64 .i64 n n (by omega) (Int.le_refl _) (by rw [h3]; omega) (by omega)
 simp only [Int.toNat_natCast, h2, Nat.mul_one] at hr
 exact hr
theorem rowObjBo_is (w : World) (n : Nat) (F : Nat → Value) : RowF (w.alloc (rowObjBo n)) w.heap.size 4 n 0 F := by
 have h := World.rowIs_alloc w (madeCells #[.bool false] n) 4 (fun i => (madeCells #[.bool false] n).getD i undef) (fun i hi => by
  rw [Array.getElem?_eq_getElem hi]; exact congrArg some (by rw [Array.getD_eq_getD_getElem?, Array.getElem?_eq_getElem hi]; rfl))
 rw [size_madeCells] at h
 exact ⟨_, h, fun j hj => absurd hj (Nat.not_lt_zero _)⟩
set_option maxHeartbeats 1000000 in
theorem toBoolG_some (b off n c : Nat) (f : Nat → Bool) (w : World) (hn : n ≤ 1048576) (hf : Cs w b off n (boG f)) :
 Calls Tryz.prog 16 #[.slice (some ⟨b, off, none⟩) n c] w fun e w' => e = .returned (.slice (some ⟨w.heap.size, 0, none⟩) n n) ∧ RowF w' w.heap.size 4 n n (boG f) ∧ Below w.heap.size w w' := by
 have hmk := mk_rowBo n hn
 have HF : Hid (Cs w b off n (boG f)) := hf
 clear hf
 go_enter Tryz.func16, Tryz.ntmps16
 go_wp2_with fail
 clear hmk
 go_loopw [4] (fun i wr => ∃ k : Nat, k ≤ n ∧ i = .int .i64 k ∧ RowF wr w.heap.size 4 n k (boG f) ∧ Below w.heap.size w wr) (fun i _ => n - (intOf i).toNat)
 case atStart => exact ⟨0, Nat.zero_le _, rfl, rowObjBo_is w n _, Below.nw _ _⟩
 case round =>
  obtain ⟨k, hk, rfl, hrow, hB⟩ := hrel
  by_cases hlt : k < n
  ·have c0 : wr.cell? ⟨b, off + k, none⟩ = some (.bool (f k)) := (HF.out.below hB HF.out.1).2 k hlt
   have hli : (k : Int) < (n : Int) := by omega
   have hsz := hB.size
   obtain ⟨⟨v1, e1⟩, f1⟩ := hrow.facts k hlt
   have l1 := hrow.lt
   go_wp2_with fail
   go_roundw
   case rel => exact ⟨k + 1, by omega, by go_num, hrow.put (k + 1) rfl rfl, hB.setCell (Nat.le_refl _) _⟩
   case measure => simp [intOf]; omega
  ·have hkn : k = n := by omega
   subst hkn
   have hli : ¬ (k : Int) < (k : Int) := by omega
   go_wp2_with fail
   go_ret
   exact ⟨rfl, hrow, hB⟩
set_option maxHeartbeats 1000000 in
theorem toBoolG_zero (a : Option Addr) (c : Nat) (f : Nat → Bool) (w : World) :
 Calls Tryz.prog 16 #[.slice a 0 c] w fun e w' => e = .returned (.slice (some ⟨w.heap.size, 0, none⟩) 0 0) ∧ RowF w' w.heap.size 4 0 0 (boG f) ∧ Below w.heap.size w w' := by
 have hmk := mk_rowBo 0 (by omega)
 simp only [Int.ofNat_zero] at hmk
 go_enter Tryz.func16, Tryz.ntmps16
 go_wp2_with fail
 clear hmk
 go_loopw [4] (fun i wr => i = .int .i64 0 ∧ RowF wr w.heap.size 4 0 0 (boG f) ∧ Below w.heap.size w wr) (fun i _ => 0)
 case atStart => exact ⟨rfl, rowObjBo_is w 0 _, Below.nw _ _⟩
 case round =>
  obtain ⟨rfl, hrow, hB⟩ := hrel
  go_wp2_with fail
  go_ret
  exact ⟨rfl, hrow, hB⟩
theorem toBoolG_any (a : Option Addr) (n c : Nat) (f : Nat → Bool) (w : World) (hn : n ≤ 1048576) (h : SrcC w a n (boG f)) :
 Calls Tryz.prog 16 #[.slice a n c] w fun e w' => e = .returned (.slice (some ⟨w.heap.size, 0, none⟩) n n) ∧ RowF w' w.heap.size 4 n n (boG f) ∧ Below w.heap.size w w' := by
 rcases h with rfl | ⟨b, off, rfl, h2⟩
 ·exact toBoolG_zero a c f w
 ·exact toBoolG_some b off n c f w hn h2
set_option maxHeartbeats 1600000 in
theorem eqBoolG_some (b off b' off' n c c' : Nat) (f : Nat → Bool) (w : World) (hn : n ≤ maxLen) (hf : Cs w b off n (boG f)) (hg : Cs w b' off' n (boG f)) :
 Calls Tryz.prog 19 #[.slice (some ⟨b, off, none⟩) n c, .slice (some ⟨b', off', none⟩) n c'] w fun e w' => e = .returned (.bool true) ∧ Below w.heap.size w w' := by
 unfold maxLen at hn
 have HF : Hid (Cs w b off n (boG f)) := hf
 have HG : Hid (Cs w b' off' n (boG f)) := hg
 clear hf hg
 go_enter Tryz.func19, Tryz.ntmps19
 go_wp2_with fail
 go_loopw [5] (fun i wr => ∃ k : Nat, k ≤ n ∧ i = .int .i64 k ∧ Below w.heap.size w wr) (fun i _ => n - (intOf i).toNat)
 case atStart => exact ⟨0, Nat.zero_le _, rfl, Below.refl _ _⟩
 case round =>
  obtain ⟨k, hk, rfl, hB⟩ := hrel
  by_cases hlt : k < n
  ·have c0 : wr.cell? ⟨b, off + k, none⟩ = some (.bool (f k)) := (HF.out.below hB HF.out.1).2 k hlt
   have d0 : wr.cell? ⟨b', off' + k, none⟩ = some (.bool (f k)) := (HG.out.below hB HG.out.1).2 k hlt
   have hsz := hB.size
   have hli : (k : Int) < (n : Int) := by omega
   go_wp2_with fail
   go_region
   all_goals go_wp2_with fail
   all_goals go_roundw
   all_goals first | (case rel => exact ⟨k + 1, by omega, by go_num, Below.drew hB⟩) | skip
   all_goals first | (case measure => simp [intOf]; omega) | skip
  ·go_wp2_with fail
   go_ret
   exact ⟨rfl, hB⟩
set_option maxHeartbeats 400000 in
theorem eqBoolG_zero (a a' : Option Addr) (c c' : Nat) (w : World) :
 Calls Tryz.prog 19 #[.slice a 0 c, .slice a' 0 c'] w fun e w' => e = .returned (.bool true) ∧ Below w.heap.size w w' := by
 go_enter Tryz.func19, Tryz.ntmps19
 go_wp2_with fail
 go_loopw [5] (fun i wr => i = .int .i64 0 ∧ w = wr) (fun i _ => 0)
 case atStart => exact ⟨rfl, by first | rfl | trivial⟩
 case round =>
  obtain ⟨rfl, rfl⟩ := hrel
  go_wp2_with fail
  go_ret
  exact ⟨rfl, Below.refl _ _⟩
theorem eqBoolG_src (a a' : Option Addr) (n c c' : Nat) (f : Nat → Bool) (w : World) (hn : n ≤ maxLen) (h : SrcC w a n (boG f)) (h' : SrcC w a' n (boG f)) :
 Calls Tryz.prog 19 #[.slice a n c, .slice a' n c'] w fun e w' => e = .returned (.bool true) ∧ Below w.heap.size w w' := by
 by_cases h0 : n = 0
 ·subst h0; exact eqBoolG_zero a a' c c' w
 ·rcases h with h | ⟨b, off, rfl, hp⟩
  ·exact absurd h h0
  ·rcases h' with h | ⟨b', off', rfl, hp'⟩
   ·exact absurd h h0
   ·exact eqBoolG_some b off b' off' n c c' f w hn hp hp'
theorem szBoolG_any (a : Option Addr) (n c : Nat) (L : Int) (w : World) (hm : n ≤ maxLen) (L0 : 0 ≤ L) (L1 : L ≤ 1048576) :
 Calls Tryz.prog 36 #[.slice a n c, .int .i64 L] w fun e w' => e = .returned (.int .i64 (if (n : Int) ≤ L then L - (n : Int) else -1)) ∧ w = w' := by
 unfold maxLen at hm
 by_cases h : (n : Int) ≤ L
 ·rw [if_pos h]
  have hd : decide (L - (n : Int) < 0) = false := by simp; omega
  go_enter Tryz.func36, Tryz.ntmps36
  go_wp2_with fail
  go_ret
  exact ⟨rfl, rfl⟩
 ·rw [if_neg h]
  have hd : decide (L - (n : Int) < 0) = true := by simp; omega
  go_enter Tryz.func36, Tryz.ntmps36
  go_wp2_with fail
  go_ret
  exact ⟨rfl, rfl⟩
end Go.Proofs.YtddijpjgkifngaaGreat
namespace Go.Proofs.YtddijpjgkifngaaGreat
open Go.RowKit
set_option linter.unusedVariables false
def inT (l : Int) : Bool := decide (-1000000000000 ≤ l ∧ l ≤ 1000000000000)
def apB (h : Bool) (l : Int) : Bool := inT l && (h || (l == 0))
set_option maxHeartbeats 2000000 in
theorem specAppOk_any (h : Bool) (l : Int) (w : World) : Calls Tryz.prog 91 #[.agg #[.bool h, .int .i64 l]] w fun e w' => e = .returned (.bool (apB h l)) ∧ Below w.heap.size w w' := by
 have A := Below.nw w (.cells #[.bool h, .int .i64 l] 95)
 have N := Bx2.new w (.bool h) (.int .i64 l) 95
 have C1 := fun w' => l1In_any l (-1000000000000) 1000000000000 w'
 unfold apB
 have e0 : decide (-1000000000000 ≤ l ∧ l ≤ 1000000000000) = inT l := rfl
 rw [e0] at C1
 clear e0
 generalize inT l = q at *
 cases q
 ·go_enter Tryz.func91, Tryz.ntmps91
  go_upto_region 1 with fail
  generalize w.alloc (.cells #[.bool h, .int .i64 l] 95) = v at *
  obtain ⟨n0, n1, n2, n3, n4⟩ := id N
  go_wp2_with fail
  refine (C1 _).mono ?_
  rintro e w' ⟨rfl, rfl⟩
  go_wp2_with fail
  go_ret
  exact ⟨rfl, A⟩
 ·cases h
  ·cases hz : (l == 0)
   all_goals
    go_enter Tryz.func91, Tryz.ntmps91
    go_upto_region 1 with fail
    generalize w.alloc (.cells #[.bool false, .int .i64 l] 95) = v at *
    obtain ⟨n0, n1, n2, n3, n4⟩ := id N
    go_wp2_with fail
    refine (C1 _).mono ?_
    rintro e w' ⟨rfl, rfl⟩
    go_wp2_with fail
    go_ret
    exact ⟨by first | rfl | (rw [hz]; rfl) | (simp; done), A⟩
  ·go_enter Tryz.func91, Tryz.ntmps91
   go_upto_region 1 with fail
   generalize w.alloc (.cells #[.bool true, .int .i64 l] 95) = v at *
   obtain ⟨n0, n1, n2, n3, n4⟩ := id N
   go_wp2_with fail
   refine (C1 _).mono ?_
   rintro e w' ⟨rfl, rfl⟩
   go_wp2_with fail
   go_ret
   exact ⟨rfl, A⟩
end Go.Proofs.YtddijpjgkifngaaGreat
namespace Go.Proofs.YtddijpjgkifngaaGreat
open Go.RowKit
set_option linter.unusedVariables false
def hrO (x : VT) : Bool := decide (0 ≤ x.1 ∧ x.1 ≤ 15) && okT x.2
def hrA (M : Nat → VT) : Nat → Bool
 | 0 => true
 | j + 1 => hrA M j && (hrO (M j) && (decide (j = 0) || decide ((M (j - 1)).1 < (M j).1)))
def hrB (M : Nat → VT) (n : Nat) : Bool := decide (n ≤ 16) && hrA M n
theorem hrA_no {M : Nat → VT} {k n : Nat} (h : hrA M (k + 1) = false) (hk : k < n) : hrA M n = false := by
 induction n with
 | zero => omega
 | succ n ih =>
  by_cases e : k = n
  ·subst e; exact h
  ·rw [hrA, ih (by omega)]; rfl
theorem hrB_no {M : Nat → VT} {k n : Nat} (h : hrA M (k + 1) = false) (hk : k < n) : hrB M n = false := by unfold hrB; rw [hrA_no h hk]; simp
theorem hrA_at {M : Nat → VT} {k n : Nat} (h : hrA M n = true) (hk : k < n) : hrO (M k) = true ∧ (k = 0 ∨ (M (k - 1)).1 < (M k).1) := by
 cases e : hrA M (k + 1)
 ·rw [hrA_no e hk] at h; exact absurd h (by decide)
 ·rw [hrA] at e
  simp only [Bool.and_eq_true, Bool.or_eq_true, decide_eq_true_eq] at e
  exact ⟨e.2.1, e.2.2⟩
theorem hrO_t {x : VT} (h : hrO x = true) : (0 ≤ x.1 ∧ x.1 ≤ 15) ∧ (0 ≤ x.2 ∧ x.2 ≤ 1000000000000) := by
 unfold hrO okT at h
 simp at h
 omega
end Go.Proofs.YtddijpjgkifngaaGreat
namespace Go.Proofs.YtddijpjgkifngaaGreat
open Go.RowKit
set_option linter.unusedVariables false
set_option maxHeartbeats 2000000 in
theorem appok_any (h : Bool) (l : Int) (w : World) : Calls Tryz.prog 198 #[.agg #[.bool h, .int .i64 l]] w fun e w' => e = .returned (.bool (apB h l)) ∧ Below w.heap.size w w' := by
 have A := Below.nw w (.cells #[.bool h, .int .i64 l] 95)
 by_cases h1 : -1000000000000 ≤ l
 ·by_cases h2 : l ≤ 1000000000000
  ·have e0 : apB h l = (h || (l == 0)) := by unfold apB inT; rw [decide_eq_true ⟨h1, h2⟩]; rfl
   rw [e0]
   clear e0
   cases h
   ·cases hz : (l == 0)
    all_goals
     go_enter Tryz.func198, Tryz.ntmps198
     go_wp2
     go_ret
     exact ⟨by first | rfl | (rw [hz]; rfl) | (simp; done), A⟩
   ·go_enter Tryz.func198, Tryz.ntmps198
    go_wp2
    go_ret
    exact ⟨rfl, A⟩
  ·have e0 : apB h l = false := by unfold apB inT; rw [decide_eq_false (by omega)]; rfl
   rw [e0]
   clear e0
   go_enter Tryz.func198, Tryz.ntmps198
   go_wp2
   go_ret
   exact ⟨rfl, A⟩
 ·have e0 : apB h l = false := by unfold apB inT; rw [decide_eq_false (by omega)]; rfl
  rw [e0]
  clear e0
  go_enter Tryz.func198, Tryz.ntmps198
  go_wp2
  go_ret
  exact ⟨rfl, A⟩
end Go.Proofs.YtddijpjgkifngaaGreat
namespace Go.Proofs.YtddijpjgkifngaaGreat
open Go.RowKit
set_option linter.unusedVariables false
def lstI (M : Nat → VT) : Nat → Int
 | 0 => -1
 | j + 1 => (M j).1
theorem lst_ge {M : Nat → VT} : ∀ {k : Nat}, hrA M k = true → (k : Int) - 1 ≤ lstI M k
 | 0, _ => by show (0 : Int) - 1 ≤ -1; decide
 | k + 1, h => by
  have h1 := hrA_at h (Nat.lt_succ_self k)
  have h0 : hrA M k = true := by
   cases e : hrA M k
   ·rw [hrA, e, Bool.false_and] at h; exact absurd h (by decide)
   ·rfl
  have ih := lst_ge h0
  have h2 := hrO_t h1.1
  show ((k + 1 : Nat) : Int) - 1 ≤ (M k).1
  cases k with
  | zero => omega
  | succ j =>
   have h3 : (M j).1 < (M (j + 1)).1 := by
    rcases h1.2 with q | q
    ·omega
    ·simpa using q
   have ih' : ((j + 1 : Nat) : Int) - 1 ≤ (M j).1 := ih
   omega
theorem hr_sixteen {M : Nat → VT} {n : Nat} (h : hrA M n = true) : hrB M n = true := by
 unfold hrB
 rw [h, Bool.and_true]
 refine decide_eq_true ?_
 cases n with
 | zero => omega
 | succ j =>
  have h1 := lst_ge h
  have h2 := hrO_t (hrA_at h (Nat.lt_succ_self j)).1
  have h3 : ((j + 1 : Nat) : Int) - 1 ≤ (M j).1 := h1
  omega
theorem hr_step {M : Nat → VT} {k : Nat} {x0 x1 : Int} (h : hrA M k = true) (hM : M k = (x0, x1)) : hrA M (k + 1) = (decide (lstI M k < x0) && (decide (x0 < 16) && okT x1)) := by
 have hl := lst_ge h
 rw [hrA, h, Bool.true_and, hM]
 unfold hrO
 cases k with
 | zero =>
  show (decide (0 ≤ x0 ∧ x0 ≤ 15) && okT x1 && (decide (0 = 0) || _)) = (decide ((-1 : Int) < x0) && (decide (x0 < 16) && okT x1))
  rw [Bool.eq_iff_iff]
  simp only [Bool.and_eq_true, Bool.or_eq_true, decide_eq_true_eq]
  constructor
  ·rintro ⟨⟨h1, h2⟩, h3⟩; exact ⟨by omega, by omega, h2⟩
  ·rintro ⟨h1, h2, h3⟩; exact ⟨⟨by omega, h3⟩, by first | trivial | exact Or.inl trivial | exact Or.inl rfl | simp⟩
 | succ j =>
  have hl' : ((j + 1 : Nat) : Int) - 1 ≤ (M j).1 := hl
  show (decide (0 ≤ x0 ∧ x0 ≤ 15) && okT x1 && (decide (j + 1 = 0) || decide ((M (j + 1 - 1)).1 < x0))) = (decide ((M j).1 < x0) && (decide (x0 < 16) && okT x1))
  rw [Nat.add_sub_cancel]
  generalize (M j).1 = z at *
  rw [Bool.eq_iff_iff]
  simp only [Bool.and_eq_true, Bool.or_eq_true, decide_eq_true_eq]
  constructor
  ·rintro ⟨⟨h1, h2⟩, h3⟩; exact ⟨by omega, by omega, h2⟩
  ·rintro ⟨h1, h2, h3⟩; exact ⟨⟨by omega, h3⟩, Or.inr h1⟩
set_option maxRecDepth 100000 in
set_option maxHeartbeats 8000000 in
theorem implHeardOk_any (a : Option Addr) (n c : Nat) (M : Nat → VT) (w : World) (hm : n ≤ maxLen) (hs : SrcC w a (n * 2) (MFIval M)) :
 Calls Tryz.prog 199 #[.slice a n c] w fun e w' => e = .returned (.bool (hrB M n)) ∧ Below w.heap.size w w' := by
 have HS : Hid (SrcC w a (n * 2) (MFIval M)) := hs
 clear hs
 unfold maxLen at hm
 go_enter Tryz.func199, Tryz.ntmps199
 go_wp2_with fail
 go_loopw [3, 8] (fun l i wr => ∃ (k : Nat), k ≤ n ∧ l = .int .i64 (lstI M k) ∧ i = .int .i64 k ∧ hrA M k = true ∧ Below w.heap.size w wr) (fun _ i _ => n - (intOf i).toNat)
 case atStart => exact ⟨0, Nat.zero_le _, rfl, rfl, rfl, Below.refl _ _⟩
 case round =>
  obtain ⟨k, hk, rfl, rfl, hA, B⟩ := hrel
  by_cases hlt : k < n
  ·obtain ⟨x0, x1, hM⟩ := tupIval M k
   obtain ⟨b, off, rfl, hf⟩ : ∃ b off, a = some ⟨b, off, none⟩ ∧ Cs w b off (n * 2) (MFIval M) := by
    rcases HS.out with q | q
    ·exact absurd q (by omega)
    ·exact q
   obtain ⟨c0, c1⟩ := (hf.below B hf.1).elIval hlt hM
   have HLT : Hid (k < n) := hlt
   have hli : (k : Int) < (n : Int) := by omega
   have C1 := fun w' => isTime_any x1 w'
   have A1 := Below.nw wr (.cells #[.int .i64 x0, .int .i64 x1] 162)
   replace B := B.trans (A1.mono B.size)
   have HX : Hid (hrA M (k + 1) = (decide (lstI M k < x0) && (decide (x0 < 16) && okT x1))) := hr_step hA hM
   have HNX : Hid (lstI M (k + 1) = x0) := by rw [Hid, lstI, hM]
   generalize lstI M k = la at *
   clear hM hA hf A1 HS
   by_cases h1 : x0 ≤ la
   ·have HN : Hid (hrA M (k + 1) = false) := by rw [Hid, HX.out, decide_eq_false (by omega)]; rfl
    clear HX HNX C1
    go_wp2_with fail
    go_ret
    exact ⟨ret_bool (hrB_no HN.out HLT.out).symm, B⟩
   by_cases h2 : 16 ≤ x0
   ·have HN : Hid (hrA M (k + 1) = false) := by rw [Hid, HX.out, decide_eq_false (p := x0 < 16) (by omega)]; simp
    clear HX HNX C1
    go_wp2_with fail
    go_ret
    exact ⟨ret_bool (hrB_no HN.out HLT.out).symm, B⟩
   replace HX : Hid (hrA M (k + 1) = okT x1) := by rw [Hid, HX.out, decide_eq_true (p := x0 < 16) (by omega), decide_eq_true (p := la < x0) (by omega)]; rfl
   go_wp2_with fail
   refine (C1 _).mono ?_
   rintro e v1 ⟨rfl, rfl⟩
   cases h3 : okT x1
   ·have HN : Hid (hrA M (k + 1) = false) := by rw [Hid, HX.out, h3]
    clear HX HNX C1
    go_wp2_with fail
    go_ret
    exact ⟨ret_bool (hrB_no HN.out HLT.out).symm, B⟩
   ·have HT : Hid (hrA M (k + 1) = true) := by rw [Hid, HX.out, h3]
    clear HX C1
    go_wp2_with fail
    go_roundw
    case rel => exact ⟨k + 1, HLT.out, by rw [HNX.out], by go_num, HT.out, B⟩
    case measure => have hlt' := HLT.out; simp [intOf]; omega
  ·have hkn : k = n := by omega
   subst hkn
   have hli : ¬ (k : Int) < (k : Int) := by omega
   have HR : Hid (hrB M k = true) := hr_sixteen hA
   clear hA
   go_wp2_with fail
   go_ret
   exact ⟨ret_bool HR.out.symm, B⟩
end Go.Proofs.YtddijpjgkifngaaGreat
