/- What the laws make of an op. -/
import Derived.Test.YtddjiamollfplaaDoorO190
import Derived.Deep.OwnRows
import Derived.Deep.RegionHeld3
import Derived.WalkKit
import Derived.WalkSpells
import Derived.WalkLawsBesides
import Derived.Deep.RegionHeld
namespace Go.Proofs.YtddjiamollfplaaDoor
open Go.RowKit
set_option linter.unusedVariables false

def rowObjI (n : Nat) : Obj := .cells (madeCells #[.int .i64 0] n) 3
theorem infoI : (Tryd.prog.info? 3).map (fun i => (i.zero, i.size, i.bytes)) = some (some (.int .i64 0), 1, 8) := by kernel_rfl
theorem mk_rowI (n : Nat) (h : n ≤ 1048576) (w : World) : (Instr.makeSlice 34 (.int .i64 (n : Int)) (.int .i64 (n : Int))).run Tryd.prog w = .ok (.slice (some ⟨w.heap.size, 0, none⟩) n n) (w.alloc (rowObjI n)) := by
  obtain ⟨i, hi, hz⟩ := Option.map_eq_some_iff.1 infoI
  simp only [Prod.mk.injEq] at hz
  obtain ⟨h1, h2, h3⟩ := hz
  have hr := run_make (P := Tryd.prog) w 34 3 i _ Tryd.underlying34 hi h1 .i64 .i64 n n (by omega) (Int.le_refl _) (by rw [h3]; omega) (by omega)
  simp only [Int.toNat_natCast, h2, Nat.mul_one] at hr
  exact hr
theorem rowObjI_is (w : World) (n : Nat) (F : Nat → Value) : RowF (w.alloc (rowObjI n)) w.heap.size 3 n 0 F := by
  have h := World.rowIs_alloc w (madeCells #[.int .i64 0] n) 3 (fun i => (madeCells #[.int .i64 0] n).getD i undef) (fun i hi => by
    rw [Array.getElem?_eq_getElem hi]; exact congrArg some (by rw [Array.getD_eq_getD_getElem?, Array.getElem?_eq_getElem hi]; rfl))
  rw [size_madeCells] at h
  exact ⟨_, h, fun j hj => absurd hj (Nat.not_lt_zero _)⟩
set_option maxHeartbeats 1000000 in
theorem toIntG_some (b off n c : Nat) (f : Nat → Int) (w : World) (hn : n ≤ 1048576) (hf : Cs w b off n (itG f)) :
    Calls Tryd.prog 57 #[.slice (some ⟨b, off, none⟩) n c] w fun e w' => e = .returned (.slice (some ⟨w.heap.size, 0, none⟩) n n) ∧ RowF w' w.heap.size 3 n n (itG f) ∧ Below w.heap.size w w' := by
  have hmk := mk_rowI n hn
  have HF : Hid (Cs w b off n (itG f)) := hf
  clear hf
  go_enter Tryd.func57, Tryd.ntmps57
  go_wp2_with fail
  clear hmk
  go_loopw [4] (fun i wr => ∃ k : Nat, k ≤ n ∧ i = .int .i64 k ∧ RowF wr w.heap.size 3 n k (itG f) ∧ Below w.heap.size w wr) (fun i _ => n - (intOf i).toNat)
  case atStart => exact ⟨0, Nat.zero_le _, rfl, rowObjI_is w n _, Below.nw _ _⟩
  case round =>
    obtain ⟨k, hk, rfl, hrow, hB⟩ := hrel
    by_cases hlt : k < n
    · have c0 : wr.cell? ⟨b, off + k, none⟩ = some (.int .i64 (f k)) := (HF.out.below hB HF.out.1).2 k hlt
      have hli : (k : Int) < (n : Int) := by omega
      have hsz := hB.size
      obtain ⟨⟨v1, e1⟩, f1⟩ := hrow.facts k hlt
      have l1 := hrow.lt
      go_wp2_with fail
      go_roundw
      case rel => exact ⟨k + 1, by omega, by go_num, hrow.put (k + 1) rfl rfl, hB.setCell (Nat.le_refl _) _⟩
      case measure => simp [intOf]; omega
    · have hkn : k = n := by omega
      subst hkn
      have hli : ¬ (k : Int) < (k : Int) := by omega
      go_wp2_with fail
      go_ret
      exact ⟨rfl, hrow, hB⟩
set_option maxHeartbeats 1000000 in
theorem toIntG_zero (a : Option Addr) (c : Nat) (f : Nat → Int) (w : World) :
    Calls Tryd.prog 57 #[.slice a 0 c] w fun e w' => e = .returned (.slice (some ⟨w.heap.size, 0, none⟩) 0 0) ∧ RowF w' w.heap.size 3 0 0 (itG f) ∧ Below w.heap.size w w' := by
  have hmk := mk_rowI 0 (by omega)
  simp only [Int.ofNat_zero] at hmk
  go_enter Tryd.func57, Tryd.ntmps57
  go_wp2_with fail
  clear hmk
  go_loopw [4] (fun i wr => i = .int .i64 0 ∧ RowF wr w.heap.size 3 0 0 (itG f) ∧ Below w.heap.size w wr) (fun i _ => 0)
  case atStart => exact ⟨rfl, rowObjI_is w 0 _, Below.nw _ _⟩
  case round =>
    obtain ⟨rfl, hrow, hB⟩ := hrel
    go_wp2_with fail
    go_ret
    exact ⟨rfl, hrow, hB⟩
theorem toIntG_any (a : Option Addr) (n c : Nat) (f : Nat → Int) (w : World) (hn : n ≤ 1048576) (h : SrcC w a n (itG f)) :
    Calls Tryd.prog 57 #[.slice a n c] w fun e w' => e = .returned (.slice (some ⟨w.heap.size, 0, none⟩) n n) ∧ RowF w' w.heap.size 3 n n (itG f) ∧ Below w.heap.size w w' := by
  rcases h with rfl | ⟨b, off, rfl, h2⟩
  · exact toIntG_zero a c f w
  · exact toIntG_some b off n c f w hn h2
set_option maxHeartbeats 1600000 in
theorem eqIntG_some (b off b' off' n c c' : Nat) (f : Nat → Int) (w : World) (hn : n ≤ maxLen) (hf : Cs w b off n (itG f)) (hg : Cs w b' off' n (itG f)) :
    Calls Tryd.prog 62 #[.slice (some ⟨b, off, none⟩) n c, .slice (some ⟨b', off', none⟩) n c'] w fun e w' => e = .returned (.bool true) ∧ Below w.heap.size w w' := by
  unfold maxLen at hn
  have HF : Hid (Cs w b off n (itG f)) := hf
  have HG : Hid (Cs w b' off' n (itG f)) := hg
  clear hf hg
  go_enter Tryd.func62, Tryd.ntmps62
  go_wp2_with fail
  go_loopw [5] (fun i wr => ∃ k : Nat, k ≤ n ∧ i = .int .i64 k ∧ Below w.heap.size w wr) (fun i _ => n - (intOf i).toNat)
  case atStart => exact ⟨0, Nat.zero_le _, rfl, Below.refl _ _⟩
  case round =>
    obtain ⟨k, hk, rfl, hB⟩ := hrel
    by_cases hlt : k < n
    · have c0 : wr.cell? ⟨b, off + k, none⟩ = some (.int .i64 (f k)) := (HF.out.below hB HF.out.1).2 k hlt
      have d0 : wr.cell? ⟨b', off' + k, none⟩ = some (.int .i64 (f k)) := (HG.out.below hB HG.out.1).2 k hlt
      have hsz := hB.size
      have hli : (k : Int) < (n : Int) := by omega
      go_wp2_with fail
      go_region
      all_goals go_wp2_with fail
      all_goals go_roundw
      all_goals first | (case rel => exact ⟨k + 1, by omega, by go_num, Below.drew hB⟩) | skip
      all_goals first | (case measure => simp [intOf]; omega) | skip
    · go_wp2_with fail
      go_ret
      exact ⟨rfl, hB⟩
set_option maxHeartbeats 400000 in
theorem eqIntG_zero (a a' : Option Addr) (c c' : Nat) (w : World) :
    Calls Tryd.prog 62 #[.slice a 0 c, .slice a' 0 c'] w fun e w' => e = .returned (.bool true) ∧ Below w.heap.size w w' := by
  go_enter Tryd.func62, Tryd.ntmps62
  go_wp2_with fail
  go_loopw [5] (fun i wr => i = .int .i64 0 ∧ w = wr) (fun i _ => 0)
  case atStart => exact ⟨rfl, by first | rfl | trivial⟩
  case round =>
    obtain ⟨rfl, rfl⟩ := hrel
    go_wp2_with fail
    go_ret
    exact ⟨rfl, Below.refl _ _⟩
theorem eqIntG_src (a a' : Option Addr) (n c c' : Nat) (f : Nat → Int) (w : World) (hn : n ≤ maxLen) (h : SrcC w a n (itG f)) (h' : SrcC w a' n (itG f)) :
    Calls Tryd.prog 62 #[.slice a n c, .slice a' n c'] w fun e w' => e = .returned (.bool true) ∧ Below w.heap.size w w' := by
  by_cases h0 : n = 0
  · subst h0; exact eqIntG_zero a a' c c' w
  · rcases h with h | ⟨b, off, rfl, hp⟩
    · exact absurd h h0
    · rcases h' with h | ⟨b', off', rfl, hp'⟩
      · exact absurd h h0
      · exact eqIntG_some b off b' off' n c c' f w hn hp hp'
theorem szIntG_any (a : Option Addr) (n c : Nat) (L : Int) (w : World) (hm : n ≤ maxLen) (L0 : 0 ≤ L) (L1 : L ≤ 1048576) :
    Calls Tryd.prog 52 #[.slice a n c, .int .i64 L] w fun e w' => e = .returned (.int .i64 (if (n : Int) ≤ L then L - (n : Int) else -1)) ∧ w = w' := by
  unfold maxLen at hm
  by_cases h : (n : Int) ≤ L
  · rw [if_pos h]
    have hd : decide (L - (n : Int) < 0) = false := by simp; omega
    go_enter Tryd.func52, Tryd.ntmps52
    go_wp2_with fail
    go_ret
    exact ⟨rfl, rfl⟩
  · rw [if_neg h]
    have hd : decide (L - (n : Int) < 0) = true := by simp; omega
    go_enter Tryd.func52, Tryd.ntmps52
    go_wp2_with fail
    go_ret
    exact ⟨rfl, rfl⟩
set_option maxHeartbeats 4000000 in
theorem szOp_any (k nd tt a b : Int) (tx : ByteArray) (p : Option Addr) (n c : Nat) (w : World) (hx : tx.size ≤ maxLen) (hn : n ≤ maxLen) :
    Calls Tryd.prog 21 #[.agg #[.int .i64 k, .int .i64 nd, .int .i64 tt, .int .i64 a, .int .i64 b, .string tx, .slice p n c], .int .i64 1048576] w fun e w' => ∃ L : Int, e = .returned (.int .i64 L) ∧ (0 ≤ L → tx.size ≤ 1048576 ∧ n ≤ 1048576) ∧ Below w.heap.size w w' := by
  have B := Below.nw w (.cells #[.int .i64 k, .int .i64 nd, .int .i64 tt, .int .i64 a, .int .i64 b, .string tx, .slice p n c] 36)
  unfold maxLen at hx
  by_cases h : (tx.size : Int) ≤ 1048576
  · have hd : decide (1048576 - (tx.size : Int) < 0) = false := by simp; omega
    by_cases h2 : (n : Int) ≤ 1048576 - (tx.size : Int)
    · have hneg : ¬ (1048576 - (tx.size : Int) - (n : Int) < 0) := by omega
      go_enter Tryd.func21, Tryd.ntmps21
      go_wp2_with fail
      refine (szIntG_any _ _ _ _ _ hn (by omega) (by omega)).mono ?_
      rintro e w1 ⟨rfl, rfl⟩
      rw [if_pos h2]
      go_wp2_with fail
      go_ret
      exact ⟨_, rfl, fun _ => by constructor <;> omega, B⟩
    · go_enter Tryd.func21, Tryd.ntmps21
      go_wp2_with fail
      refine (szIntG_any _ _ _ _ _ hn (by omega) (by omega)).mono ?_
      rintro e w1 ⟨rfl, rfl⟩
      rw [if_neg (Int.not_le.2 h2)]
      go_wp2_with fail
      go_ret
      exact ⟨_, rfl, fun h => absurd h (by decide), B⟩
  · have hd : decide (1048576 - (tx.size : Int) < 0) = true := by simp; omega
    go_enter Tryd.func21, Tryd.ntmps21
    go_wp2_with fail
    go_ret
    exact ⟨_, rfl, fun h => absurd h (by decide), B⟩
set_option maxHeartbeats 8000000 in
set_option maxRecDepth 100000 in
theorem toOp_any (k nd tt a b : Int) (tx : ByteArray) (p : Option Addr) (n c : Nat) (f : Nat → Int) (w : World) (hn : n ≤ 1048576) (h : SrcC w p n (itG f)) :
    Calls Tryd.prog 23 #[.agg #[.int .i64 k, .int .i64 nd, .int .i64 tt, .int .i64 a, .int .i64 b, .string tx, .slice p n c]] w fun e w' => ∃ j, e = .returned (.agg #[.int .i64 k, .int .i64 nd, .int .i64 tt, .int .i64 a, .int .i64 b, .string tx, .slice (some ⟨j, 0, none⟩) n n]) ∧ w.heap.size ≤ j ∧ RowF w' j 3 n n (itG f) ∧ Below w.heap.size w w' := by
  have A0 := ((Below.nw w (.cells #[.int .i64 k, .int .i64 nd, .int .i64 tt, .int .i64 a, .int .i64 b, .string tx, .slice p n c] 36)).alloc (by simp) (.cells #[.int .i64 0, .int .i64 0, .int .i64 0, .int .i64 0, .int .i64 0, .string ⟨#[]⟩, .slice none 0 0] 39)).alloc (by simp; omega) (.cells #[.int .i64 k, .int .i64 nd, .int .i64 tt, .int .i64 a, .int .i64 b, .string tx, .slice none 0 0] 39)
  have R : Bo (((w.alloc (.cells #[.int .i64 k, .int .i64 nd, .int .i64 tt, .int .i64 a, .int .i64 b, .string tx, .slice p n c] 36)).alloc (.cells #[.int .i64 0, .int .i64 0, .int .i64 0, .int .i64 0, .int .i64 0, .string ⟨#[]⟩, .slice none 0 0] 39)).alloc (.cells #[.int .i64 k, .int .i64 nd, .int .i64 tt, .int .i64 a, .int .i64 b, .string tx, .slice none 0 0] 39)) (w.heap.size + 1) #[.int .i64 0, .int .i64 0, .int .i64 0, .int .i64 0, .int .i64 0, .string ⟨#[]⟩, .slice none 0 0] := by
    have := (Bo.new (w.alloc (.cells #[.int .i64 k, .int .i64 nd, .int .i64 tt, .int .i64 a, .int .i64 b, .string tx, .slice p n c] 36)) #[.int .i64 0, .int .i64 0, .int .i64 0, .int .i64 0, .int .i64 0, .string ⟨#[]⟩, .slice none 0 0] 39).below (Below.nw _ (.cells #[.int .i64 k, .int .i64 nd, .int .i64 tt, .int .i64 a, .int .i64 b, .string tx, .slice none 0 0] 39))
    simpa using this
  have O : Bo (((w.alloc (.cells #[.int .i64 k, .int .i64 nd, .int .i64 tt, .int .i64 a, .int .i64 b, .string tx, .slice p n c] 36)).alloc (.cells #[.int .i64 0, .int .i64 0, .int .i64 0, .int .i64 0, .int .i64 0, .string ⟨#[]⟩, .slice none 0 0] 39)).alloc (.cells #[.int .i64 k, .int .i64 nd, .int .i64 tt, .int .i64 a, .int .i64 b, .string tx, .slice none 0 0] 39)) (w.heap.size + 1 + 1) #[.int .i64 k, .int .i64 nd, .int .i64 tt, .int .i64 a, .int .i64 b, .string tx, .slice none 0 0] := by
    have := Bo.new ((w.alloc (.cells #[.int .i64 k, .int .i64 nd, .int .i64 tt, .int .i64 a, .int .i64 b, .string tx, .slice p n c] 36)).alloc (.cells #[.int .i64 0, .int .i64 0, .int .i64 0, .int .i64 0, .int .i64 0, .string ⟨#[]⟩, .slice none 0 0] 39)) #[.int .i64 k, .int .i64 nd, .int .i64 tt, .int .i64 a, .int .i64 b, .string tx, .slice none 0 0] 39
    simpa using this
  have C := toIntG_any p n c f _ hn (h.below A0)
  have z3 : (((w.alloc (.cells #[.int .i64 k, .int .i64 nd, .int .i64 tt, .int .i64 a, .int .i64 b, .string tx, .slice p n c] 36)).alloc (.cells #[.int .i64 0, .int .i64 0, .int .i64 0, .int .i64 0, .int .i64 0, .string ⟨#[]⟩, .slice none 0 0] 39)).alloc (.cells #[.int .i64 k, .int .i64 nd, .int .i64 tt, .int .i64 a, .int .i64 b, .string tx, .slice none 0 0] 39)).heap.size = w.heap.size + 1 + 1 + 1 := by simp
  clear h
  go_enter Tryd.func23, Tryd.ntmps23
  go_wp2_with fail
  refine C.mono ?_
  rintro e w1 ⟨rfl, R1, hb⟩
  replace R := R.below hb
  replace O := O.below hb
  replace A0 := A0.trans (hb.mono A0.size)
  rw [z3] at R1 ⊢
  clear C hb z3
  generalize hj : w.heap.size + 1 + 1 + 1 = j at *
  have l1 := R1.lt
  have r0 := R.cell (i := 0) rfl; have r1 := R.cell (i := 1) rfl; have r2 := R.cell (i := 2) rfl; have r3 := R.cell (i := 3) rfl; have r4 := R.cell (i := 4) rfl; have r5 := R.cell (i := 5) rfl; have r6 := R.cell (i := 6) rfl
  have o0 := O.cell (i := 0) rfl; have o1 := O.cell (i := 1) rfl; have o2 := O.cell (i := 2) rfl; have o3 := O.cell (i := 3) rfl; have o4 := O.cell (i := 4) rfl; have o5 := O.cell (i := 5) rfl; have o6 := O.cell (i := 6) rfl
  have q0 := R.2.2 0 (by simp); have q1 := R.2.2 1 (by simp); have q2 := R.2.2 2 (by simp); have q3 := R.2.2 3 (by simp); have q4 := R.2.2 4 (by simp); have q5 := R.2.2 5 (by simp); have q6 := R.2.2 6 (by simp)
  have m6 := O.2.2 6 (by simp)
  have s1 := R.1
  have s2 := O.1
  have BF := (((((((A0.setCell (p := ⟨w.heap.size + 1 + 1, 6, none⟩) (by simp; omega) (.slice (some ⟨j, 0, none⟩) n n)).setCell (p := ⟨w.heap.size + 1, 0, none⟩) (by simp) (.int .i64 k)).setCell (p := ⟨w.heap.size + 1, 1, none⟩) (by simp) (.int .i64 nd)).setCell (p := ⟨w.heap.size + 1, 2, none⟩) (by simp) (.int .i64 tt)).setCell (p := ⟨w.heap.size + 1, 3, none⟩) (by simp) (.int .i64 a)).setCell (p := ⟨w.heap.size + 1, 4, none⟩) (by simp) (.int .i64 b)).setCell (p := ⟨w.heap.size + 1, 5, none⟩) (by simp) (.string tx)).setCell (p := ⟨w.heap.size + 1, 6, none⟩) (by simp) (.slice (some ⟨j, 0, none⟩) n n)
  have RF := (((((((R1.setO (k := w.heap.size + 1 + 1) (by omega) 6 (.slice (some ⟨j, 0, none⟩) n n)).setO (k := w.heap.size + 1) (by omega) 0 (.int .i64 k)).setO (k := w.heap.size + 1) (by omega) 1 (.int .i64 nd)).setO (k := w.heap.size + 1) (by omega) 2 (.int .i64 tt)).setO (k := w.heap.size + 1) (by omega) 3 (.int .i64 a)).setO (k := w.heap.size + 1) (by omega) 4 (.int .i64 b)).setO (k := w.heap.size + 1) (by omega) 5 (.string tx)).setO (k := w.heap.size + 1) (by omega) 6 (.slice (some ⟨j, 0, none⟩) n n)
  have hj' : w.heap.size ≤ j := by omega
  clear R O A0 R1 hj
  go_wp2_with fail
  exact bodyPost_ret (v := .agg #[.int .i64 k, .int .i64 nd, .int .i64 tt, .int .i64 a, .int .i64 b, .string tx, .slice (some ⟨j, 0, none⟩) n n]) (by simp (maxDischargeDepth := 6) [results, Tryd.results23, go_sem, *]) rfl ⟨j, rfl, hj', RF, BF⟩
set_option maxHeartbeats 8000000 in
theorem eqOp_same (k nd tt a b : Int) (tx : ByteArray) (p p' : Option Addr) (n c c' : Nat) (f : Nat → Int) (w : World) (hn : n ≤ maxLen) (h : SrcC w p n (itG f)) (h' : SrcC w p' n (itG f)) :
    Calls Tryd.prog 25 #[.agg #[.int .i64 k, .int .i64 nd, .int .i64 tt, .int .i64 a, .int .i64 b, .string tx, .slice p n c], .agg #[.int .i64 k, .int .i64 nd, .int .i64 tt, .int .i64 a, .int .i64 b, .string tx, .slice p' n c']] w fun e w' => e = .returned (.bool true) ∧ Below w.heap.size w w' := by
  have A0 := (Below.nw w (.cells #[.int .i64 k, .int .i64 nd, .int .i64 tt, .int .i64 a, .int .i64 b, .string tx, .slice p n c] 39)).alloc (by simp) (.cells #[.int .i64 k, .int .i64 nd, .int .i64 tt, .int .i64 a, .int .i64 b, .string tx, .slice p' n c'] 39)
  have C := eqIntG_src p p' n c c' f _ hn (h.below A0) (h'.below A0)
  clear h h'
  go_enter Tryd.func25, Tryd.ntmps25
  go_wp2_with fail
  refine C.mono ?_
  rintro e w1 ⟨rfl, hb⟩
  go_wp2_with fail
  go_ret
  exact ⟨rfl, A0.trans (hb.mono A0.size)⟩

end Go.Proofs.YtddjiamollfplaaDoor
