/- Lists of marks and of strides: what is made of them, and whether two are the same. -/
import Derived.Test.YtlgpalhgpihgnaaO2
import Derived.Test.YtlgpalhgpihgnaaS8
import Derived.Deep.OwnRows
import Derived.WalkKit
import Derived.WalkSpells
import Derived.WalkLawsBesides
import Derived.Deep.RegionHeld
namespace Go.Proofs.Ytlgpalhgpihgnaa
open Go.RowKit
set_option linter.unusedVariables false
set_option maxHeartbeats 400000 in
theorem toMark_any (lo hi : Int) (w : World) :
    Calls Try.prog 53 #[.agg #[.int .i64 lo, .int .i64 hi]] w fun e w' => e = .returned (.agg #[.int .i64 lo, .int .i64 hi]) ∧ Below w.heap.size w w' := by
  go_enter Try.func53, Try.ntmps53
  go_wp2
  exact bodyPost_ret (v := .agg #[.int .i64 lo, .int .i64 hi]) (by simp [results, Try.results53, go_sem]) rfl ⟨rfl, by repeat (first | exact Below.refl _ _ | refine Below.drew ?_ | refine Below.alloc ?_ (by first | (simp; done) | (simp; omega) | omega) _ | refine Below.setCell ?_ (by first | (simp; done) | (simp; omega) | omega) _ | refine Below.trans ?_ (Below.mono (by assumption) (by first | (simp; done) | (simp; omega) | omega)))⟩
set_option maxHeartbeats 400000 in
theorem eqMark_same (lo hi : Int) (w : World) :
    Calls Try.prog 49 #[.agg #[.int .i64 lo, .int .i64 hi], .agg #[.int .i64 lo, .int .i64 hi]] w fun e w' => e = .returned (.bool true) ∧ Below w.heap.size w w' := by
  go_enter Try.func49, Try.ntmps49
  go_wp2
  go_ret
  exact ⟨rfl, by repeat (first | exact Below.refl _ _ | refine Below.drew ?_ | refine Below.alloc ?_ (by first | (simp; done) | (simp; omega) | omega) _ | refine Below.setCell ?_ (by first | (simp; done) | (simp; omega) | omega) _ | refine Below.trans ?_ (Below.mono (by assumption) (by first | (simp; done) | (simp; omega) | omega)))⟩
set_option maxHeartbeats 400000 in
theorem szMarkS_any (a : Option Addr) (n c : Nat) (w : World) (hm : n ≤ maxLen) :
    Calls Try.prog 27 #[.slice a n c, .int .i64 1048576] w fun e w' => e = .returned (.int .i64 (if (n : Int) ≤ 1048576 then 1048576 - (n : Int) else -1)) ∧ w = w' := by
  unfold maxLen at hm
  by_cases h : (n : Int) ≤ 1048576
  · rw [if_pos h]
    have hd : decide (1048576 - (n : Int) < 0) = false := by simp; omega
    go_enter Try.func27, Try.ntmps27
    go_wp2
    go_ret
    exact ⟨rfl, rfl⟩
  · rw [if_neg h]
    have hd : decide (1048576 - (n : Int) < 0) = true := by simp; omega
    go_enter Try.func27, Try.ntmps27
    go_wp2
    go_ret
    exact ⟨rfl, rfl⟩
set_option maxHeartbeats 1600000 in
theorem eqMarkS_same (b off b' off' n c c' : Nat) (f : Nat → Int × Int) (w : World) (hn : n ≤ maxLen) (hf : Prs w b off n f) (hg : Prs w b' off' n f) :
    Calls Try.prog 22 #[.slice (some ⟨b, off, none⟩) n c, .slice (some ⟨b', off', none⟩) n c'] w fun e w' => e = .returned (.bool true) ∧ Below w.heap.size w w' := by
  unfold maxLen at hn
  go_enter Try.func22, Try.ntmps22
  go_wp2_with fail
  go_loopw [5] (fun i wr => ∃ k : Nat, k ≤ n ∧ i = .int .i64 k ∧ Below w.heap.size w wr) (fun i _ => n - (intOf i).toNat)
  case atStart => exact ⟨0, Nat.zero_le _, rfl, Below.refl _ _⟩
  case round =>
    obtain ⟨k, hk, rfl, hB⟩ := hrel
    by_cases hlt : k < n
    · have c0 : wr.cell? ⟨b, off + k * 2, none⟩ = some (.int .i64 (f k).1) := ((hf.below hB hf.1).2 k hlt).1
      have c1 : wr.cell? ⟨b, off + k * 2 + 1, none⟩ = some (.int .i64 (f k).2) := ((hf.below hB hf.1).2 k hlt).2
      have d0 : wr.cell? ⟨b', off' + k * 2, none⟩ = some (.int .i64 (f k).1) := ((hg.below hB hg.1).2 k hlt).1
      have d1 : wr.cell? ⟨b', off' + k * 2 + 1, none⟩ = some (.int .i64 (f k).2) := ((hg.below hB hg.1).2 k hlt).2
      have hsz := hB.size
      have hli : (k : Int) < (n : Int) := by omega
      go_wp2_with fail
      go_region_held (fun w' => w'.cell? ⟨b, off + k * 2, none⟩ = some (.int .i64 (f k).1) ∧ w'.cell? ⟨b, off + k * 2 + 1, none⟩ = some (.int .i64 (f k).2) ∧ w'.cell? ⟨b', off' + k * 2, none⟩ = some (.int .i64 (f k).1) ∧ w'.cell? ⟨b', off' + k * 2 + 1, none⟩ = some (.int .i64 (f k).2)) (first | (simp [*]; done) | (refine ⟨?_, ?_, ?_, ?_⟩ <;> (rw [hb.cell (by first | (simp; omega) | omega)]; simp [*]; done))) (first | (go_at_call 49; refine (eqMark_same _ _ _).mono ?_; rintro e w' ⟨rfl, hb⟩; (have hb1 : b < wr.heap.size := Nat.lt_of_lt_of_le hf.1 hsz); (have hb2 : b' < wr.heap.size := Nat.lt_of_lt_of_le hg.1 hsz)))
      all_goals go_wp2_with fail
      all_goals go_roundw
      all_goals first | (case rel => exact ⟨k + 1, by omega, by go_num, (Below.drew hB).trans (hb.mono hsz)⟩) | skip
      all_goals first | (case measure => simp [intOf]; omega) | skip
    · go_wp2_with fail
      go_ret
      exact ⟨rfl, hB⟩
def rowObjMark (n : Nat) : Obj := .cells (madeCells #[.int .i64 0, .int .i64 0] (n * 2)) 70
theorem infoMark : (Try.prog.info? 70).map (fun i => (i.zero, i.size, i.bytes)) = some (some (.agg #[.int .i64 0, .int .i64 0]), 2, 16) := by kernel_rfl
theorem mk_rowMark (n : Nat) (h : n ≤ 1048576) (w : World) : (Instr.makeSlice 42 (.int .i64 (n : Int)) (.int .i64 (n : Int))).run Try.prog w = .ok (.slice (some ⟨w.heap.size, 0, none⟩) n n) (w.alloc (rowObjMark n)) := by
  obtain ⟨i, hi, hz⟩ := Option.map_eq_some_iff.1 infoMark
  simp only [Prod.mk.injEq] at hz
  obtain ⟨h1, h2, h3⟩ := hz
  have hr := run_make (P := Try.prog) w 42 70 i _ Try.underlying42 hi h1 .i64 .i64 n n (by omega) (Int.le_refl _) (by rw [h3]; omega) (by omega)
  simp only [Int.toNat_natCast, h2] at hr
  exact hr
theorem rowObj_isMark (w : World) (n : Nat) : (w.alloc (rowObjMark n)).rowIs w.heap.size 70 (n * 2) (fun _ => .int .i64 0) := by
  have h := World.rowIs_alloc w (madeCells #[.int .i64 0, .int .i64 0] (n * 2)) 70 (fun _ => .int .i64 0) (fun i hi => by
    rw [size_madeCells] at hi
    have : i % 2 = 0 ∨ i % 2 = 1 := by omega
    rcases this with h | h <;> simp [madeCells, hi, h])
  rw [size_madeCells] at h
  exact h
set_option maxHeartbeats 1000000 in
theorem toMarkS_some (b off n c : Nat) (f : Nat → Int × Int) (w : World) (hn : n ≤ 1048576) (hf : Prs w b off n f) :
    Calls Try.prog 30 #[.slice (some ⟨b, off, none⟩) n c] w fun e w' => e = .returned (.slice (some ⟨w.heap.size, 0, none⟩) n n) ∧ Prs w' w.heap.size 0 n f ∧ Below w.heap.size w w' := by
  have hmk := mk_rowMark n hn
  go_enter Try.func30, Try.ntmps30
  go_wp2_with fail
  clear hmk
  go_loopw [4] (fun i wr => ∃ k : Nat, k ≤ n ∧ i = .int .i64 k ∧ RowK wr w.heap.size 70 n k f ∧ Below w.heap.size w wr) (fun i _ => n - (intOf i).toNat)
  case atStart => exact ⟨0, Nat.zero_le _, rfl, ⟨_, rowObj_isMark w n, fun j hj => absurd hj (Nat.not_lt_zero _)⟩, (Below.refl _ _).alloc (Nat.le_refl _) _⟩
  case round =>
    obtain ⟨k, hk, rfl, hrow, hB⟩ := hrel
    by_cases hlt : k < n
    · have c0 : wr.cell? ⟨b, off + k * 2, none⟩ = some (.int .i64 (f k).1) := ((hf.below hB hf.1).2 k hlt).1
      have c1 : wr.cell? ⟨b, off + k * 2 + 1, none⟩ = some (.int .i64 (f k).2) := ((hf.below hB hf.1).2 k hlt).2
      have hli : (k : Int) < (n : Int) := by omega
      have hsz := hB.size
      have hwl : w.heap.size < wr.heap.size := (hrow.facts hlt).1
      go_wp2_with fail
      refine (toMark_any _ _ _).mono ?_
      rintro e w1 ⟨rfl, hb⟩
      have hrow1 := hrow.below hb hwl
      obtain ⟨l1, ⟨v1, e1⟩, ⟨v2, e2⟩, f1, f2⟩ := hrow1.facts hlt
      go_wp2_with fail
      go_roundw
      case rel => exact ⟨k + 1, by omega, by go_num, hrow1.step, ((hB.trans (hb.mono hsz)).setCell (Nat.le_refl _) _).setCell (Nat.le_refl _) _⟩
      case measure => simp [intOf]; omega
    · have hkn : k = n := by omega
      subst hkn
      obtain ⟨g, hr, hg⟩ := hrow
      have hli : ¬ (k : Int) < (k : Int) := by omega
      go_wp2_with fail
      go_ret
      exact ⟨rfl, row_prs hr hg, hB⟩
set_option maxHeartbeats 1000000 in
theorem toMarkS_empty (a : Option Addr) (c : Nat) (f : Nat → Int × Int) (w : World) :
    Calls Try.prog 30 #[.slice a 0 c] w fun e w' => e = .returned (.slice (some ⟨w.heap.size, 0, none⟩) 0 0) ∧ Prs w' w.heap.size 0 0 f ∧ Below w.heap.size w w' := by
  have hmk := mk_rowMark 0 (by omega)
  simp only [Int.ofNat_zero] at hmk
  go_enter Try.func30, Try.ntmps30
  go_wp2_with fail
  clear hmk
  go_loopw [4] (fun i wr => i = .int .i64 0 ∧ RowK wr w.heap.size 70 0 0 f ∧ Below w.heap.size w wr) (fun i _ => 0)
  case atStart => exact ⟨rfl, ⟨_, rowObj_isMark w 0, fun j hj => absurd hj (Nat.not_lt_zero _)⟩, (Below.refl _ _).alloc (Nat.le_refl _) _⟩
  case round =>
    obtain ⟨rfl, hrow, hB⟩ := hrel
    obtain ⟨g, hr, hg⟩ := hrow
    go_wp2_with fail
    go_ret
    exact ⟨rfl, row_prs hr hg, hB⟩
theorem toMarkS_any (a : Option Addr) (n c : Nat) (f : Nat → Int × Int) (w : World) (hn : n ≤ 1048576) (h : Src w a n f) :
    Calls Try.prog 30 #[.slice a n c] w fun e w' => e = .returned (.slice (some ⟨w.heap.size, 0, none⟩) n n) ∧ Prs w' w.heap.size 0 n f ∧ Below w.heap.size w w' := by
  rcases h with rfl | ⟨b, off, rfl, h2⟩
  · exact toMarkS_empty a c f w
  · exact toMarkS_some b off n c f w hn h2
set_option maxHeartbeats 400000 in
theorem eqStride_same (lo hi : Int) (w : World) :
    Calls Try.prog 50 #[.agg #[.int .i64 lo, .int .i64 hi], .agg #[.int .i64 lo, .int .i64 hi]] w fun e w' => e = .returned (.bool true) ∧ Below w.heap.size w w' := by
  go_enter Try.func50, Try.ntmps50
  go_wp2
  go_ret
  exact ⟨rfl, by repeat (first | exact Below.refl _ _ | refine Below.drew ?_ | refine Below.alloc ?_ (by first | (simp; done) | (simp; omega) | omega) _ | refine Below.setCell ?_ (by first | (simp; done) | (simp; omega) | omega) _ | refine Below.trans ?_ (Below.mono (by assumption) (by first | (simp; done) | (simp; omega) | omega)))⟩
set_option maxHeartbeats 400000 in
theorem szStrideS_any (a : Option Addr) (n c : Nat) (w : World) (hm : n ≤ maxLen) :
    Calls Try.prog 18 #[.slice a n c, .int .i64 1048576] w fun e w' => e = .returned (.int .i64 (if (n : Int) ≤ 1048576 then 1048576 - (n : Int) else -1)) ∧ w = w' := by
  unfold maxLen at hm
  by_cases h : (n : Int) ≤ 1048576
  · rw [if_pos h]
    have hd : decide (1048576 - (n : Int) < 0) = false := by simp; omega
    go_enter Try.func18, Try.ntmps18
    go_wp2
    go_ret
    exact ⟨rfl, rfl⟩
  · rw [if_neg h]
    have hd : decide (1048576 - (n : Int) < 0) = true := by simp; omega
    go_enter Try.func18, Try.ntmps18
    go_wp2
    go_ret
    exact ⟨rfl, rfl⟩
set_option maxHeartbeats 1600000 in
theorem eqStrideS_same (b off b' off' n c c' : Nat) (f : Nat → Int × Int) (w : World) (hn : n ≤ maxLen) (hf : Prs w b off n f) (hg : Prs w b' off' n f) :
    Calls Try.prog 23 #[.slice (some ⟨b, off, none⟩) n c, .slice (some ⟨b', off', none⟩) n c'] w fun e w' => e = .returned (.bool true) ∧ Below w.heap.size w w' := by
  unfold maxLen at hn
  go_enter Try.func23, Try.ntmps23
  go_wp2_with fail
  go_loopw [5] (fun i wr => ∃ k : Nat, k ≤ n ∧ i = .int .i64 k ∧ Below w.heap.size w wr) (fun i _ => n - (intOf i).toNat)
  case atStart => exact ⟨0, Nat.zero_le _, rfl, Below.refl _ _⟩
  case round =>
    obtain ⟨k, hk, rfl, hB⟩ := hrel
    by_cases hlt : k < n
    · have c0 : wr.cell? ⟨b, off + k * 2, none⟩ = some (.int .i64 (f k).1) := ((hf.below hB hf.1).2 k hlt).1
      have c1 : wr.cell? ⟨b, off + k * 2 + 1, none⟩ = some (.int .i64 (f k).2) := ((hf.below hB hf.1).2 k hlt).2
      have d0 : wr.cell? ⟨b', off' + k * 2, none⟩ = some (.int .i64 (f k).1) := ((hg.below hB hg.1).2 k hlt).1
      have d1 : wr.cell? ⟨b', off' + k * 2 + 1, none⟩ = some (.int .i64 (f k).2) := ((hg.below hB hg.1).2 k hlt).2
      have hsz := hB.size
      have hli : (k : Int) < (n : Int) := by omega
      go_wp2_with fail
      go_region_held (fun w' => w'.cell? ⟨b, off + k * 2, none⟩ = some (.int .i64 (f k).1) ∧ w'.cell? ⟨b, off + k * 2 + 1, none⟩ = some (.int .i64 (f k).2) ∧ w'.cell? ⟨b', off' + k * 2, none⟩ = some (.int .i64 (f k).1) ∧ w'.cell? ⟨b', off' + k * 2 + 1, none⟩ = some (.int .i64 (f k).2)) (first | (simp [*]; done) | (refine ⟨?_, ?_, ?_, ?_⟩ <;> (rw [hb.cell (by first | (simp; omega) | omega)]; simp [*]; done))) (first | (go_at_call 50; refine (eqStride_same _ _ _).mono ?_; rintro e w' ⟨rfl, hb⟩; (have hb1 : b < wr.heap.size := Nat.lt_of_lt_of_le hf.1 hsz); (have hb2 : b' < wr.heap.size := Nat.lt_of_lt_of_le hg.1 hsz)))
      all_goals go_wp2_with fail
      all_goals go_roundw
      all_goals first | (case rel => exact ⟨k + 1, by omega, by go_num, (Below.drew hB).trans (hb.mono hsz)⟩) | skip
      all_goals first | (case measure => simp [intOf]; omega) | skip
    · go_wp2_with fail
      go_ret
      exact ⟨rfl, hB⟩
def rowObjStride (n : Nat) : Obj := .cells (madeCells #[.int .i64 0, .int .i64 0] (n * 2)) 36
theorem infoStride : (Try.prog.info? 36).map (fun i => (i.zero, i.size, i.bytes)) = some (some (.agg #[.int .i64 0, .int .i64 0]), 2, 16) := by kernel_rfl
theorem mk_rowStride (n : Nat) (h : n ≤ 1048576) (w : World) : (Instr.makeSlice 45 (.int .i64 (n : Int)) (.int .i64 (n : Int))).run Try.prog w = .ok (.slice (some ⟨w.heap.size, 0, none⟩) n n) (w.alloc (rowObjStride n)) := by
  obtain ⟨i, hi, hz⟩ := Option.map_eq_some_iff.1 infoStride
  simp only [Prod.mk.injEq] at hz
  obtain ⟨h1, h2, h3⟩ := hz
  have hr := run_make (P := Try.prog) w 45 36 i _ Try.underlying45 hi h1 .i64 .i64 n n (by omega) (Int.le_refl _) (by rw [h3]; omega) (by omega)
  simp only [Int.toNat_natCast, h2] at hr
  exact hr
theorem rowObj_isStride (w : World) (n : Nat) : (w.alloc (rowObjStride n)).rowIs w.heap.size 36 (n * 2) (fun _ => .int .i64 0) := by
  have h := World.rowIs_alloc w (madeCells #[.int .i64 0, .int .i64 0] (n * 2)) 36 (fun _ => .int .i64 0) (fun i hi => by
    rw [size_madeCells] at hi
    have : i % 2 = 0 ∨ i % 2 = 1 := by omega
    rcases this with h | h <;> simp [madeCells, hi, h])
  rw [size_madeCells] at h
  exact h
set_option maxHeartbeats 1000000 in
theorem toStrideS_some (b off n c : Nat) (f : Nat → Int × Int) (w : World) (hn : n ≤ 1048576) (hf : Prs w b off n f) :
    Calls Try.prog 20 #[.slice (some ⟨b, off, none⟩) n c] w fun e w' => e = .returned (.slice (some ⟨w.heap.size, 0, none⟩) n n) ∧ Prs w' w.heap.size 0 n f ∧ Below w.heap.size w w' := by
  have hmk := mk_rowStride n hn
  go_enter Try.func20, Try.ntmps20
  go_wp2_with fail
  clear hmk
  go_loopw [4] (fun i wr => ∃ k : Nat, k ≤ n ∧ i = .int .i64 k ∧ RowK wr w.heap.size 36 n k f ∧ Below w.heap.size w wr) (fun i _ => n - (intOf i).toNat)
  case atStart => exact ⟨0, Nat.zero_le _, rfl, ⟨_, rowObj_isStride w n, fun j hj => absurd hj (Nat.not_lt_zero _)⟩, (Below.refl _ _).alloc (Nat.le_refl _) _⟩
  case round =>
    obtain ⟨k, hk, rfl, hrow, hB⟩ := hrel
    by_cases hlt : k < n
    · have c0 : wr.cell? ⟨b, off + k * 2, none⟩ = some (.int .i64 (f k).1) := ((hf.below hB hf.1).2 k hlt).1
      have c1 : wr.cell? ⟨b, off + k * 2 + 1, none⟩ = some (.int .i64 (f k).2) := ((hf.below hB hf.1).2 k hlt).2
      have hli : (k : Int) < (n : Int) := by omega
      have hsz := hB.size
      have hwl : w.heap.size < wr.heap.size := (hrow.facts hlt).1
      go_wp2_with fail
      refine (toStride_any _ _ _).mono ?_
      rintro e w1 ⟨rfl, hb⟩
      have hrow1 := hrow.below hb hwl
      obtain ⟨l1, ⟨v1, e1⟩, ⟨v2, e2⟩, f1, f2⟩ := hrow1.facts hlt
      go_wp2_with fail
      go_roundw
      case rel => exact ⟨k + 1, by omega, by go_num, hrow1.step, ((hB.trans (hb.mono hsz)).setCell (Nat.le_refl _) _).setCell (Nat.le_refl _) _⟩
      case measure => simp [intOf]; omega
    · have hkn : k = n := by omega
      subst hkn
      obtain ⟨g, hr, hg⟩ := hrow
      have hli : ¬ (k : Int) < (k : Int) := by omega
      go_wp2_with fail
      go_ret
      exact ⟨rfl, row_prs hr hg, hB⟩
set_option maxHeartbeats 1000000 in
theorem toStrideS_empty (a : Option Addr) (c : Nat) (f : Nat → Int × Int) (w : World) :
    Calls Try.prog 20 #[.slice a 0 c] w fun e w' => e = .returned (.slice (some ⟨w.heap.size, 0, none⟩) 0 0) ∧ Prs w' w.heap.size 0 0 f ∧ Below w.heap.size w w' := by
  have hmk := mk_rowStride 0 (by omega)
  simp only [Int.ofNat_zero] at hmk
  go_enter Try.func20, Try.ntmps20
  go_wp2_with fail
  clear hmk
  go_loopw [4] (fun i wr => i = .int .i64 0 ∧ RowK wr w.heap.size 36 0 0 f ∧ Below w.heap.size w wr) (fun i _ => 0)
  case atStart => exact ⟨rfl, ⟨_, rowObj_isStride w 0, fun j hj => absurd hj (Nat.not_lt_zero _)⟩, (Below.refl _ _).alloc (Nat.le_refl _) _⟩
  case round =>
    obtain ⟨rfl, hrow, hB⟩ := hrel
    obtain ⟨g, hr, hg⟩ := hrow
    go_wp2_with fail
    go_ret
    exact ⟨rfl, row_prs hr hg, hB⟩
theorem toStrideS_any (a : Option Addr) (n c : Nat) (f : Nat → Int × Int) (w : World) (hn : n ≤ 1048576) (h : Src w a n f) :
    Calls Try.prog 20 #[.slice a n c] w fun e w' => e = .returned (.slice (some ⟨w.heap.size, 0, none⟩) n n) ∧ Prs w' w.heap.size 0 n f ∧ Below w.heap.size w w' := by
  rcases h with rfl | ⟨b, off, rfl, h2⟩
  · exact toStrideS_empty a c f w
  · exact toStrideS_some b off n c f w hn h2
end Go.Proofs.Ytlgpalhgpihgnaa
