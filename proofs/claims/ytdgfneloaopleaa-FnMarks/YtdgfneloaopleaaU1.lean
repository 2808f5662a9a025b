/- Contracts of impl.rowOf. -/
import Derived.Test.YtdgfneloaopleaaR0
import Derived.Deep.OwnRows
import Derived.WalkKit
import Derived.WalkSpells
import Derived.WalkLawsBesides
import Derived.Deep.RegionHeld
namespace Go.Proofs.Ytdgfneloaopleaa
open Go.RowKit
set_option linter.unusedVariables false
theorem infoPtT : (Try.prog.info? 94).map (fun i => (i.zero, i.size, i.bytes)) = some (some (.agg #[.int .i64 0, .int .i64 0]), 2, 16) := by kernel_rfl
theorem mk_ptT (n : Nat) (h : n ≤ 1048576) (w : World) : (Instr.makeSlice 64 (.int .i64 0) (.int .i64 (n : Int))).run Try.prog w = .ok (.slice (some ⟨w.heap.size, 0, none⟩) 0 n) (w.alloc (.cells (madeCells #[.int .i64 0, .int .i64 0] (n * 2)) 94)) := by
  obtain ⟨i, hi, hz⟩ := Option.map_eq_some_iff.1 infoPtT
  simp only [Prod.mk.injEq] at hz
  obtain ⟨h1, h2, h3⟩ := hz
  have hr := run_make (P := Try.prog) w 64 94 i _ Try.underlying64 hi h1 .i64 .i64 0 n (by omega) (by omega) (by rw [h3]; omega) (by omega)
  simp only [Int.toNat_natCast, Int.toNat_zero, h2] at hr
  exact hr
set_option maxHeartbeats 400000 in
theorem byTime_any (t c : Int) (w : World) :
    Calls Try.prog 42 #[.agg #[.int .i64 t, .int .i64 c]] w fun e w' => e = .returned (.agg #[.int .i64 t, .int .i64 c]) ∧ Below w.heap.size w w' := by
  go_enter Try.func42, Try.ntmps42
  go_wp2
  exact bodyPost_ret (v := .agg #[.int .i64 t, .int .i64 c]) (by simp (maxDischargeDepth := 6) [results, Try.results42, go_sem, *]) rfl ⟨rfl, by repeat (first | exact Below.refl _ _ | refine Below.drew ?_ | refine Below.alloc ?_ (by first | (simp; done) | (simp; omega) | omega) _ | refine Below.setCell ?_ (by first | (simp; done) | (simp; omega) | omega) _ | refine Below.trans ?_ (Below.mono (by assumption) (by first | (simp; done) | (simp; omega) | omega)))⟩
def plT (f : Nat → Int × Int) (k : Nat) : List (Int × Int) := (List.range k).map fun i => ((f i).1, (f i).2)
theorem plT_len (f : Nat → Int × Int) (k : Nat) : (plT f k).length = k := by simp [plT]
theorem plT_add (f : Nat → Int × Int) (k : Nat) : plT f (k + 1) = plT f k ++ [((f k).1, (f k).2)] := by
  simp only [plT]; rw [List.range_succ, List.map_append]; rfl
theorem plT_get (f : Nat → Int × Int) (k i : Nat) (hi : i < k) : (plT f k).getD i (0, 0) = ((f i).1, (f i).2) := by
  simp [plT, List.getD_eq_getElem?_getD, hi]
set_option maxHeartbeats 2000000 in
theorem rowOfT_any (b off m c : Nat) (f : Nat → Int × Int) (w : World) (hm : m ≤ 201) (hf : Prs w b off m f) :
    Calls Try.prog 41 #[.slice (some ⟨b, off, none⟩) m c, .func (.func 42) #[] #[]] w fun e w' => ∃ v, e = .returned v ∧ w'.ownsRow w.heap.size 94 2 v m (prs (plT f m)) ∧ Below w.heap.size w w' := by
  obtain ⟨i0, hi, hz0, hz1, hz2⟩ := info_parts infoPtT
  have hmk := mk_ptT m (by omega)
  have HF : Hid (Prs w b off m f) := hf
  have O0 : (w.alloc (.cells (madeCells #[.int .i64 0, .int .i64 0] (m * 2)) 94)).ownsRow w.heap.size 94 2 (.slice (some ⟨w.heap.size, 0, none⟩) 0 m) 0 [] := World.ownsRow_made w _ m (Nat.le_refl _) (by unfold maxLen; omega) (by rw [size_madeCells])
  have B0 := Below.alc w (.cells (madeCells #[.int .i64 0, .int .i64 0] (m * 2)) 94)
  clear hf
  go_enter Try.func41, Try.ntmps41
  go_wp2_with fail
  clear hmk
  generalize w.alloc (.cells (madeCells #[.int .i64 0, .int .i64 0] (m * 2)) 94) = v0 at *
  go_loopw [5, 13] (fun v i wr => ∃ k : Nat, k ≤ m ∧ i = .int .i64 k ∧ wr.ownsRow w.heap.size 94 2 v k (prs (plT f k)) ∧ Below w.heap.size w wr) (fun _ i _ => m - (intOf i).toNat)
  case atStart => exact ⟨0, Nat.zero_le _, rfl, O0, B0⟩
  case round =>
    obtain ⟨k, hk, rfl, O, B⟩ := hrel
    clear O0 B0
    by_cases hlt : k < m
    · have e0 : wr.cell? ⟨b, off + k * 2, none⟩ = some (.int .i64 (f k).1) := ((HF.out.below B HF.out.1).2 k hlt).1
      have e1 : wr.cell? ⟨b, off + k * 2 + 1, none⟩ = some (.int .i64 (f k).2) := ((HF.out.below B HF.out.1).2 k hlt).2
      have hli : (k : Int) < (m : Int) := by omega
      have LA := plT_add f k
      have A := Below.alc wr (.cells #[.int .i64 (f k).1, .int .i64 (f k).2] 42)
      have O1 := own_below O A
      have B1 := B.trans (A.mono B.size)
      clear A
      go_wp2_with fail
      refine (byTime_any _ _ _).mono ?_
      rintro e w7 ⟨rfl, hb⟩
      have O7 := own_below O1 hb
      have B7 := B1.trans (hb.mono B1.size)
      clear hb O1 B1 O B e0 e1
      have s7 : w.heap.size ≤ w7.heap.size := B7.size
      go_wp2_with (at_builtin; refine wpList_append_own _ rfl _ _ 64 rfl w.heap.size 94 i0 (.agg #[.int .i64 0, .int .i64 0]) 2 16 Try.underlying64 hi hz0 hz1 hz2 rfl (by decide) _ _ _ rfl (World.ownsRow.alloc O7 _) ⟨w7.heap.size, 0, none⟩ 1 1 [.int .i64 (f k).1, .int .i64 (f k).2] rfl rfl ?c1 ?c2 ?c3 ?c4 ?c5 ?_)
      case c1 => intro j u hj; exact pair_at w7 _ _ 94 j u hj
      case c2 => intro u hu; simp at hu; rcases hu with rfl | rfl <;> rfl
      case c3 => unfold maxLen; omega
      case c4 => omega
      case c5 => simp; omega
      · intro v' w9 hown' hgrow _
        have A9 := Below.alc w7 (.cells #[.int .i64 (f k).1, .int .i64 (f k).2] 94)
        have hsz : w.heap.size ≤ (w7.alloc (.cells #[.int .i64 (f k).1, .int .i64 (f k).2] 94)).heap.size := by simp; omega
        have G9 := grown_below (World.ownsRow.alloc O7 _) hgrow hsz
        have B9 := (B7.trans (A9.mono B7.size)).trans G9
        have R9 : w9.ownsRow w.heap.size 94 2 v' (k + 1) (prs (plT f (k + 1))) := by rw [LA, prs_add]; exact hown'
        clear hown' hgrow G9 A9 hsz O7 B7
        go_wp2
        go_roundw
        case rel => exact ⟨k + 1, by omega, by go_num, R9, B9⟩
        case measure => simp [intOf]; omega
    · have hkm : m = k := by omega
      subst hkm
      have hli : ¬ (m : Int) < (m : Int) := by omega
      go_wp2_with fail
      exact bodyPost_ret (v := u5) (by simp (maxDischargeDepth := 6) [results, Try.results41, go_sem, *]) rfl ⟨u5, rfl, O, B⟩
theorem infoPtC : (Try.prog.info? 103).map (fun i => (i.zero, i.size, i.bytes)) = some (some (.agg #[.int .i64 0, .int .i64 0]), 2, 16) := by kernel_rfl
theorem mk_ptC (n : Nat) (h : n ≤ 1048576) (w : World) : (Instr.makeSlice 75 (.int .i64 0) (.int .i64 (n : Int))).run Try.prog w = .ok (.slice (some ⟨w.heap.size, 0, none⟩) 0 n) (w.alloc (.cells (madeCells #[.int .i64 0, .int .i64 0] (n * 2)) 103)) := by
  obtain ⟨i, hi, hz⟩ := Option.map_eq_some_iff.1 infoPtC
  simp only [Prod.mk.injEq] at hz
  obtain ⟨h1, h2, h3⟩ := hz
  have hr := run_make (P := Try.prog) w 75 103 i _ Try.underlying75 hi h1 .i64 .i64 0 n (by omega) (by omega) (by rw [h3]; omega) (by omega)
  simp only [Int.toNat_natCast, Int.toNat_zero, h2] at hr
  exact hr
set_option maxHeartbeats 400000 in
theorem byCount_any (t c : Int) (w : World) :
    Calls Try.prog 53 #[.agg #[.int .i64 t, .int .i64 c]] w fun e w' => e = .returned (.agg #[.int .i64 c, .int .i64 t]) ∧ Below w.heap.size w w' := by
  go_enter Try.func53, Try.ntmps53
  go_wp2
  exact bodyPost_ret (v := .agg #[.int .i64 c, .int .i64 t]) (by simp (maxDischargeDepth := 6) [results, Try.results53, go_sem, *]) rfl ⟨rfl, by repeat (first | exact Below.refl _ _ | refine Below.drew ?_ | refine Below.alloc ?_ (by first | (simp; done) | (simp; omega) | omega) _ | refine Below.setCell ?_ (by first | (simp; done) | (simp; omega) | omega) _ | refine Below.trans ?_ (Below.mono (by assumption) (by first | (simp; done) | (simp; omega) | omega)))⟩
def plC (f : Nat → Int × Int) (k : Nat) : List (Int × Int) := (List.range k).map fun i => ((f i).2, (f i).1)
theorem plC_len (f : Nat → Int × Int) (k : Nat) : (plC f k).length = k := by simp [plC]
theorem plC_add (f : Nat → Int × Int) (k : Nat) : plC f (k + 1) = plC f k ++ [((f k).2, (f k).1)] := by
  simp only [plC]; rw [List.range_succ, List.map_append]; rfl
theorem plC_get (f : Nat → Int × Int) (k i : Nat) (hi : i < k) : (plC f k).getD i (0, 0) = ((f i).2, (f i).1) := by
  simp [plC, List.getD_eq_getElem?_getD, hi]
set_option maxHeartbeats 2000000 in
theorem rowOfC_any (b off m c : Nat) (f : Nat → Int × Int) (w : World) (hm : m ≤ 201) (hf : Prs w b off m f) :
    Calls Try.prog 52 #[.slice (some ⟨b, off, none⟩) m c, .func (.func 53) #[] #[]] w fun e w' => ∃ v, e = .returned v ∧ w'.ownsRow w.heap.size 103 2 v m (prs (plC f m)) ∧ Below w.heap.size w w' := by
  obtain ⟨i0, hi, hz0, hz1, hz2⟩ := info_parts infoPtC
  have hmk := mk_ptC m (by omega)
  have HF : Hid (Prs w b off m f) := hf
  have O0 : (w.alloc (.cells (madeCells #[.int .i64 0, .int .i64 0] (m * 2)) 103)).ownsRow w.heap.size 103 2 (.slice (some ⟨w.heap.size, 0, none⟩) 0 m) 0 [] := World.ownsRow_made w _ m (Nat.le_refl _) (by unfold maxLen; omega) (by rw [size_madeCells])
  have B0 := Below.alc w (.cells (madeCells #[.int .i64 0, .int .i64 0] (m * 2)) 103)
  clear hf
  go_enter Try.func52, Try.ntmps52
  go_wp2_with fail
  clear hmk
  generalize w.alloc (.cells (madeCells #[.int .i64 0, .int .i64 0] (m * 2)) 103) = v0 at *
  go_loopw [5, 13] (fun v i wr => ∃ k : Nat, k ≤ m ∧ i = .int .i64 k ∧ wr.ownsRow w.heap.size 103 2 v k (prs (plC f k)) ∧ Below w.heap.size w wr) (fun _ i _ => m - (intOf i).toNat)
  case atStart => exact ⟨0, Nat.zero_le _, rfl, O0, B0⟩
  case round =>
    obtain ⟨k, hk, rfl, O, B⟩ := hrel
    clear O0 B0
    by_cases hlt : k < m
    · have e0 : wr.cell? ⟨b, off + k * 2, none⟩ = some (.int .i64 (f k).1) := ((HF.out.below B HF.out.1).2 k hlt).1
      have e1 : wr.cell? ⟨b, off + k * 2 + 1, none⟩ = some (.int .i64 (f k).2) := ((HF.out.below B HF.out.1).2 k hlt).2
      have hli : (k : Int) < (m : Int) := by omega
      have LA := plC_add f k
      have A := Below.alc wr (.cells #[.int .i64 (f k).1, .int .i64 (f k).2] 42)
      have O1 := own_below O A
      have B1 := B.trans (A.mono B.size)
      clear A
      go_wp2_with fail
      refine (byCount_any _ _ _).mono ?_
      rintro e w7 ⟨rfl, hb⟩
      have O7 := own_below O1 hb
      have B7 := B1.trans (hb.mono B1.size)
      clear hb O1 B1 O B e0 e1
      have s7 : w.heap.size ≤ w7.heap.size := B7.size
      go_wp2_with (at_builtin; refine wpList_append_own _ rfl _ _ 75 rfl w.heap.size 103 i0 (.agg #[.int .i64 0, .int .i64 0]) 2 16 Try.underlying75 hi hz0 hz1 hz2 rfl (by decide) _ _ _ rfl (World.ownsRow.alloc O7 _) ⟨w7.heap.size, 0, none⟩ 1 1 [.int .i64 (f k).2, .int .i64 (f k).1] rfl rfl ?c1 ?c2 ?c3 ?c4 ?c5 ?_)
      case c1 => intro j u hj; exact pair_at w7 _ _ 103 j u hj
      case c2 => intro u hu; simp at hu; rcases hu with rfl | rfl <;> rfl
      case c3 => unfold maxLen; omega
      case c4 => omega
      case c5 => simp; omega
      · intro v' w9 hown' hgrow _
        have A9 := Below.alc w7 (.cells #[.int .i64 (f k).2, .int .i64 (f k).1] 103)
        have hsz : w.heap.size ≤ (w7.alloc (.cells #[.int .i64 (f k).2, .int .i64 (f k).1] 103)).heap.size := by simp; omega
        have G9 := grown_below (World.ownsRow.alloc O7 _) hgrow hsz
        have B9 := (B7.trans (A9.mono B7.size)).trans G9
        have R9 : w9.ownsRow w.heap.size 103 2 v' (k + 1) (prs (plC f (k + 1))) := by rw [LA, prs_add]; exact hown'
        clear hown' hgrow G9 A9 hsz O7 B7
        go_wp2
        go_roundw
        case rel => exact ⟨k + 1, by omega, by go_num, R9, B9⟩
        case measure => simp [intOf]; omega
    · have hkm : m = k := by omega
      subst hkm
      have hli : ¬ (m : Int) < (m : Int) := by omega
      go_wp2_with fail
      exact bodyPost_ret (v := u5) (by simp (maxDischargeDepth := 6) [results, Try.results52, go_sem, *]) rfl ⟨u5, rfl, O, B⟩
end Go.Proofs.Ytdgfneloaopleaa
