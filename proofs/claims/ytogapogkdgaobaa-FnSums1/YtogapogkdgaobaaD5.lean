/- What the draw of two intervals leaves. -/
import Derived.Test.YtogapogkdgaobaaD3
import Derived.Deep.RegionHeld
import Derived.RegionTactic
import Derived.WalkKit
import Derived.WalkSpells
import Derived.WalkLawsBesides
import Derived.Deep.QuietTactic
import Derived.BigQuiet
namespace Go.Proofs.Ytogapogkdgaobaa
open Go.RowKit
set_option linter.unusedVariables false
set_option maxHeartbeats 3200000 in
theorem l1DrawTwo_any (B p : Nat) (w : World) (hcur : CurOk w B p) :
    Calls Try.prog 37 #[.pointer (some ⟨p, 0, none⟩)] w fun e w' => ∃ x y z u : Int, e = .returned (.tuple #[.agg #[.int .i64 x, .int .i64 y], .agg #[.int .i64 z, .int .i64 u]]) ∧ CurOk w' B p ∧ But p w w' := by
  have hpl := hcur.lt
  have hpw : w.heap.size ≠ p := by omega
  have hpv : w.heap.size + 1 ≠ p := by omega
  have hBw : B ≤ w.heap.size := by omega
  have hBv : B ≤ w.heap.size + 1 := by omega
  have hwv : w.heap.size ≤ w.heap.size + 1 := by omega
  have A1 : Below w.heap.size w ((w.alloc (.cells #[.int .i64 0, .int .i64 0] 25)).alloc (.cells #[.int .i64 0, .int .i64 0] 25)) := ((Below.refl _ _).alloc (Nat.le_refl _) _).alloc (by simp) _
  have R0 : Box ((w.alloc (.cells #[.int .i64 0, .int .i64 0] 25)).alloc (.cells #[.int .i64 0, .int .i64 0] 25)) w.heap.size 0 0 := (Box.new w 0 0 25).alloc _
  have V0 : Box ((w.alloc (.cells #[.int .i64 0, .int .i64 0] 25)).alloc (.cells #[.int .i64 0, .int .i64 0] 25)) (w.heap.size + 1) 0 0 := by
    have := Box.new (w.alloc (.cells #[.int .i64 0, .int .i64 0] 25)) 0 0 25
    simpa using this
  go_enter Try.func37, Try.ntmps37
  go_wp2_with fail
  refine (l1DrawIval_any B p _ (by exact hcur.below A1)).mono ?_
  rintro e w1 ⟨x, y, rfl, w1c, w1b⟩
  have s1 : w.heap.size + 1 + 1 ≤ w1.heap.size := by have := w1b.2.2.2.1; simpa using this
  have b1 : But p w w1 := (But.of_below A1).trans w1b
  have R1 := R0.but w1b hpw
  have V1 := V0.but w1b hpv
  have q1 := w1c.lt
  have A2 : Below w1.heap.size w1 (w1.alloc (.cells #[.int .i64 x, .int .i64 y] 25)) := (Below.refl _ _).alloc (Nat.le_refl _) _
  have N1 : Box (w1.alloc (.cells #[.int .i64 x, .int .i64 y] 25)) w1.heap.size x y := Box.new w1 x y 25
  clear R0 V0 A1 w1b
  go_wp2_with fail
  refine (l1DrawIval_any B p _ (by exact w1c.below A2)).mono ?_
  rintro e w2 ⟨z, u, rfl, w2c, w2b⟩
  have hk1 : w1.heap.size ≠ p := by omega
  have R2 := (R1.below A2).but w2b hpw
  have V2 := (V1.below A2).but w2b hpv
  have N2 := N1.but w2b hk1
  have b2 : But p w w2 := (b1.alloc _).trans w2b
  have q2 := w2c.lt
  have hk2 : w2.heap.size ≠ p := by omega
  have A3 : Below w2.heap.size w2 (w2.alloc (.cells #[.int .i64 z, .int .i64 u] 25)) := (Below.refl _ _).alloc (Nat.le_refl _) _
  have M2 : Box (w2.alloc (.cells #[.int .i64 z, .int .i64 u] 25)) w2.heap.size z u := Box.new w2 z u 25
  have n12 : w1.heap.size < w2.heap.size := N2.1
  clear R1 V1 N1 w2b b1 A2 w1c
  go_wp2_with fail
  refine (l1Once_any B p 3 _ (by exact w2c.below A3)).mono ?_
  rintro e w3 ⟨o1, rfl, w3c, w3b⟩
  have R3 := (R2.below A3).but w3b hpw
  have V3 := (V2.below A3).but w3b hpv
  have N3 := (N2.below A3).but w3b hk1
  have M3 := M2.but w3b hk2
  have b3 : But p w w3 := (b2.alloc _).trans w3b
  clear R2 V2 N2 M2 w3b b2 A3 w2c
  cases o1
  · go_wp2_with fail
    refine (l1Once_any B p 2 _ w3c).mono ?_
    rintro e w4 ⟨o2, rfl, w4c, w4b⟩
    have R4 := R3.but w4b hpw
    have V4 := V3.but w4b hpv
    have A4 := N3.but w4b hk1
    have E4 := M3.but w4b hk2
    have b4 : But p w w4 := b3.trans w4b
    clear R3 V3 N3 M3 w4b b3 w3c
    have hq4 := w4c.lt
    obtain ⟨g1, g2, g3, g4, g5⟩ := R4
    obtain ⟨m1, m2, m3, m4, m5⟩ := V4
    obtain ⟨a1, a2, a3, a4, a5⟩ := A4
    obtain ⟨e1, e2, e3, e4, e5⟩ := E4
    have n1 : w.heap.size ≠ w1.heap.size := by omega
    have n2 : w.heap.size ≠ w2.heap.size := by omega
    have n3 : w.heap.size + 1 ≠ w1.heap.size := by omega
    have n4 : w.heap.size + 1 ≠ w2.heap.size := by omega
    have n5 : w1.heap.size ≠ w.heap.size := by omega
    have n6 : w2.heap.size ≠ w.heap.size := by omega
    have n7 : w1.heap.size ≠ w.heap.size + 1 := by omega
    have n8 : w2.heap.size ≠ w.heap.size + 1 := by omega
    cases o2
    · go_wp2_with fail
      go_region_held (fun w' => w'.cell? ⟨w1.heap.size, 0, none⟩ = some (.int .i64 x) ∧ w'.cell? ⟨w1.heap.size, 1, none⟩ = some (.int .i64 y) ∧ w'.cell? ⟨w2.heap.size, 0, none⟩ = some (.int .i64 z) ∧ w'.cell? ⟨w2.heap.size, 1, none⟩ = some (.int .i64 u)) (first | (simp [*]; done) | (simp (maxDischargeDepth := 6) [go_sem, *]; done) | (refine ⟨?_, ?_, ?_, ?_⟩ <;> (rw [World.cell?_setCell_far _ _ _ _ (by simp; omega), World.cell?_setCell_far _ _ _ _ (by simp; omega)]; (first | exact And.left ‹_› | exact And.left (And.right ‹_›) | exact And.left (And.right (And.right ‹_›)) | exact And.right (And.right (And.right ‹_›)))))) (fail)
      all_goals go_wp2
      all_goals exact bodyPost_ret (v := .tuple #[.agg #[.int .i64 x, .int .i64 y], .agg #[.int .i64 z, .int .i64 u]]) (by simp (maxDischargeDepth := 6) [results, Try.results37, go_sem, *]) rfl ⟨_, _, _, _, rfl, CurOk.drew ((((w4c.setOther hpw hBw _ _).setOther hpw hBw _ _).setOther hpv hBv _ _).setOther hpv hBv _ _), But.drew ((((b4.setNew (Nat.le_refl _) _ _).setNew (Nat.le_refl _) _ _).setNew hwv _ _).setNew hwv _ _)⟩
    · go_wp2_with fail
      go_region_held (fun w' => w'.cell? ⟨w1.heap.size, 0, none⟩ = some (.int .i64 x) ∧ w'.cell? ⟨w1.heap.size, 1, none⟩ = some (.int .i64 y) ∧ w'.cell? ⟨w2.heap.size, 0, none⟩ = some (.int .i64 z) ∧ w'.cell? ⟨w2.heap.size, 1, none⟩ = some (.int .i64 u)) (first | (simp [*]; done) | (simp (maxDischargeDepth := 6) [go_sem, *]; done) | (refine ⟨?_, ?_, ?_, ?_⟩ <;> (rw [World.cell?_setCell_far _ _ _ _ (by simp; omega), World.cell?_setCell_far _ _ _ _ (by simp; omega)]; (first | exact And.left ‹_› | exact And.left (And.right ‹_›) | exact And.left (And.right (And.right ‹_›)) | exact And.right (And.right (And.right ‹_›)))))) (fail)
      all_goals go_wp2
      all_goals exact bodyPost_ret (v := .tuple #[.agg #[.int .i64 z, .int .i64 u], .agg #[.int .i64 x, .int .i64 y]]) (by simp (maxDischargeDepth := 6) [results, Try.results37, go_sem, *]) rfl ⟨_, _, _, _, rfl, CurOk.drew ((((w4c.setOther hpw hBw _ _).setOther hpw hBw _ _).setOther hpv hBv _ _).setOther hpv hBv _ _), But.drew ((((b4.setNew (Nat.le_refl _) _ _).setNew (Nat.le_refl _) _ _).setNew hwv _ _).setNew hwv _ _)⟩
  · obtain ⟨a1, a2, a3, a4, a5⟩ := id N3
    obtain ⟨e1, e2, e3, e4, e5⟩ := id M3
    have s3 : w2.heap.size < w3.heap.size := M3.1
    have g0 := a2
    have g1 := a3
    have hB2 : B ≤ w2.heap.size := by omega
    have hw2 : w.heap.size ≤ w2.heap.size := by omega
    have n20 : w2.heap.size ≠ w.heap.size := by omega
    have n21 : w2.heap.size ≠ w.heap.size + 1 := by omega
    have n22 : w2.heap.size ≠ w1.heap.size := by omega
    have cc := w3c
    have bb := b3
    have R5 := R3
    have V5 := V3
    have N5 := N3
    have M5 := M3
    go_wp2_with fail
    go_region_held (fun w' => w'.cell? ⟨w1.heap.size, 0, none⟩ = some (.int .i64 x) ∧ w'.cell? ⟨w1.heap.size, 1, none⟩ = some (.int .i64 y)) (first | (simp [*]; done) | (simp (maxDischargeDepth := 6) [go_sem, *]; done)) (first | (go_at_call 47; refine (l1MaxD _ _ _).mono ?_; rintro e w' ⟨v, rfl, rfl⟩) | (go_at_call 46; refine (l1MinD _ _ _).mono ?_; rintro e w' ⟨v, rfl, rfl⟩) | (go_at_call 65; refine (l1Below_any B p _ _ (by exact cc)).mono ?_; rintro e w' ⟨v, rfl, _, _, _, _, cc, wb⟩; (have bb : But p w w' := bb.trans wb); (have R5 := R5.but wb hpw); (have V5 := V5.but wb hpv); (have N5 := N5.but wb hk1); (have M5 := M5.but wb hk2); (have g0 := N5.2.1); (have g1 := N5.2.2.1); (have f0 := M5.2.1); (have f1 := M5.2.2.1); (have f2 := M5.2.2.2.1); (have f3 := M5.2.2.2.2)))
    all_goals go_wp2_with fail
    refine (l1Once_any B p 2 _ (by exact (cc.setOther hk2 hB2 _ _).setOther hk2 hB2 _ _)).mono ?_
    rintro e w4 ⟨o2, rfl, w4c, w4b⟩
    have R4 := Box.but ((R5.setOther n20 _ _).setOther n20 _ _) w4b hpw
    have V4 := Box.but ((V5.setOther n21 _ _).setOther n21 _ _) w4b hpv
    have A4 := Box.but ((N5.setOther n22 _ _).setOther n22 _ _) w4b hk1
    have E5 := Box.but (Box.set M5 _ _) w4b hk2
    obtain ⟨zz, uu, E4⟩ : ∃ q r, Box w4 w2.heap.size q r := ⟨_, _, E5⟩
    have b4 : But p w w4 := ((bb.setNew hw2 _ _).setNew hw2 _ _).trans w4b
    clear E5 R5 V5 N5 M5 R3 V3 N3 M3 w4b b3 w3c cc bb g0 g1 f0 f1 f2 f3 a1 a2 a3 a4 a5 e1 e2 e3 e4 e5
    have hq4 := w4c.lt
    obtain ⟨g1, g2, g3, g4, g5⟩ := R4
    obtain ⟨m1, m2, m3, m4, m5⟩ := V4
    obtain ⟨a1, a2, a3, a4, a5⟩ := A4
    obtain ⟨e1, e2, e3, e4, e5⟩ := E4
    have n1 : w.heap.size ≠ w1.heap.size := by omega
    have n2 : w.heap.size ≠ w2.heap.size := by omega
    have n3 : w.heap.size + 1 ≠ w1.heap.size := by omega
    have n4 : w.heap.size + 1 ≠ w2.heap.size := by omega
    have n5 : w1.heap.size ≠ w.heap.size := by omega
    have n6 : w2.heap.size ≠ w.heap.size := by omega
    have n7 : w1.heap.size ≠ w.heap.size + 1 := by omega
    have n8 : w2.heap.size ≠ w.heap.size + 1 := by omega
    cases o2
    · go_wp2_with fail
      go_region_held (fun w' => w'.cell? ⟨w1.heap.size, 0, none⟩ = some (.int .i64 x) ∧ w'.cell? ⟨w1.heap.size, 1, none⟩ = some (.int .i64 y) ∧ w'.cell? ⟨w2.heap.size, 0, none⟩ = some (.int .i64 zz) ∧ w'.cell? ⟨w2.heap.size, 1, none⟩ = some (.int .i64 uu)) (first | (simp [*]; done) | (simp (maxDischargeDepth := 6) [go_sem, *]; done) | (refine ⟨?_, ?_, ?_, ?_⟩ <;> (rw [World.cell?_setCell_far _ _ _ _ (by simp; omega), World.cell?_setCell_far _ _ _ _ (by simp; omega)]; (first | exact And.left ‹_› | exact And.left (And.right ‹_›) | exact And.left (And.right (And.right ‹_›)) | exact And.right (And.right (And.right ‹_›)))))) (fail)
      all_goals go_wp2
      all_goals exact bodyPost_ret (v := .tuple #[.agg #[.int .i64 x, .int .i64 y], .agg #[.int .i64 zz, .int .i64 uu]]) (by simp (maxDischargeDepth := 6) [results, Try.results37, go_sem, *]) rfl ⟨_, _, _, _, rfl, CurOk.drew ((((w4c.setOther hpw hBw _ _).setOther hpw hBw _ _).setOther hpv hBv _ _).setOther hpv hBv _ _), But.drew ((((b4.setNew (Nat.le_refl _) _ _).setNew (Nat.le_refl _) _ _).setNew hwv _ _).setNew hwv _ _)⟩
    · go_wp2_with fail
      go_region_held (fun w' => w'.cell? ⟨w1.heap.size, 0, none⟩ = some (.int .i64 x) ∧ w'.cell? ⟨w1.heap.size, 1, none⟩ = some (.int .i64 y) ∧ w'.cell? ⟨w2.heap.size, 0, none⟩ = some (.int .i64 zz) ∧ w'.cell? ⟨w2.heap.size, 1, none⟩ = some (.int .i64 uu)) (first | (simp [*]; done) | (simp (maxDischargeDepth := 6) [go_sem, *]; done) | (refine ⟨?_, ?_, ?_, ?_⟩ <;> (rw [World.cell?_setCell_far _ _ _ _ (by simp; omega), World.cell?_setCell_far _ _ _ _ (by simp; omega)]; (first | exact And.left ‹_› | exact And.left (And.right ‹_›) | exact And.left (And.right (And.right ‹_›)) | exact And.right (And.right (And.right ‹_›)))))) (fail)
      all_goals go_wp2
      all_goals exact bodyPost_ret (v := .tuple #[.agg #[.int .i64 zz, .int .i64 uu], .agg #[.int .i64 x, .int .i64 y]]) (by simp (maxDischargeDepth := 6) [results, Try.results37, go_sem, *]) rfl ⟨_, _, _, _, rfl, CurOk.drew ((((w4c.setOther hpw hBw _ _).setOther hpw hBw _ _).setOther hpv hBv _ _).setOther hpv hBv _ _), But.drew ((((b4.setNew (Nat.le_refl _) _ _).setNew (Nat.le_refl _) _ _).setNew hwv _ _).setNew hwv _ _)⟩
end Go.Proofs.Ytogapogkdgaobaa
