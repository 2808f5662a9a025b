/- spec.MeetAll where all intervals are such. -/
import Derived.Test.YtogapogkdgaobaaS3
import Derived.Deep.DeepCutAuto
import Derived.Deep.OwnRows
import Derived.Test.YtogapogkdgaobaaW4
import Derived.WalkKit
import Derived.WalkSpells
import Derived.WalkLawsBesides
import Derived.Deep.RegionHeld
namespace Go.Proofs.Ytogapogkdgaobaa
open Go.RowKit
set_option linter.unusedVariables false
set_option maxHeartbeats 3200000 in
theorem specMeetAll_good (b off n c : Nat) (f : Nat → Int × Int) (w : World) (h1 : 1 ≤ n) (hn : n ≤ 64) (hf : Prs w b off n f) (ha : allOk f n = true) :
    Calls Try.prog 27 #[.slice (some ⟨b, off, none⟩) n c] w fun e w' => e = .returned (.tuple #[.agg #[.int .i64 (acc meetB imx imn f (n - 1)).2.1, .int .i64 (acc meetB imx imn f (n - 1)).2.2], .bool (acc meetB imx imn f (n - 1)).1]) ∧ Below w.heap.size w w' := by
  have hne : ((n : Int) == 0) = false := by rw [beq_eq_false_iff_ne]; omega
  have hn0 : (0 : Int) < (n : Int) := by omega
  have hbw : b < w.heap.size := hf.1
  go_enter Try.func27, Try.ntmps27
  go_wp2_with fail
  refine (l1All_any _ _ _ _ f _ hn (by exact hf.below ((Below.refl _ _).alloc (Nat.le_refl _) _) hf.1)).mono ?_
  rintro e w1 ⟨rfl, hb⟩
  have s1 : w.heap.size + 1 ≤ w1.heap.size := by have := hb.size; simpa using this
  have r0 : w1.cell? ⟨w.heap.size, 0, none⟩ = some (.int .i64 0) := by rw [hb.cell (by simp)]; simp [go_sem]
  have r1 : w1.cell? ⟨w.heap.size, 1, none⟩ = some (.int .i64 0) := by rw [hb.cell (by simp)]; simp [go_sem]
  have q0 : w1.frozen? ⟨w.heap.size, 0, none⟩ = false := by rw [hb.frozen (by simp)]; simp [go_sem]
  have q1 : w1.frozen? ⟨w.heap.size, 1, none⟩ = false := by rw [hb.frozen (by simp)]; simp [go_sem]
  have hw1 : Below w.heap.size w w1 := by repeat (first | exact Below.refl _ _ | refine Below.drew ?_ | refine Below.alloc ?_ (by first | (simp; done) | (simp; omega) | omega) _ | refine Below.setCell ?_ (by first | (simp; done) | (simp; omega) | omega) _ | refine Below.trans ?_ (Below.mono (by assumption) (by first | (simp; done) | (simp; omega) | omega)))
  have hf1 : Prs w1 b off n f := hf.below hw1 hf.1
  have l0 : w1.cell? ⟨b, off, none⟩ = some (.int .i64 (f 0).1) := by have := (hf1.2 0 (by omega)).1; simpa using this
  have l1 : w1.cell? ⟨b, off + 1, none⟩ = some (.int .i64 (f 0).2) := by have := (hf1.2 0 (by omega)).2; simpa using this
  have HA : Hid (allOk f n = true) := ha
  have hall := ha
  have hf0 : Hid (Prs w1 b off n f) := hf1
  have bw1 : b < w1.heap.size := by omega
  clear hb hf
  go_wp2_with fail
  clear ha hall
  go_loopw [5] (fun i wr => ∃ k : Nat, ∃ x y : Int, 1 ≤ k ∧ k ≤ n ∧ i = .int .i64 k ∧ acc meetB imx imn f (k - 1) = (true, x, y) ∧ wr.cell? ⟨w1.heap.size, 0, none⟩ = some (.int .i64 x) ∧ wr.cell? ⟨w1.heap.size, 1, none⟩ = some (.int .i64 y) ∧ wr.frozen? ⟨w1.heap.size, 0, none⟩ = false ∧ wr.frozen? ⟨w1.heap.size, 1, none⟩ = false ∧ w1.heap.size < wr.heap.size ∧ Below w1.heap.size w1 wr) (fun i _ => n - (intOf i).toNat)
  case atStart => exact ⟨1, (f 0).1, (f 0).2, Nat.le_refl _, h1, rfl, acc_first h1 HA.out, by first | (simp; done) | (simp (maxDischargeDepth := 6) [go_sem, *]; done) | (simp; omega) | omega, by first | (simp; done) | (simp (maxDischargeDepth := 6) [go_sem, *]; done) | (simp; omega) | omega, by first | (simp; done) | (simp (maxDischargeDepth := 6) [go_sem, *]; done) | (simp; omega) | omega, by first | (simp; done) | (simp (maxDischargeDepth := 6) [go_sem, *]; done) | (simp; omega) | omega, by first | (simp; done) | (simp (maxDischargeDepth := 6) [go_sem, *]; done) | (simp; omega) | omega, by repeat (first | exact Below.refl _ _ | refine Below.drew ?_ | refine Below.alloc ?_ (by first | (simp; done) | (simp; omega) | omega) _ | refine Below.setCell ?_ (by first | (simp; done) | (simp; omega) | omega) _ | refine Below.trans ?_ (Below.mono (by assumption) (by first | (simp; done) | (simp; omega) | omega)))⟩
  case round =>
    obtain ⟨k, x, y, hk1, hk, rfl, hacc, o0, o1, p0, p1, hsz, hB⟩ := hrel
    have HC : Hid (acc meetB imx imn f (k - 1) = (true, x, y)) := hacc
    have t0 : wr.cell? ⟨w.heap.size, 0, none⟩ = some (.int .i64 0) := by rw [hB.cell (by first | (simp; done) | (simp; omega))]; exact r0
    have t1 : wr.cell? ⟨w.heap.size, 1, none⟩ = some (.int .i64 0) := by rw [hB.cell (by first | (simp; done) | (simp; omega))]; exact r1
    have u0 : wr.frozen? ⟨w.heap.size, 0, none⟩ = false := by rw [hB.frozen (by first | (simp; done) | (simp; omega))]; exact q0
    have u1 : wr.frozen? ⟨w.heap.size, 1, none⟩ = false := by rw [hB.frozen (by first | (simp; done) | (simp; omega))]; exact q1
    have hsw : w.heap.size < wr.heap.size := by omega
    clear hacc
    by_cases hlt : k < n
    · have c0 : wr.cell? ⟨b, off + k * 2, none⟩ = some (.int .i64 (f k).1) := ((hf0.out.below hB bw1).2 k hlt).1
      have c1 : wr.cell? ⟨b, off + k * 2 + 1, none⟩ = some (.int .i64 (f k).2) := ((hf0.out.below hB bw1).2 k hlt).2
      have hli : (k : Int) < (n : Int) := by omega
      have bwr : b < wr.heap.size := by omega
      have g0 := o0
      have g1 := o1
      have g2 := c0
      have g3 := c1
      have z0 := p0
      have z1 := p1
      go_wp2_with fail
      go_cut [6, 7] (fun s6 s7 wx => ∃ j : Nat, s6 = .pointer (some ⟨j, 0, none⟩) ∧ s7 = .bool (meetB x y (f k).1 (f k).2) ∧ wx.cell? ⟨j, 0, none⟩ = some (.int .i64 (sel (meetB x y (f k).1 (f k).2) (imx x (f k).1))) ∧ wx.cell? ⟨j, 1, none⟩ = some (.int .i64 (sel (meetB x y (f k).1 (f k).2) (imn y (f k).2))) ∧ wx.cell? ⟨w1.heap.size, 0, none⟩ = some (.int .i64 x) ∧ wx.cell? ⟨w1.heap.size, 1, none⟩ = some (.int .i64 y) ∧ wx.frozen? ⟨w1.heap.size, 0, none⟩ = false ∧ wx.frozen? ⟨w1.heap.size, 1, none⟩ = false ∧ w1.heap.size < wx.heap.size ∧ Below w1.heap.size w1 wx)
      case first =>
        go_region_held (fun w' => w'.cell? ⟨w1.heap.size, 0, none⟩ = some (.int .i64 x) ∧ w'.cell? ⟨w1.heap.size, 1, none⟩ = some (.int .i64 y) ∧ w'.cell? ⟨b, off + k * 2, none⟩ = some (.int .i64 (f k).1) ∧ w'.cell? ⟨b, off + k * 2 + 1, none⟩ = some (.int .i64 (f k).2)) (first | (simp (maxDischargeDepth := 6) [go_sem, *]; done) | (refine ⟨?_, ?_, ?_, ?_⟩ <;> (first | (first | exact g0 | (rw [World.cell?_alloc_lt _ _ _ (by first | (simp; done) | (simp; omega))]; exact g0) | (rw [World.cell?_drew, World.cell?_alloc_lt _ _ _ (by first | (simp; done) | (simp; omega))]; exact g0) | (rw [World.cell?_setCell_far _ _ _ _ (by first | (simp; done) | (simp; omega)), World.cell?_setCell_far _ _ _ _ (by first | (simp; done) | (simp; omega))]; exact g0)) | (first | exact g1 | (rw [World.cell?_alloc_lt _ _ _ (by first | (simp; done) | (simp; omega))]; exact g1) | (rw [World.cell?_drew, World.cell?_alloc_lt _ _ _ (by first | (simp; done) | (simp; omega))]; exact g1) | (rw [World.cell?_setCell_far _ _ _ _ (by first | (simp; done) | (simp; omega)), World.cell?_setCell_far _ _ _ _ (by first | (simp; done) | (simp; omega))]; exact g1)) | (first | exact g2 | (rw [World.cell?_alloc_lt _ _ _ (by first | (simp; done) | (simp; omega))]; exact g2) | (rw [World.cell?_drew, World.cell?_alloc_lt _ _ _ (by first | (simp; done) | (simp; omega))]; exact g2) | (rw [World.cell?_setCell_far _ _ _ _ (by first | (simp; done) | (simp; omega)), World.cell?_setCell_far _ _ _ _ (by first | (simp; done) | (simp; omega))]; exact g2)) | (first | exact g3 | (rw [World.cell?_alloc_lt _ _ _ (by first | (simp; done) | (simp; omega))]; exact g3) | (rw [World.cell?_drew, World.cell?_alloc_lt _ _ _ (by first | (simp; done) | (simp; omega))]; exact g3) | (rw [World.cell?_setCell_far _ _ _ _ (by first | (simp; done) | (simp; omega)), World.cell?_setCell_far _ _ _ _ (by first | (simp; done) | (simp; omega))]; exact g3))))) (first | (go_at_call 51; refine (specMeet_any _ _ _ _ _).mono ?_; rintro e w' ⟨rfl, hb⟩; obtain ⟨hc, hf⟩ := bcell hb; have hz := hb.size; (try simp at hz); (have hz0 : w1.heap.size < w'.heap.size := by omega); (have hz1 : b < w'.heap.size := by omega); (have hz2 : wr.heap.size ≤ w'.heap.size := by omega); (try (have hz3 : wr.heap.size < w'.heap.size := by omega)); (have g0 : w'.cell? ⟨w1.heap.size, 0, none⟩ = some (.int .i64 x) := by rw [hb.cell (by first | (simp; done) | (simp; omega))]; first | exact g0 | (rw [World.cell?_alloc_lt _ _ _ (by first | (simp; done) | (simp; omega))]; exact g0) | (rw [World.cell?_drew, World.cell?_alloc_lt _ _ _ (by first | (simp; done) | (simp; omega))]; exact g0) | (rw [World.cell?_setCell_far _ _ _ _ (by first | (simp; done) | (simp; omega)), World.cell?_setCell_far _ _ _ _ (by first | (simp; done) | (simp; omega))]; exact g0)); (have g1 : w'.cell? ⟨w1.heap.size, 1, none⟩ = some (.int .i64 y) := by rw [hb.cell (by first | (simp; done) | (simp; omega))]; first | exact g1 | (rw [World.cell?_alloc_lt _ _ _ (by first | (simp; done) | (simp; omega))]; exact g1) | (rw [World.cell?_drew, World.cell?_alloc_lt _ _ _ (by first | (simp; done) | (simp; omega))]; exact g1) | (rw [World.cell?_setCell_far _ _ _ _ (by first | (simp; done) | (simp; omega)), World.cell?_setCell_far _ _ _ _ (by first | (simp; done) | (simp; omega))]; exact g1)); (have g2 : w'.cell? ⟨b, off + k * 2, none⟩ = some (.int .i64 (f k).1) := by rw [hb.cell (by first | (simp; done) | (simp; omega))]; first | exact g2 | (rw [World.cell?_alloc_lt _ _ _ (by first | (simp; done) | (simp; omega))]; exact g2) | (rw [World.cell?_drew, World.cell?_alloc_lt _ _ _ (by first | (simp; done) | (simp; omega))]; exact g2) | (rw [World.cell?_setCell_far _ _ _ _ (by first | (simp; done) | (simp; omega)), World.cell?_setCell_far _ _ _ _ (by first | (simp; done) | (simp; omega))]; exact g2)); (have g3 : w'.cell? ⟨b, off + k * 2 + 1, none⟩ = some (.int .i64 (f k).2) := by rw [hb.cell (by first | (simp; done) | (simp; omega))]; first | exact g3 | (rw [World.cell?_alloc_lt _ _ _ (by first | (simp; done) | (simp; omega))]; exact g3) | (rw [World.cell?_drew, World.cell?_alloc_lt _ _ _ (by first | (simp; done) | (simp; omega))]; exact g3) | (rw [World.cell?_setCell_far _ _ _ _ (by first | (simp; done) | (simp; omega)), World.cell?_setCell_far _ _ _ _ (by first | (simp; done) | (simp; omega))]; exact g3)); (have z0 : w'.frozen? ⟨w1.heap.size, 0, none⟩ = false := by rw [hb.frozen (by first | (simp; done) | (simp; omega))]; first | exact z0 | (rw [World.frozen?_alloc_old _ _ _ (by first | (simp; done) | (simp; omega))]; exact z0) | (rw [World.frozen?_drew, World.frozen?_alloc_old _ _ _ (by first | (simp; done) | (simp; omega))]; exact z0) | (simp (maxDischargeDepth := 6) [go_sem, *]; done)); (have z1 : w'.frozen? ⟨w1.heap.size, 1, none⟩ = false := by rw [hb.frozen (by first | (simp; done) | (simp; omega))]; first | exact z1 | (rw [World.frozen?_alloc_old _ _ _ (by first | (simp; done) | (simp; omega))]; exact z1) | (rw [World.frozen?_drew, World.frozen?_alloc_old _ _ _ (by first | (simp; done) | (simp; omega))]; exact z1) | (simp (maxDischargeDepth := 6) [go_sem, *]; done))))
        all_goals go_wp2_with fail
        all_goals go_meet
        all_goals case rel => exact ⟨_, rfl, rfl, by first | (simp; done) | (simp (maxDischargeDepth := 6) [go_sem, *]; done) | (simp; omega) | omega, by first | (simp; done) | (simp (maxDischargeDepth := 6) [go_sem, *]; done) | (simp; omega) | omega, by first | (simp; done) | (simp (maxDischargeDepth := 6) [go_sem, *]; done) | (simp; omega) | omega, by first | (simp; done) | (simp (maxDischargeDepth := 6) [go_sem, *]; done) | (simp; omega) | omega, by first | exact z0 | (rw [World.frozen?_alloc_old _ _ _ (by first | (simp; done) | (simp; omega))]; exact z0) | (rw [World.frozen?_drew, World.frozen?_alloc_old _ _ _ (by first | (simp; done) | (simp; omega))]; exact z0) | (simp (maxDischargeDepth := 6) [go_sem, *]; done), by first | exact z1 | (rw [World.frozen?_alloc_old _ _ _ (by first | (simp; done) | (simp; omega))]; exact z1) | (rw [World.frozen?_drew, World.frozen?_alloc_old _ _ _ (by first | (simp; done) | (simp; omega))]; exact z1) | (simp (maxDischargeDepth := 6) [go_sem, *]; done), by first | (simp; done) | (simp (maxDischargeDepth := 6) [go_sem, *]; done) | (simp; omega) | omega, by repeat (first | exact Below.refl _ _ | refine Below.drew ?_ | refine Below.alloc ?_ (by first | (simp; done) | (simp; omega) | omega) _ | refine Below.setCell ?_ (by first | (simp; done) | (simp; omega) | omega) _ | refine Below.trans ?_ (Below.mono (by assumption) (by first | (simp; done) | (simp; omega) | omega)))⟩
      case rest =>
        obtain ⟨j, rfl, rfl, j0, j1, o0', o1', p0', p1', hsz', hB'⟩ := hcut
        have v0 : wc.cell? ⟨w.heap.size, 0, none⟩ = some (.int .i64 0) := by rw [hB'.cell (by first | (simp; done) | (simp; omega))]; exact r0
        have v1 : wc.cell? ⟨w.heap.size, 1, none⟩ = some (.int .i64 0) := by rw [hB'.cell (by first | (simp; done) | (simp; omega))]; exact r1
        have x0 : wc.frozen? ⟨w.heap.size, 0, none⟩ = false := by rw [hB'.frozen (by first | (simp; done) | (simp; omega))]; exact q0
        have x1 : wc.frozen? ⟨w.heap.size, 1, none⟩ = false := by rw [hB'.frozen (by first | (simp; done) | (simp; omega))]; exact q1
        have HS : Hid (acc meetB imx imn f k = ((meetB x y (f k).1 (f k).2), sel (meetB x y (f k).1 (f k).2) (imx x (f k).1), sel (meetB x y (f k).1 (f k).2) (imn y (f k).2))) := by
          have := acc_step HC.out
          rw [show k - 1 + 1 = k by omega] at this
          exact this
        clear t0 t1 u0 u1 o0 o1 p0 p1 c0 c1 g0 g1 g2 g3 z0 z1 hB
        cases hM : (meetB x y (f k).1 (f k).2)
        · have HR : Hid (acc meetB imx imn f (n - 1) = (false, 0, 0)) := acc_zero (acc_no (k := k) (by rw [HS.out]; exact hM) _ (by omega))
          rw [hM] at j0 j1
          go_wp2_with fail
          exact bodyPost_ret (v := .tuple #[.agg #[.int .i64 0, .int .i64 0], .bool false]) (by simp (maxDischargeDepth := 6) [results, Try.results27, go_sem, *]) rfl ⟨by rw [HR.out], by repeat (first | exact Below.refl _ _ | refine Below.drew ?_ | refine Below.alloc ?_ (by first | (simp; done) | (simp; omega) | omega) _ | refine Below.setCell ?_ (by first | (simp; done) | (simp; omega) | omega) _ | refine Below.trans ?_ (Below.mono (by assumption) (by first | (simp; done) | (simp; omega) | omega)))⟩
        · rw [hM] at j0 j1
          rw [sel_t rfl] at j0 j1
          have HS2 : Hid (acc meetB imx imn f (k + 1 - 1) = (true, imx x (f k).1, imn y (f k).2)) := by
            have := HS.out
            rw [hM, sel_t rfl, sel_t rfl] at this
            exact this
          go_wp2_with fail
          go_roundw
          case rel => exact ⟨k + 1, imx x (f k).1, imn y (f k).2, by omega, by omega, by go_num, HS2.out, by first | (simp; done) | (simp (maxDischargeDepth := 6) [go_sem, *]; done) | (simp; omega) | omega, by first | (simp; done) | (simp (maxDischargeDepth := 6) [go_sem, *]; done) | (simp; omega) | omega, by first | (simp; done) | (simp (maxDischargeDepth := 6) [go_sem, *]; done) | (simp; omega) | omega, by first | (simp; done) | (simp (maxDischargeDepth := 6) [go_sem, *]; done) | (simp; omega) | omega, by first | (simp; done) | (simp (maxDischargeDepth := 6) [go_sem, *]; done) | (simp; omega) | omega, by repeat (first | exact Below.refl _ _ | refine Below.drew ?_ | refine Below.alloc ?_ (by first | (simp; done) | (simp; omega) | omega) _ | refine Below.setCell ?_ (by first | (simp; done) | (simp; omega) | omega) _ | refine Below.trans ?_ (Below.mono (by assumption) (by first | (simp; done) | (simp; omega) | omega)))⟩
          case measure => simp [intOf]; omega
    · have HR : Hid (acc meetB imx imn f (n - 1) = (true, x, y)) := by
        have e : k - 1 = n - 1 := by omega
        rw [← e]; exact HC.out
      have hli : ¬ (k : Int) < (n : Int) := by omega
      go_wp2_with fail
      exact bodyPost_ret (v := .tuple #[.agg #[.int .i64 x, .int .i64 y], .bool true]) (by simp (maxDischargeDepth := 6) [results, Try.results27, go_sem, *]) rfl ⟨by rw [HR.out], by repeat (first | exact Below.refl _ _ | refine Below.drew ?_ | refine Below.alloc ?_ (by first | (simp; done) | (simp; omega) | omega) _ | refine Below.setCell ?_ (by first | (simp; done) | (simp; omega) | omega) _ | refine Below.trans ?_ (Below.mono (by assumption) (by first | (simp; done) | (simp; omega) | omega)))⟩
end Go.Proofs.Ytogapogkdgaobaa
