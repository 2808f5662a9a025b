/- What the draws leave: times, intervals, the new cursor. -/
import Derived.Test.YtddjiamollfplaaGreatDoorML1
namespace Go.Proofs.YtddjiamollfplaaGreatDoor
open Go.RowKit
set_option linter.unusedVariables false
theorem pickLit (B p : Nat) (w : World) (L : List Int) (hcur : CurOk w B p) (h0 : 0 < L.length) (h1 : L.length ≤ 100) :
 Calls Tryz.prog 79 #[.pointer (some ⟨p, 0, none⟩), .slice (some ⟨w.heap.size, 0, none⟩) L.length L.length] (w.alloc (.cells (L.map (Value.int .i64)).toArray 3)) fun e w' => ∃ v : Int, e = .returned (.int .i64 v) ∧ CurOk w' B p ∧ But p w w' := by
 have hb : Below w.heap.size w (w.alloc (.cells (L.map (Value.int .i64)).toArray 3)) := (Below.refl _ _).alloc (Nat.le_refl _) _
 have hl := hcur.lt
 refine (l1PickInt_any B p w.heap.size 0 L.length L.length _ (hcur.below hb) h0 h1 (by simp) (by omega) (fun j hj => ⟨L[j], by simp [hj]⟩)).mono ?_
 rintro e w' ⟨j, v, hj, _, rfl, hc, hw⟩
 exact ⟨v, rfl, hc, (But.of_below hb).trans hw⟩
set_option maxHeartbeats 1000000 in
theorem l1DrawTime_any (B p : Nat) (w : World) (hcur : CurOk w B p) :
 Calls Tryz.prog 118 #[.pointer (some ⟨p, 0, none⟩)] w fun e w' => ∃ v : Int, e = .returned (.int .i64 v) ∧ CurOk w' B p ∧ But p w w' := by
 go_enter Tryz.func118, Tryz.ntmps118
 go_wp2_with fail
 refine (l1Below_any B p 12 _ hcur).mono ?_; rintro e w1 ⟨x, rfl, xl, xh, xp, xz, w1c, w1b⟩
 clear xp xz
 cases hx0 : (x == 0)
 ·cases hx1 : (x == 1)
  ·go_wp2_with fail
   refine (l1Below_any B p 120 _ w1c).mono ?_; rintro e w2 ⟨y, rfl, yl, yh, yp, yz, w2c, w2b⟩
   clear yp yz
   go_wp2_with fail
   go_ret
   exact ⟨_, rfl, w2c, w1b.trans w2b⟩
  ·go_wp2_with fail
   refine (l1Below_any B p 1000000000 _ w1c).mono ?_; rintro e w2 ⟨y, rfl, yl, yh, yp, yz, w2c, w2b⟩
   clear yp yz
   go_wp2_with fail
   have hp := pickLit B p w2 [1, -1, 900] w2c (by decide) (by decide); simp only [List.map_cons, List.map_nil, List.length_cons, List.length_nil, Nat.zero_add, Nat.reduceAdd] at hp; refine hp.mono ?_; clear hp; rintro e w3 ⟨v, rfl, w3c, w3b⟩
   go_wp2_with fail
   go_ret
   exact ⟨_, rfl, w3c, (w1b.trans w2b).trans w3b⟩
 ·go_wp2_with fail
  have hp := pickLit B p w1 [-1000000000000, 1000000000000, 999999999999, -999999999999, 0] w1c (by decide) (by decide); simp only [List.map_cons, List.map_nil, List.length_cons, List.length_nil, Nat.zero_add, Nat.reduceAdd] at hp; refine hp.mono ?_; clear hp; rintro e w3 ⟨v, rfl, w3c, w3b⟩
  go_wp2_with fail
  go_ret
  exact ⟨_, rfl, w3c, w1b.trans w3b⟩
set_option maxHeartbeats 400000 in
theorem l1MinD (x y : Int) (w : World) :
 Calls Tryz.prog 71 #[.int .i64 x, .int .i64 y] w fun e w' => ∃ v : Int, e = .returned (.int .i64 v) ∧ w = w' := by
 go_enter Tryz.func71, Tryz.ntmps71
 go_wp2
 all_goals go_ret
 all_goals exact ⟨_, rfl, rfl⟩
theorem CurOk.setOther {w : World} {B p : Nat} (h : CurOk w B p) {k : Nat} (hk : k ≠ p) (hB : B ≤ k) (o : Nat) (u : Value) : CurOk (w.setCell ⟨k, o, none⟩ u) B p := by
 obtain ⟨a, n, c, i, hh, h0, h1, h2, f0, f1, f2, hi, hn, hc, hBp, hp⟩ := h
 have hne : ∀ q, (⟨k, o, none⟩ : Addr) ≠ ⟨p, q, none⟩ := fun q e => hk (congrArg Addr.block e)
 refine ⟨a, n, c, i, hh, ?_, ?_, ?_, by simpa using f0, by simpa using f1, by simpa using f2, hi, hn, hc.below ((Below.refl _ _).setCell hB _), hBp, by simpa using hp⟩
 ·rw [World.cell?_setCell_other _ _ _ _ (hne _)]; exact h0
 ·rw [World.cell?_setCell_other _ _ _ _ (hne _)]; exact h1
 ·rw [World.cell?_setCell_other _ _ _ _ (hne _)]; exact h2
theorem But.setNew {p : Nat} {a w : World} (h : But p a w) {k : Nat} (hk : a.heap.size ≤ k) (o : Nat) (u : Value) : But p a (w.setCell ⟨k, o, none⟩ u) :=
 ⟨h.1, h.2.1, h.2.2.1, by rw [World.size_setCell]; exact h.2.2.2.1, fun j hj hp => (Below.heap_setCell w ⟨k, o, none⟩ u j (by simp; omega)).trans (h.2.2.2.2 j hj hp)⟩
theorem But.alloc {p : Nat} {a w : World} (h : But p a w) (o : Obj) : But p a (w.alloc o) :=
 h.trans (But.of_below ((Below.refl _ _).alloc (Nat.le_refl _) _))
set_option maxHeartbeats 3200000 in
theorem l1DrawIval_any (B p : Nat) (w : World) (hcur : CurOk w B p) :
 Calls Tryz.prog 110 #[.pointer (some ⟨p, 0, none⟩)] w fun e w' => ∃ x y : Int, e = .returned (.agg #[.int .i64 x, .int .i64 y]) ∧ CurOk w' B p ∧ But p w w' := by
 have hpl := hcur.lt
 have hpw : w.heap.size ≠ p := by omega
 have A1 : Below w.heap.size w (w.alloc (.cells #[.int .i64 0, .int .i64 0] 137)) := (Below.refl _ _).alloc (Nat.le_refl _) _
 go_enter Tryz.func110, Tryz.ntmps110
 go_wp2_with fail
 refine (l1DrawTime_any B p _ (by exact hcur.below A1)).mono ?_
 rintro e w1 ⟨lo, rfl, w1c, w1b⟩
 have s1 : w.heap.size + 1 ≤ w1.heap.size := by have := w1b.2.2.2.1; simpa using this
 have r10 : w1.cell? ⟨w.heap.size, 0, none⟩ = some (.int .i64 0) := by rw [w1b.cell (by simp) hpw]; simp [go_sem]
 have r11 : w1.cell? ⟨w.heap.size, 1, none⟩ = some (.int .i64 0) := by rw [w1b.cell (by simp) hpw]; simp [go_sem]
 have q10 : w1.frozen? ⟨w.heap.size, 0, none⟩ = false := by rw [w1b.frozen (by simp) hpw]; simp [go_sem]
 have q11 : w1.frozen? ⟨w.heap.size, 1, none⟩ = false := by rw [w1b.frozen (by simp) hpw]; simp [go_sem]
 have b1 : But p w w1 := (But.of_below A1).trans w1b
 go_wp2_with fail
 refine (l1Below_any B p 60 _ w1c).mono ?_; rintro e w2 ⟨x, rfl, xl, xh, xp, xz, w2c, w2b⟩
 clear xp xz
 have s2 : w1.heap.size ≤ w2.heap.size := w2b.2.2.2.1
 have l2 : w.heap.size < w2.heap.size := by omega
 have r20 : w2.cell? ⟨w.heap.size, 0, none⟩ = some (.int .i64 0) := by rw [w2b.cell (by omega) hpw]; exact r10
 have r21 : w2.cell? ⟨w.heap.size, 1, none⟩ = some (.int .i64 0) := by rw [w2b.cell (by omega) hpw]; exact r11
 have q20 : w2.frozen? ⟨w.heap.size, 0, none⟩ = false := by rw [w2b.frozen (by omega) hpw]; exact q10
 have q21 : w2.frozen? ⟨w.heap.size, 1, none⟩ = false := by rw [w2b.frozen (by omega) hpw]; exact q11
 have b2 : But p w w2 := b1.trans w2b
 clear r10 r11 q10 q11
 go_wp2_with fail
 refine (l1MinD _ _ _).mono ?_
 rintro e w' ⟨hi, rfl, rfl⟩
 go_wp2_with fail
 have hpl2 := w2c.lt
 have A2 : Below w2.heap.size w2 (w2.alloc (.cells #[.int .i64 lo, .int .i64 hi] 137)) := (Below.refl _ _).alloc (Nat.le_refl _) _
 have hkp : w2.heap.size ≠ p := by omega
 refine (l1Below_any B p 30 _ (by exact w2c.below A2)).mono ?_
 rintro e w3 ⟨y, rfl, yl, yh, yp, yz, w3c, w3b⟩
 clear yp yz
 have s3 : w2.heap.size + 1 ≤ w3.heap.size := by have := w3b.2.2.2.1; simpa using this
 have l3 : w.heap.size < w3.heap.size := by omega
 have k3 : w2.heap.size < w3.heap.size := by omega
 have r30 : w3.cell? ⟨w.heap.size, 0, none⟩ = some (.int .i64 0) := by rw [w3b.cell (by simp; omega) hpw, World.cell?_alloc_lt _ _ _ (by simp; omega)]; exact r20
 have r31 : w3.cell? ⟨w.heap.size, 1, none⟩ = some (.int .i64 0) := by rw [w3b.cell (by simp; omega) hpw, World.cell?_alloc_lt _ _ _ (by simp; omega)]; exact r21
 have q30 : w3.frozen? ⟨w.heap.size, 0, none⟩ = false := by rw [w3b.frozen (by simp; omega) hpw, World.frozen?_alloc_old _ _ _ (by simp; omega)]; exact q20
 have q31 : w3.frozen? ⟨w.heap.size, 1, none⟩ = false := by rw [w3b.frozen (by simp; omega) hpw, World.frozen?_alloc_old _ _ _ (by simp; omega)]; exact q21
 have a30 : w3.cell? ⟨w2.heap.size, 0, none⟩ = some (.int .i64 lo) := by rw [w3b.cell (by simp) hkp]; simp [go_sem]
 have a31 : w3.cell? ⟨w2.heap.size, 1, none⟩ = some (.int .i64 hi) := by rw [w3b.cell (by simp) hkp]; simp [go_sem]
 have z30 : w3.frozen? ⟨w2.heap.size, 0, none⟩ = false := by rw [w3b.frozen (by simp) hkp]; simp [go_sem]
 have z31 : w3.frozen? ⟨w2.heap.size, 1, none⟩ = false := by rw [w3b.frozen (by simp) hkp]; simp [go_sem]
 have b3 : But p w w3 := (b2.alloc _).trans w3b
 have hwk : w.heap.size ≠ w2.heap.size := by omega
 have hBw : B ≤ w.heap.size := by omega
 have hBk : B ≤ w2.heap.size := by omega
 have hwk' : w.heap.size ≤ w2.heap.size := by omega
 clear r20 r21 q20 q21 w1b w2b w3b A1 A2 b1 b2 hcur w1c w2c
 cases hy0 : (y == 0)
 ·cases hy1 : (y == 1)
  ·cases hy2 : (y == 2)
   ·go_wp2_with fail
    exact bodyPost_ret (v := .agg #[.int .i64 lo, .int .i64 hi]) (by simp (maxDischargeDepth := 6) [results, Tryz.results110, go_sem, *]) rfl ⟨_, _, rfl, ((w3c.setOther hpw hBw _ _).setOther hpw hBw _ _), ((b3.setNew (Nat.le_refl _) _ _).setNew (Nat.le_refl _) _ _)⟩
   ·go_wp2_with fail
    have hp := pickLit B p w3 [-1000000000000, -1000000000001, -9223372036854775807] w3c (by decide) (by decide); simp only [List.map_cons, List.map_nil, List.length_cons, List.length_nil, Nat.zero_add, Nat.reduceAdd] at hp; refine hp.mono ?_; clear hp; rintro e w4 ⟨v, rfl, w4c, w4b⟩
    have s4 : w3.heap.size ≤ w4.heap.size := w4b.2.2.2.1; (have l4 : w.heap.size < w4.heap.size := by omega); (have k4 : w2.heap.size < w4.heap.size := by omega); (have r40 : w4.cell? ⟨w.heap.size, 0, none⟩ = some (.int .i64 0) := by rw [w4b.cell l3 hpw]; exact r30); (have r41 : w4.cell? ⟨w.heap.size, 1, none⟩ = some (.int .i64 0) := by rw [w4b.cell l3 hpw]; exact r31); (have q40 : w4.frozen? ⟨w.heap.size, 0, none⟩ = false := by rw [w4b.frozen l3 hpw]; exact q30); (have q41 : w4.frozen? ⟨w.heap.size, 1, none⟩ = false := by rw [w4b.frozen l3 hpw]; exact q31); (have a40 : w4.cell? ⟨w2.heap.size, 0, none⟩ = some (.int .i64 lo) := by rw [w4b.cell k3 hkp]; exact a30); (have a41 : w4.cell? ⟨w2.heap.size, 1, none⟩ = some (.int .i64 hi) := by rw [w4b.cell k3 hkp]; exact a31); (have z40 : w4.frozen? ⟨w2.heap.size, 0, none⟩ = false := by rw [w4b.frozen k3 hkp]; exact z30); (have z41 : w4.frozen? ⟨w2.heap.size, 1, none⟩ = false := by rw [w4b.frozen k3 hkp]; exact z31); (have b4 : But p w w4 := b3.trans w4b); clear r30 r31 q30 q31 a30 a31 z30 z31 w4b w3c b3
    go_wp2_with fail
    exact bodyPost_ret (v := .agg #[.int .i64 v, .int .i64 hi]) (by simp (maxDischargeDepth := 6) [results, Tryz.results110, go_sem, *]) rfl ⟨_, _, rfl, (((w4c.setOther hkp hBk _ _).setOther hpw hBw _ _).setOther hpw hBw _ _), (((b4.setNew hwk' _ _).setNew (Nat.le_refl _) _ _).setNew (Nat.le_refl _) _ _)⟩
  ·go_wp2_with fail
   have hp := pickLit B p w3 [1000000000000, 1000000000001, 9223372036854775807] w3c (by decide) (by decide); simp only [List.map_cons, List.map_nil, List.length_cons, List.length_nil, Nat.zero_add, Nat.reduceAdd] at hp; refine hp.mono ?_; clear hp; rintro e w4 ⟨v, rfl, w4c, w4b⟩
   have s4 : w3.heap.size ≤ w4.heap.size := w4b.2.2.2.1; (have l4 : w.heap.size < w4.heap.size := by omega); (have k4 : w2.heap.size < w4.heap.size := by omega); (have r40 : w4.cell? ⟨w.heap.size, 0, none⟩ = some (.int .i64 0) := by rw [w4b.cell l3 hpw]; exact r30); (have r41 : w4.cell? ⟨w.heap.size, 1, none⟩ = some (.int .i64 0) := by rw [w4b.cell l3 hpw]; exact r31); (have q40 : w4.frozen? ⟨w.heap.size, 0, none⟩ = false := by rw [w4b.frozen l3 hpw]; exact q30); (have q41 : w4.frozen? ⟨w.heap.size, 1, none⟩ = false := by rw [w4b.frozen l3 hpw]; exact q31); (have a40 : w4.cell? ⟨w2.heap.size, 0, none⟩ = some (.int .i64 lo) := by rw [w4b.cell k3 hkp]; exact a30); (have a41 : w4.cell? ⟨w2.heap.size, 1, none⟩ = some (.int .i64 hi) := by rw [w4b.cell k3 hkp]; exact a31); (have z40 : w4.frozen? ⟨w2.heap.size, 0, none⟩ = false := by rw [w4b.frozen k3 hkp]; exact z30); (have z41 : w4.frozen? ⟨w2.heap.size, 1, none⟩ = false := by rw [w4b.frozen k3 hkp]; exact z31); (have b4 : But p w w4 := b3.trans w4b); clear r30 r31 q30 q31 a30 a31 z30 z31 w4b w3c b3
   go_wp2_with fail
   exact bodyPost_ret (v := .agg #[.int .i64 lo, .int .i64 v]) (by simp (maxDischargeDepth := 6) [results, Tryz.results110, go_sem, *]) rfl ⟨_, _, rfl, (((w4c.setOther hkp hBk _ _).setOther hpw hBw _ _).setOther hpw hBw _ _), (((b4.setNew hwk' _ _).setNew (Nat.le_refl _) _ _).setNew (Nat.le_refl _) _ _)⟩
 ·go_wp2_with fail
  exact bodyPost_ret (v := .agg #[.int .i64 lo, .int .i64 (wrap64 (lo - 1))]) (by simp (maxDischargeDepth := 6) [results, Tryz.results110, go_sem, *]) rfl ⟨_, _, rfl, (((w3c.setOther hkp hBk _ _).setOther hpw hBw _ _).setOther hpw hBw _ _), (((b3.setNew hwk' _ _).setNew (Nat.le_refl _) _ _).setNew (Nat.le_refl _) _ _)⟩
end Go.Proofs.YtddjiamollfplaaGreatDoor
