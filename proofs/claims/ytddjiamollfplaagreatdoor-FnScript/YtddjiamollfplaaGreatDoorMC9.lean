/- What the draws leave: times, intervals, the new cursor. A struct of two ints in a block: what keeps it. What the draws of numbers of chapter 4 leave. A reader that gives up: giveUp, codeOf; what a reader is in memory. Contracts of the reader: field, take, kind. What Unpack comes to. Contracts of the reader: msg. -/
import Derived.Test.YtddjiamollfplaaGreatDoorMC8
namespace Go.Proofs.YtddjiamollfplaaGreatDoor
open Go.RowKit
set_option linter.unusedVariables false
theorem dB (B p : Nat) (w : World) (L : List Int) (hcur : aq w B p) (h0 : 0 < L.length) (h1 : L.length ≤ 100) :
 Calls Tryz.prog 79 #[.pointer (some ⟨p, 0, none⟩), .slice (some ⟨w.heap.size, 0, none⟩) L.length L.length] (w.alloc (.cells (L.map (Value.int .i64)).toArray 3)) fun e w' => ∃ v : Int, e = .returned (.int .i64 v) ∧ aq w' B p ∧ But p w w' := by
 have hb : Below w.heap.size w (w.alloc (.cells (L.map (Value.int .i64)).toArray 3)) := (Below.refl _ _).alloc (Nat.le_refl _) _
 have hl := hcur.lt
 refine (aI B p w.heap.size 0 L.length L.length _ (hcur.below hb) h0 h1 (by simp) (by omega) (fun j hj => ⟨L[j], by simp [hj]⟩)).mono ?_
 rintro e w' ⟨j, v, hj, _, rfl, hc, hw⟩
 exact ⟨v, rfl, hc, (But.of_below hb).trans hw⟩
set_option maxHeartbeats 1000000 in
theorem et (B p : Nat) (w : World) (hcur : aq w B p) :
 Calls Tryz.prog 118 #[.pointer (some ⟨p, 0, none⟩)] w fun e w' => ∃ v : Int, e = .returned (.int .i64 v) ∧ aq w' B p ∧ But p w w' := by
 go_enter Tryz.func118, Tryz.ntmps118
 go_wp2_with fail
 refine (af B p 12 _ hcur).mono ?_; rintro e w1 ⟨x, rfl, xl, xh, xp, xz, w1c, w1b⟩
 clear xp xz
 cases hx0 : (x == 0)
 ·cases hx1 : (x == 1)
  ·go_wp2_with fail
   refine (af B p 120 _ w1c).mono ?_; rintro e w2 ⟨y, rfl, yl, yh, yp, yz, w2c, w2b⟩
   clear yp yz
   go_wp2_with fail
   go_ret
   exact ⟨_, rfl, w2c, w1b.trans w2b⟩
  ·go_wp2_with fail
   refine (af B p 1000000000 _ w1c).mono ?_; rintro e w2 ⟨y, rfl, yl, yh, yp, yz, w2c, w2b⟩
   clear yp yz
   go_wp2_with fail
   have hp := dB B p w2 [1, -1, 900] w2c (by decide) (by decide); simp only [List.map_cons, List.map_nil, List.length_cons, List.length_nil, Nat.zero_add, Nat.reduceAdd] at hp; refine hp.mono ?_; clear hp; rintro e w3 ⟨v, rfl, w3c, w3b⟩
   go_wp2_with fail
   go_ret
   exact ⟨_, rfl, w3c, (w1b.trans w2b).trans w3b⟩
 ·go_wp2_with fail
  have hp := dB B p w1 [-1000000000000, 1000000000000, 999999999999, -999999999999, 0] w1c (by decide) (by decide); simp only [List.map_cons, List.map_nil, List.length_cons, List.length_nil, Nat.zero_add, Nat.reduceAdd] at hp; refine hp.mono ?_; clear hp; rintro e w3 ⟨v, rfl, w3c, w3b⟩
  go_wp2_with fail
  go_ret
  exact ⟨_, rfl, w3c, w1b.trans w3b⟩
set_option maxHeartbeats 400000 in
theorem mY (x y : Int) (w : World) :
 Calls Tryz.prog 71 #[.int .i64 x, .int .i64 y] w fun e w' => ∃ v : Int, e = .returned (.int .i64 v) ∧ w = w' := by
 go_enter Tryz.func71, Tryz.ntmps71
 go_wp2
 all_goals go_ret
 all_goals exact ⟨_, rfl, rfl⟩
theorem aq.setOther {w : World} {B p : Nat} (h : aq w B p) {k : Nat} (hk : k ≠ p) (hB : B ≤ k) (o : Nat) (u : Value) : aq (w.setCell ⟨k, o, none⟩ u) B p := by
 obtain ⟨a, n, c, i, hh, h0, h1, h2, f0, f1, f2, hi, hn, hc, hBp, hp⟩ := h
 have hne : ∀ q, (⟨k, o, none⟩ : Addr) ≠ ⟨p, q, none⟩ := fun q e => hk (congrArg Addr.block e)
 refine ⟨a, n, c, i, hh, ?_, ?_, ?_, by simpa using f0, by simpa using f1, by simpa using f2, hi, hn, hc.below ((Below.refl _ _).setCell hB _), hBp, by simpa using hp⟩
 ·rw [World.cell?_setCell_other _ _ _ _ (hne _)]; exact h0
 ·rw [World.cell?_setCell_other _ _ _ _ (hne _)]; exact h1
 ·rw [World.cell?_setCell_other _ _ _ _ (hne _)]; exact h2
theorem But.setNew {p : Nat} {a w : World} (h : But p a w) {k : Nat} (hk : a.heap.size ≤ k) (o : Nat) (u : Value) : But p a (w.setCell ⟨k, o, none⟩ u) :=
 ⟨h.1, h.2.1, h.2.2.1, by rw [World.size_setCell]; exact h.2.2.2.1, fun j hj hp => (Below.heap_setCell w ⟨k, o, none⟩ u j (by simp; omega)).trans (h.2.2.2.2 j hj hp)⟩
theorem But.alloc {p : Nat} {a w : World} (h : But p a w) (o : Obj) : But p a (w.alloc o) :=
 h.trans (But.of_below ((Below.refl _ _).alloc (Nat.le_refl _) _))
set_option maxHeartbeats 3200000 in
theorem cR (B p : Nat) (w : World) (hcur : aq w B p) :
 Calls Tryz.prog 110 #[.pointer (some ⟨p, 0, none⟩)] w fun e w' => ∃ x y : Int, e = .returned (.agg #[.int .i64 x, .int .i64 y]) ∧ aq w' B p ∧ But p w w' := by
 have hpl := hcur.lt
 have hpw : w.heap.size ≠ p := by omega
 have A1 : Below w.heap.size w (w.alloc (.cells #[.int .i64 0, .int .i64 0] 137)) := (Below.refl _ _).alloc (Nat.le_refl _) _
 go_enter Tryz.func110, Tryz.ntmps110
 go_wp2_with fail
 refine (et B p _ (by exact hcur.below A1)).mono ?_
 rintro e w1 ⟨lo, rfl, w1c, w1b⟩
 have s1 : w.heap.size + 1 ≤ w1.heap.size := by have := w1b.2.2.2.1; simpa using this
 have r10 : w1.cell? ⟨w.heap.size, 0, none⟩ = some (.int .i64 0) := by rw [w1b.cell (by simp) hpw]; simp [go_sem]
 have r11 : w1.cell? ⟨w.heap.size, 1, none⟩ = some (.int .i64 0) := by rw [w1b.cell (by simp) hpw]; simp [go_sem]
 have q10 : w1.frozen? ⟨w.heap.size, 0, none⟩ = false := by rw [w1b.frozen (by simp) hpw]; simp [go_sem]
 have q11 : w1.frozen? ⟨w.heap.size, 1, none⟩ = false := by rw [w1b.frozen (by simp) hpw]; simp [go_sem]
 have b1 : But p w w1 := (But.of_below A1).trans w1b
 go_wp2_with fail
 refine (af B p 60 _ w1c).mono ?_; rintro e w2 ⟨x, rfl, xl, xh, xp, xz, w2c, w2b⟩
 clear xp xz
 have s2 : w1.heap.size ≤ w2.heap.size := w2b.2.2.2.1
 have l2 : w.heap.size < w2.heap.size := by omega
 have r20 : w2.cell? ⟨w.heap.size, 0, none⟩ = some (.int .i64 0) := by rw [w2b.cell (by omega) hpw]; exact r10
 have r21 : w2.cell? ⟨w.heap.size, 1, none⟩ = some (.int .i64 0) := by rw [w2b.cell (by omega) hpw]; exact r11
 have q20 : w2.frozen? ⟨w.heap.size, 0, none⟩ = false := by rw [w2b.frozen (by omega) hpw]; exact q10
 have q21 : w2.frozen? ⟨w.heap.size, 1, none⟩ = false := by rw [w2b.frozen (by omega) hpw]; exact q11
 have b2 : But p w w2 := b1.trans w2b
 clear r10 r11 q10 q11
 go_wp2_with fail
 refine (mY _ _ _).mono ?_
 rintro e w' ⟨hi, rfl, rfl⟩
 go_wp2_with fail
 have hpl2 := w2c.lt
 have A2 : Below w2.heap.size w2 (w2.alloc (.cells #[.int .i64 lo, .int .i64 hi] 137)) := (Below.refl _ _).alloc (Nat.le_refl _) _
 have hkp : w2.heap.size ≠ p := by omega
 refine (af B p 30 _ (by exact w2c.below A2)).mono ?_
 rintro e w3 ⟨y, rfl, yl, yh, yp, yz, w3c, w3b⟩
 clear yp yz
 have s3 : w2.heap.size + 1 ≤ w3.heap.size := by have := w3b.2.2.2.1; simpa using this
 have l3 : w.heap.size < w3.heap.size := by omega
 have k3 : w2.heap.size < w3.heap.size := by omega
 have r30 : w3.cell? ⟨w.heap.size, 0, none⟩ = some (.int .i64 0) := by rw [w3b.cell (by simp; omega) hpw, World.cell?_alloc_lt _ _ _ (by simp; omega)]; exact r20
 have r31 : w3.cell? ⟨w.heap.size, 1, none⟩ = some (.int .i64 0) := by rw [w3b.cell (by simp; omega) hpw, World.cell?_alloc_lt _ _ _ (by simp; omega)]; exact r21
 have q30 : w3.frozen? ⟨w.heap.size, 0, none⟩ = false := by rw [w3b.frozen (by simp; omega) hpw, World.frozen?_alloc_old _ _ _ (by simp; omega)]; exact q20
 have q31 : w3.frozen? ⟨w.heap.size, 1, none⟩ = false := by rw [w3b.frozen (by simp; omega) hpw, World.frozen?_alloc_old _ _ _ (by simp; omega)]; exact q21
 have a30 : w3.cell? ⟨w2.heap.size, 0, none⟩ = some (.int .i64 lo) := by rw [w3b.cell (by simp) hkp]; simp [go_sem]
 have a31 : w3.cell? ⟨w2.heap.size, 1, none⟩ = some (.int .i64 hi) := by rw [w3b.cell (by simp) hkp]; simp [go_sem]
 have z30 : w3.frozen? ⟨w2.heap.size, 0, none⟩ = false := by rw [w3b.frozen (by simp) hkp]; simp [go_sem]
 have z31 : w3.frozen? ⟨w2.heap.size, 1, none⟩ = false := by rw [w3b.frozen (by simp) hkp]; simp [go_sem]
 have b3 : But p w w3 := (b2.alloc _).trans w3b
 have hwk : w.heap.size ≠ w2.heap.size := by omega
 have hBw : B ≤ w.heap.size := by omega
 have hBk : B ≤ w2.heap.size := by omega
 have hwk' : w.heap.size ≤ w2.heap.size := by omega
 clear r20 r21 q20 q21 w1b w2b w3b A1 A2 b1 b2 hcur w1c w2c
 cases hy0 : (y == 0)
 ·cases hy1 : (y == 1)
  ·cases hy2 : (y == 2)
   ·go_wp2_with fail
    exact bodyPost_ret (v := .agg #[.int .i64 lo, .int .i64 hi]) (by simp (maxDischargeDepth := 6) [results, Tryz.results110, go_sem, *]) rfl ⟨_, _, rfl, ((w3c.setOther hpw hBw _ _).setOther hpw hBw _ _), ((b3.setNew (Nat.le_refl _) _ _).setNew (Nat.le_refl _) _ _)⟩
   ·go_wp2_with fail
    have hp := dB B p w3 [-1000000000000, -1000000000001, -9223372036854775807] w3c (by decide) (by decide); simp only [List.map_cons, List.map_nil, List.length_cons, List.length_nil, Nat.zero_add, Nat.reduceAdd] at hp; refine hp.mono ?_; clear hp; rintro e w4 ⟨v, rfl, w4c, w4b⟩
    have s4 : w3.heap.size ≤ w4.heap.size := w4b.2.2.2.1; (have l4 : w.heap.size < w4.heap.size := by omega); (have k4 : w2.heap.size < w4.heap.size := by omega); (have r40 : w4.cell? ⟨w.heap.size, 0, none⟩ = some (.int .i64 0) := by rw [w4b.cell l3 hpw]; exact r30); (have r41 : w4.cell? ⟨w.heap.size, 1, none⟩ = some (.int .i64 0) := by rw [w4b.cell l3 hpw]; exact r31); (have q40 : w4.frozen? ⟨w.heap.size, 0, none⟩ = false := by rw [w4b.frozen l3 hpw]; exact q30); (have q41 : w4.frozen? ⟨w.heap.size, 1, none⟩ = false := by rw [w4b.frozen l3 hpw]; exact q31); (have a40 : w4.cell? ⟨w2.heap.size, 0, none⟩ = some (.int .i64 lo) := by rw [w4b.cell k3 hkp]; exact a30); (have a41 : w4.cell? ⟨w2.heap.size, 1, none⟩ = some (.int .i64 hi) := by rw [w4b.cell k3 hkp]; exact a31); (have z40 : w4.frozen? ⟨w2.heap.size, 0, none⟩ = false := by rw [w4b.frozen k3 hkp]; exact z30); (have z41 : w4.frozen? ⟨w2.heap.size, 1, none⟩ = false := by rw [w4b.frozen k3 hkp]; exact z31); (have b4 : But p w w4 := b3.trans w4b); clear r30 r31 q30 q31 a30 a31 z30 z31 w4b w3c b3
    go_wp2_with fail
    exact bodyPost_ret (v := .agg #[.int .i64 v, .int .i64 hi]) (by simp (maxDischargeDepth := 6) [results, Tryz.results110, go_sem, *]) rfl ⟨_, _, rfl, (((w4c.setOther hkp hBk _ _).setOther hpw hBw _ _).setOther hpw hBw _ _), (((b4.setNew hwk' _ _).setNew (Nat.le_refl _) _ _).setNew (Nat.le_refl _) _ _)⟩
  ·go_wp2_with fail
   have hp := dB B p w3 [1000000000000, 1000000000001, 9223372036854775807] w3c (by decide) (by decide); simp only [List.map_cons, List.map_nil, List.length_cons, List.length_nil, Nat.zero_add, Nat.reduceAdd] at hp; refine hp.mono ?_; clear hp; rintro e w4 ⟨v, rfl, w4c, w4b⟩
   have s4 : w3.heap.size ≤ w4.heap.size := w4b.2.2.2.1; (have l4 : w.heap.size < w4.heap.size := by omega); (have k4 : w2.heap.size < w4.heap.size := by omega); (have r40 : w4.cell? ⟨w.heap.size, 0, none⟩ = some (.int .i64 0) := by rw [w4b.cell l3 hpw]; exact r30); (have r41 : w4.cell? ⟨w.heap.size, 1, none⟩ = some (.int .i64 0) := by rw [w4b.cell l3 hpw]; exact r31); (have q40 : w4.frozen? ⟨w.heap.size, 0, none⟩ = false := by rw [w4b.frozen l3 hpw]; exact q30); (have q41 : w4.frozen? ⟨w.heap.size, 1, none⟩ = false := by rw [w4b.frozen l3 hpw]; exact q31); (have a40 : w4.cell? ⟨w2.heap.size, 0, none⟩ = some (.int .i64 lo) := by rw [w4b.cell k3 hkp]; exact a30); (have a41 : w4.cell? ⟨w2.heap.size, 1, none⟩ = some (.int .i64 hi) := by rw [w4b.cell k3 hkp]; exact a31); (have z40 : w4.frozen? ⟨w2.heap.size, 0, none⟩ = false := by rw [w4b.frozen k3 hkp]; exact z30); (have z41 : w4.frozen? ⟨w2.heap.size, 1, none⟩ = false := by rw [w4b.frozen k3 hkp]; exact z31); (have b4 : But p w w4 := b3.trans w4b); clear r30 r31 q30 q31 a30 a31 z30 z31 w4b w3c b3
   go_wp2_with fail
   exact bodyPost_ret (v := .agg #[.int .i64 lo, .int .i64 v]) (by simp (maxDischargeDepth := 6) [results, Tryz.results110, go_sem, *]) rfl ⟨_, _, rfl, (((w4c.setOther hkp hBk _ _).setOther hpw hBw _ _).setOther hpw hBw _ _), (((b4.setNew hwk' _ _).setNew (Nat.le_refl _) _ _).setNew (Nat.le_refl _) _ _)⟩
 ·go_wp2_with fail
  exact bodyPost_ret (v := .agg #[.int .i64 lo, .int .i64 (wrap64 (lo - 1))]) (by simp (maxDischargeDepth := 6) [results, Tryz.results110, go_sem, *]) rfl ⟨_, _, rfl, (((w3c.setOther hkp hBk _ _).setOther hpw hBw _ _).setOther hpw hBw _ _), (((b3.setNew hwk' _ _).setNew (Nat.le_refl _) _ _).setNew (Nat.le_refl _) _ _)⟩
end Go.Proofs.YtddjiamollfplaaGreatDoor
namespace Go.Proofs.YtddjiamollfplaaGreatDoor
open Go.RowKit
set_option linter.unusedVariables false
theorem aq.drew {w : World} {B p : Nat} (h : aq w B p) : aq w.drew B p := h
theorem But.drew {p : Nat} {a w : World} (h : But p a w) : But p a w.drew := h
def Box (w : World) (k : Nat) (x y : Int) : Prop := k < w.heap.size ∧ w.cell? ⟨k, 0, none⟩ = some (.int .i64 x) ∧ w.cell? ⟨k, 1, none⟩ = some (.int .i64 y) ∧ w.frozen? ⟨k, 0, none⟩ = false ∧ w.frozen? ⟨k, 1, none⟩ = false
theorem Box.but {p k : Nat} {w w' : World} {x y : Int} (h : Box w k x y) (hw : But p w w') (hk : k ≠ p) : Box w' k x y :=
 ⟨Nat.lt_of_lt_of_le h.1 hw.2.2.2.1, by rw [hw.cell h.1 hk]; exact h.2.1, by rw [hw.cell h.1 hk]; exact h.2.2.1, by rw [hw.frozen h.1 hk]; exact h.2.2.2.1, by rw [hw.frozen h.1 hk]; exact h.2.2.2.2⟩
theorem Box.below {k : Nat} {w w' : World} {x y : Int} (h : Box w k x y) (hw : Below w.heap.size w w') : Box w' k x y :=
 ⟨Nat.lt_of_lt_of_le h.1 hw.size, by rw [hw.cell (p := ⟨k, 0, none⟩) h.1]; exact h.2.1, by rw [hw.cell (p := ⟨k, 1, none⟩) h.1]; exact h.2.2.1, by rw [hw.frozen (p := ⟨k, 0, none⟩) h.1]; exact h.2.2.2.1, by rw [hw.frozen (p := ⟨k, 1, none⟩) h.1]; exact h.2.2.2.2⟩
theorem Box.alloc {k : Nat} {w : World} {x y : Int} (h : Box w k x y) (o : Obj) : Box (w.alloc o) k x y := h.below ((Below.refl _ _).alloc (Nat.le_refl _) _)
theorem Box.setOther {k j : Nat} {w : World} {x y : Int} (h : Box w k x y) (hk : j ≠ k) (o : Nat) (u : Value) : Box (w.setCell ⟨j, o, none⟩ u) k x y := by
 have hne : ∀ q, (⟨j, o, none⟩ : Addr) ≠ ⟨k, q, none⟩ := fun q e => hk (congrArg Addr.block e)
 exact ⟨by simpa using h.1, by rw [World.cell?_setCell_other _ _ _ _ (hne _)]; exact h.2.1, by rw [World.cell?_setCell_other _ _ _ _ (hne _)]; exact h.2.2.1, by simpa using h.2.2.2.1, by simpa using h.2.2.2.2⟩
theorem Box.set {k : Nat} {w : World} {x y : Int} (h : Box w k x y) (x' y' : Int) : Box ((w.setCell ⟨k, 0, none⟩ (.int .i64 x')).setCell ⟨k, 1, none⟩ (.int .i64 y')) k x' y' := by
 refine ⟨by simpa using h.1, ?_, ?_, by simpa using h.2.2.2.1, by simpa using h.2.2.2.2⟩
 ·rw [World.cell?_setCell_other _ _ _ _ (by simp), World.cell?_setCell_same _ _ _ h.2.1]
 ·exact World.cell?_setCell_same _ _ _ (by rw [World.cell?_setCell_other _ _ _ _ (by simp)]; exact h.2.2.1)
theorem Box.new (w : World) (x y : Int) (T : TypeId) : Box (w.alloc (.cells #[.int .i64 x, .int .i64 y] T)) w.heap.size x y := ⟨by simp, by simp, by simp, by simp, by simp⟩
theorem bX.more {w : World} {B B' : Nat} {a : Option Addr} {n : Nat} (h : bX w B a n) (hB : B ≤ B') : bX w B' a n := by
 rcases h with h | ⟨b, off, h1, h2, h3⟩
 ·exact .inl h
 ·exact .inr ⟨b, off, h1, by omega, h3⟩
theorem Below.al (w : World) (o : Obj) : Below w.heap.size w (w.alloc o) := (Below.refl _ _).alloc (Nat.le_refl _) _
end Go.Proofs.YtddjiamollfplaaGreatDoor
namespace Go.Proofs.YtddjiamollfplaaGreatDoor
open Go.RowKit
set_option linter.unusedVariables false
theorem ga (B p : Nat) (w : World) (L : List Int) (hcur : aq w B p) (h0 : 0 < L.length) (h1 : L.length ≤ 100) :
 Calls Tryz.prog 79 #[.pointer (some ⟨p, 0, none⟩), .slice (some ⟨w.heap.size, 0, none⟩) L.length L.length] (w.alloc (.cells (L.map (Value.int .i64)).toArray 3)) fun e w' => ∃ v : Int, e = .returned (.int .i64 v) ∧ v ∈ L ∧ aq w' B p ∧ But p w w' := by
 have hb : Below w.heap.size w (w.alloc (.cells (L.map (Value.int .i64)).toArray 3)) := (Below.refl _ _).alloc (Nat.le_refl _) _
 have hl := hcur.lt
 refine (aI B p w.heap.size 0 L.length L.length _ (hcur.below hb) h0 h1 (by simp) (by omega) (fun j hj => ⟨L[j], by simp [hj]⟩)).mono ?_
 rintro e w' ⟨j, v, hj, hv, rfl, hc, hw⟩
 refine ⟨v, rfl, ?_, hc, (But.of_below hb).trans hw⟩
 simp [hj] at hv
 rw [← hv]
 exact List.getElem_mem hj
end Go.Proofs.YtddjiamollfplaaGreatDoor
namespace Go.Proofs.YtddjiamollfplaaGreatDoor
open Go.RowKit
set_option linter.unusedVariables false
def Rd (w : World) (p : Nat) (a : Option Addr) (m c : Nat) (f : Nat → Int) (x : Int) : Prop :=
 p < w.heap.size ∧ w.cell? ⟨p, 0, none⟩ = some (.slice a m c) ∧ w.cell? ⟨p, 1, none⟩ = some (.int .i64 x) ∧ w.frozen? ⟨p, 1, none⟩ = false ∧ 0 ≤ x ∧ x ≤ m ∧ m ≤ c ∧ c ≤ maxLen ∧ de w a m f ∧ (∀ b o, a = some ⟨b, o, none⟩ → b < p) ∧ ∀ i, i < m → 0 ≤ f i ∧ f i ≤ 255
theorem de.but {w w' : World} {p : Nat} {a : Option Addr} {n : Nat} {f : Nat → Int} (h : de w a n f) (hb : But p w w') (hp : ∀ b o, a = some ⟨b, o, none⟩ → b < p) : de w' a n f := by
 rcases h with h | ⟨b, off, h1, h2⟩
 ·exact .inl h
 ·have := hp b off h1
  exact .inr ⟨b, off, h1, Nat.lt_of_lt_of_le h2.1 hb.2.2.2.1, fun i hi => by rw [hb.cell h2.1 (by omega)]; exact h2.2 i hi⟩
theorem Rd.below {w w' : World} {p : Nat} {a : Option Addr} {m c : Nat} {f : Nat → Int} {x : Int} (h : Rd w p a m c f x) (hb : Below w.heap.size w w') : Rd w' p a m c f x := by
 obtain ⟨h0, h1, h2, h3, h4, h5, h6, h7, h8, h9, h10⟩ := h
 exact ⟨Nat.lt_of_lt_of_le h0 hb.size, by rw [hb.cell (p := ⟨p, 0, none⟩) h0]; exact h1, by rw [hb.cell (p := ⟨p, 1, none⟩) h0]; exact h2, by rw [hb.frozen (p := ⟨p, 1, none⟩) h0]; exact h3, h4, h5, h6, h7, h8.below hb, h9, h10⟩
theorem Rd.drew {w : World} {p : Nat} {a : Option Addr} {m c : Nat} {f : Nat → Int} {x : Int} (h : Rd w p a m c f x) : Rd w.drew p a m c f x := h
theorem Rd.set {w : World} {p : Nat} {a : Option Addr} {m c : Nat} {f : Nat → Int} {x : Int} (h : Rd w p a m c f x) (y : Int) (y0 : 0 ≤ y) (y1 : y ≤ m) : Rd (w.setCell ⟨p, 1, none⟩ (.int .i64 y)) p a m c f y := by
 obtain ⟨h0, h1, h2, h3, h4, h5, h6, h7, h8, h9, h10⟩ := h
 exact ⟨by simpa using h0, by rw [World.cell?_setCell_other _ _ _ _ (by simp)]; exact h1, World.cell?_setCell_same _ _ _ h2, by simpa using h3, y0, y1, h6, h7, h8.but ((But.refl p w).setCell 1 _) h9, h9, h10⟩
end Go.Proofs.YtddjiamollfplaaGreatDoor
namespace Go.Proofs.YtddjiamollfplaaGreatDoor
open Go.RowKit
set_option linter.unusedVariables false
theorem Rd.some {w : World} {p : Nat} {a : Option Addr} {m c : Nat} {f : Nat → Int} {x : Int} (h : Rd w p a m c f x) (hm : 1 ≤ m) : ∃ b off, a = some ⟨b, off, none⟩ ∧ b < p := by
 obtain ⟨h0, h1, h2, h3, h4, h5, h6, h7, h8, h9, h10⟩ := h
 rcases h8 with h8 | ⟨b, off, h8, _⟩
 ·omega
 ·exact ⟨b, off, h8, h9 b off h8⟩
end Go.Proofs.YtddjiamollfplaaGreatDoor
namespace Go.Proofs.YtddjiamollfplaaGreatDoor
open Go.RowKit
set_option linter.unusedVariables false
theorem bw.drew {j : Nat} {w : World} (h : bw w j) : bw w.drew j := h
theorem fH.drew {b off n : Nat} {w : World} {f : Nat → Int} (h : fH w b off n f) : fH w.drew b off n f := h
end Go.Proofs.YtddjiamollfplaaGreatDoor
namespace Go.Proofs.YtddjiamollfplaaGreatDoor
open Go.RowKit
set_option linter.unusedVariables false
theorem aN.but {p j : Nat} {w w' : World} {k fr tuu no lo hi sl : Int} {s : ByteArray} (h : aN w j k fr tuu no lo hi sl s) (hb : But p w w') (hj : j ≠ p) : aN w' j k fr tuu no lo hi sl s := by
 obtain ⟨h0, h1, h2, h3, h4, h5, h6, h7, h8⟩ := h
 exact ⟨Nat.lt_of_lt_of_le h0 hb.2.2.2.1, by rw [hb.cell h0 hj]; exact h1, by rw [hb.cell h0 hj]; exact h2, by rw [hb.cell h0 hj]; exact h3, by rw [hb.cell h0 hj]; exact h4, by rw [hb.cell h0 hj]; exact h5, by rw [hb.cell h0 hj]; exact h6, by rw [hb.cell h0 hj]; exact h7, by rw [hb.cell h0 hj]; exact h8⟩
theorem bw.but {p j : Nat} {w w' : World} (h : bw w j) (hb : But p w w') (h0 : j < w.heap.size) (hj : j ≠ p) : bw w' j := by
 obtain ⟨f0, f1, f2, f3, f4, f5, f6, f7⟩ := h
 exact ⟨by rw [hb.frozen h0 hj]; exact f0, by rw [hb.frozen h0 hj]; exact f1, by rw [hb.frozen h0 hj]; exact f2, by rw [hb.frozen h0 hj]; exact f3, by rw [hb.frozen h0 hj]; exact f4, by rw [hb.frozen h0 hj]; exact f5, by rw [hb.frozen h0 hj]; exact f6, by rw [hb.frozen h0 hj]; exact f7⟩
theorem Rd.setO {w : World} {p j : Nat} {a : Option Addr} {m c : Nat} {f : Nat → Int} {x : Int} (h : Rd w p a m c f x) (hj : p < j) (o : Nat) (u : Value) : Rd (w.setCell ⟨j, o, none⟩ u) p a m c f x := by
 obtain ⟨h0, h1, h2, h3, h4, h5, h6, h7, h8, h9, h10⟩ := h
 have hne : ∀ q, (⟨j, o, none⟩ : Addr) ≠ ⟨p, q, none⟩ := fun q e => by have : j = p := congrArg Addr.block e; omega
 refine ⟨by simpa using h0, by rw [World.cell?_setCell_other _ _ _ _ (hne _)]; exact h1, by rw [World.cell?_setCell_other _ _ _ _ (hne _)]; exact h2, by simpa using h3, h4, h5, h6, h7, ?_, h9, h10⟩
 rcases h8 with h8 | ⟨b, off, h8, hB⟩
 ·exact .inl h8
 ·have := h9 b off h8
  exact .inr ⟨b, off, h8, by simpa using hB.1, fun i hi => by rw [World.cell?_setCell_other _ _ _ _ (fun e => by have : j = b := congrArg Addr.block e; omega)]; exact hB.2 i hi⟩
end Go.Proofs.YtddjiamollfplaaGreatDoor
