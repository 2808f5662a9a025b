/- A block of three cells of any values. A life: numbers; LifeOk, LifeMay, LifeKnows, LifeSends, LifeName in the specification. A clock that is read: what the laws make of it. What the laws make of a life and of an event. The program's LifeOk, LifeKnows, LifeSends, LifeName, LifeMay (labels and gotos), mayTake. -/
import Derived.WalkMore
import Derived.ScopeJumps
import Derived.Test.YtddijpjgkifngaaGreatDoorM9
namespace Go.Proofs.YtddijpjgkifngaaGreatDoor
open Go.RowKit
set_option linter.unusedVariables false
def Tx3 (w : World) (k : Nat) (u0 u1 u2 : Value) : Prop := k < w.heap.size ∧ w.cell? ⟨k, 0, none⟩ = some u0 ∧ w.cell? ⟨k, 1, none⟩ = some u1 ∧ w.cell? ⟨k, 2, none⟩ = some u2 ∧ w.frozen? ⟨k, 0, none⟩ = false ∧ w.frozen? ⟨k, 1, none⟩ = false ∧ w.frozen? ⟨k, 2, none⟩ = false
theorem Tx3.belowB {k B : Nat} {w w' : World} {u0 u1 u2 : Value} (h : Tx3 w k u0 u1 u2) (hw : Below B w w') (hk : k < B) : Tx3 w' k u0 u1 u2 := by
 obtain ⟨h0, h1, h2, h3, f1, f2, f3⟩ := h
 exact ⟨Nat.lt_of_lt_of_le h0 hw.size, by rw [hw.cell (p := ⟨k, 0, none⟩) hk]; exact h1, by rw [hw.cell (p := ⟨k, 1, none⟩) hk]; exact h2, by rw [hw.cell (p := ⟨k, 2, none⟩) hk]; exact h3, by rw [hw.frozen (p := ⟨k, 0, none⟩) hk]; exact f1, by rw [hw.frozen (p := ⟨k, 1, none⟩) hk]; exact f2, by rw [hw.frozen (p := ⟨k, 2, none⟩) hk]; exact f3⟩
theorem Tx3.below {k : Nat} {w w' : World} {u0 u1 u2 : Value} (h : Tx3 w k u0 u1 u2) (hw : Below w.heap.size w w') : Tx3 w' k u0 u1 u2 := h.belowB hw h.1
theorem Tx3.alloc {k : Nat} {w : World} {u0 u1 u2 : Value} (h : Tx3 w k u0 u1 u2) (o : Obj) : Tx3 (w.alloc o) k u0 u1 u2 := h.below ((Below.refl _ _).alloc (Nat.le_refl _) _)
theorem Tx3.new (w : World) (u0 u1 u2 : Value) (T : TypeId) : Tx3 (w.alloc (.cells #[u0, u1, u2] T)) w.heap.size u0 u1 u2 := ⟨by simp, by simp, by simp, by simp, by simp, by simp, by simp⟩
theorem Tx3.drew {k : Nat} {w : World} {u0 u1 u2 : Value} (h : Tx3 w k u0 u1 u2) : Tx3 w.drew k u0 u1 u2 := h
theorem Tx3.setO {k j : Nat} {w : World} {u0 u1 u2 : Value} (h : Tx3 w k u0 u1 u2) (hk : j ≠ k) (o : Nat) (u : Value) : Tx3 (w.setCell ⟨j, o, none⟩ u) k u0 u1 u2 := by
 have hne : ∀ q, (⟨j, o, none⟩ : Addr) ≠ ⟨k, q, none⟩ := fun q e => hk (congrArg Addr.block e)
 obtain ⟨h0, h1, h2, h3, f1, f2, f3⟩ := h
 exact ⟨by simpa using h0, by rw [World.cell?_setCell_other _ _ _ _ (hne _)]; exact h1, by rw [World.cell?_setCell_other _ _ _ _ (hne _)]; exact h2, by rw [World.cell?_setCell_other _ _ _ _ (hne _)]; exact h3, by simpa using f1, by simpa using f2, by simpa using f3⟩
theorem Tx3.set0 {k : Nat} {w : World} {u0 u1 u2 : Value} (h : Tx3 w k u0 u1 u2) (x : Value) : Tx3 (w.setCell ⟨k, 0, none⟩ x) k x u1 u2 := by
 obtain ⟨h0, h1, h2, h3, f1, f2, f3⟩ := h
 exact ⟨by simpa using h0, World.cell?_setCell_same _ _ _ h1, (World.cell?_setCell_other _ _ _ _ (by simp)).trans h2, (World.cell?_setCell_other _ _ _ _ (by simp)).trans h3, by simpa using f1, by simpa using f2, by simpa using f3⟩
theorem Tx3.set1 {k : Nat} {w : World} {u0 u1 u2 : Value} (h : Tx3 w k u0 u1 u2) (x : Value) : Tx3 (w.setCell ⟨k, 1, none⟩ x) k u0 x u2 := by
 obtain ⟨h0, h1, h2, h3, f1, f2, f3⟩ := h
 exact ⟨by simpa using h0, (World.cell?_setCell_other _ _ _ _ (by simp)).trans h1, World.cell?_setCell_same _ _ _ h2, (World.cell?_setCell_other _ _ _ _ (by simp)).trans h3, by simpa using f1, by simpa using f2, by simpa using f3⟩
theorem Tx3.set2 {k : Nat} {w : World} {u0 u1 u2 : Value} (h : Tx3 w k u0 u1 u2) (x : Value) : Tx3 (w.setCell ⟨k, 2, none⟩ x) k u0 u1 x := by
 obtain ⟨h0, h1, h2, h3, f1, f2, f3⟩ := h
 exact ⟨by simpa using h0, (World.cell?_setCell_other _ _ _ _ (by simp)).trans h1, (World.cell?_setCell_other _ _ _ _ (by simp)).trans h2, World.cell?_setCell_same _ _ _ h3, by simpa using f1, by simpa using f2, by simpa using f3⟩
end Go.Proofs.YtddijpjgkifngaaGreatDoor
namespace Go.Proofs.YtddijpjgkifngaaGreatDoor
open Go.RowKit
set_option linter.unusedVariables false
def mdB (m : Int) : Bool := decide (0 ≤ m ∧ m ≤ 3)
def lfB (m e s : Int) : Bool := mdB m && (epB e && okT s)
def knB (m e s : Int) : Bool := lfB m e s && ((m == 2) || (m == 3))
set_option maxHeartbeats 4000000 in
theorem specLifeOk_any (m e s : Int) (w : World) :
 Calls Tryz.prog 91 #[.agg #[.int .i64 m, .int .i64 e, .int .i64 s]] w fun x w' => x = .returned (.bool (lfB m e s)) ∧ Below w.heap.size w w' := by
 have B := Below.nw w (.cells #[.int .i64 m, .int .i64 e, .int .i64 s] 66)
 have C1 : ∀ w', Calls Tryz.prog 50 #[.int .i64 m, .int .i64 0, .int .i64 3] w' fun e w'' => e = .returned (.bool (mdB m)) ∧ w' = w'' := fun w' => l1In_any m 0 3 w'
 have C2 : ∀ w', Calls Tryz.prog 50 #[.int .i64 e, .int .i64 0, .int .i64 100000] w' fun e' w'' => e' = .returned (.bool (epB e)) ∧ w' = w'' := fun w' => l1In_any e 0 100000 w'
 have C3 := fun w' => l2Time_any s w'
 cases h1 : mdB m
 ·rw [show lfB m e s = false by unfold lfB; rw [h1]; rfl]
  go_enter Tryz.func91, Tryz.ntmps91; go_wp2_with fail; refine (C1 _).mono ?_; rintro e w' ⟨rfl, rfl⟩; rw [h1]; go_wp2_with fail
  go_ret
  exact ⟨rfl, B⟩
 cases h2 : epB e
 ·rw [show lfB m e s = false by unfold lfB; rw [h1, h2]; rfl]
  go_enter Tryz.func91, Tryz.ntmps91; go_wp2_with fail; refine (C1 _).mono ?_; rintro e w' ⟨rfl, rfl⟩; rw [h1]; go_wp2_with fail
  refine (C2 _).mono ?_
  rintro e w' ⟨rfl, rfl⟩
  rw [h2]
  go_wp2_with fail
  go_ret
  exact ⟨rfl, B⟩
 rw [show lfB m e s = okT s by unfold lfB; rw [h1, h2]; rfl]
 go_enter Tryz.func91, Tryz.ntmps91; go_wp2_with fail; refine (C1 _).mono ?_; rintro e w' ⟨rfl, rfl⟩; rw [h1]; go_wp2_with fail
 refine (C2 _).mono ?_
 rintro e w' ⟨rfl, rfl⟩
 rw [h2]
 go_wp2_with fail
 refine (C3 _).mono ?_
 rintro e w' ⟨rfl, rfl⟩
 go_wp2_with fail
 go_ret
 exact ⟨rfl, B⟩
set_option maxHeartbeats 4000000 in
theorem specLifeKnows_any (m e s : Int) (w : World) :
 Calls Tryz.prog 97 #[.agg #[.int .i64 m, .int .i64 e, .int .i64 s]] w fun x w' => x = .returned (.bool (knB m e s)) ∧ Below w.heap.size w w' := by
 have B := Below.nw w (.cells #[.int .i64 m, .int .i64 e, .int .i64 s] 66)
 have N := Tx3.new w (.int .i64 m) (.int .i64 e) (.int .i64 s) 66
 have C1 := fun w' => specLifeOk_any m e s w'
 unfold knB
 cases h1 : lfB m e s
 ·rw [Bool.false_and]
  go_enter Tryz.func97, Tryz.ntmps97
  go_wp2_with fail
  refine (C1 _).mono ?_
  rintro x w1 ⟨rfl, hb⟩
  rw [h1]
  replace B := B.trans (hb.mono B.size)
  go_wp2_with fail
  go_ret
  exact ⟨rfl, B⟩
 rw [Bool.true_and]
 go_enter Tryz.func97, Tryz.ntmps97
 go_wp2_with fail
 refine (C1 _).mono ?_
 rintro x w1 ⟨rfl, hb⟩
 rw [h1]
 replace B := B.trans (hb.mono B.size)
 replace N := N.below hb
 clear hb C1
 obtain ⟨n0, n1, n2, n3, n4, n5, n6⟩ := id N
 cases h2 : (m == 2)
 ·go_wp2_with fail
  go_ret
  exact ⟨by first | rfl | simp [h2], B⟩
 ·go_wp2_with fail
  go_ret
  exact ⟨by first | rfl | simp [h2], B⟩
end Go.Proofs.YtddijpjgkifngaaGreatDoor
namespace Go.Proofs.YtddijpjgkifngaaGreatDoor
open Go.RowKit
set_option linter.unusedVariables false
set_option maxHeartbeats 2000000 in
theorem toApp_any (h : Bool) (l : Int) (w : World) :
 Calls Tryz.prog 106 #[.agg #[.bool h, .int .i64 l]] w fun e w' => e = .returned (.agg #[.bool h, .int .i64 l]) ∧ Below w.heap.size w w' := by
 go_enter Tryz.func106, Tryz.ntmps106
 go_wp2
 exact bodyPost_ret (v := .agg #[.bool h, .int .i64 l]) (by simp [results, Tryz.results106, go_sem]) rfl ⟨rfl, by repeat (first | exact Below.refl _ _ | refine Below.drew ?_ | refine Below.alloc ?_ (by first | (simp; done) | (simp; omega) | omega) _ | refine Below.setCell ?_ (by first | (simp; done) | (simp; omega) | omega) _ | refine Below.trans ?_ (Below.mono (by assumption) (by first | (simp; done) | (simp; omega) | omega)))⟩
set_option maxHeartbeats 2000000 in
theorem eqApp_same (h : Bool) (l : Int) (w : World) :
 Calls Tryz.prog 126 #[.agg #[.bool h, .int .i64 l], .agg #[.bool h, .int .i64 l]] w fun e w' => e = .returned (.bool true) ∧ Below w.heap.size w w' := by
 have hx : (h != h) = false := by simp
 go_enter Tryz.func126, Tryz.ntmps126
 go_wp2
 go_ret
 exact ⟨rfl, by repeat (first | exact Below.refl _ _ | refine Below.drew ?_ | refine Below.alloc ?_ (by first | (simp; done) | (simp; omega) | omega) _ | refine Below.setCell ?_ (by first | (simp; done) | (simp; omega) | omega) _ | refine Below.trans ?_ (Below.mono (by assumption) (by first | (simp; done) | (simp; omega) | omega)))⟩
end Go.Proofs.YtddijpjgkifngaaGreatDoor
namespace Go.Proofs.YtddijpjgkifngaaGreatDoor
open Go.RowKit
set_option linter.unusedVariables false
set_option maxHeartbeats 2000000 in
theorem toLife_any (m e s : Int) (w : World) :
 Calls Tryz.prog 102 #[.agg #[.int .i64 m, .int .i64 e, .int .i64 s]] w fun x w' => x = .returned (.agg #[.int .i64 m, .int .i64 e, .int .i64 s]) ∧ Below w.heap.size w w' := by
 go_enter Tryz.func102, Tryz.ntmps102
 go_wp2_with fail
 exact bodyPost_ret (v := .agg #[.int .i64 m, .int .i64 e, .int .i64 s]) (by simp (maxDischargeDepth := 6) [results, Tryz.results102, go_sem, *]) rfl ⟨rfl, by repeat (first | exact Below.refl _ _ | refine Below.drew ?_ | refine Below.alloc ?_ (by first | (simp; done) | (simp; omega) | omega) _ | refine Below.setCell ?_ (by first | (simp; done) | (simp; omega) | omega) _ | refine Below.trans ?_ (Below.mono (by assumption) (by first | (simp; done) | (simp; omega) | omega)))⟩
set_option maxHeartbeats 2000000 in
theorem eqLife_same (m e s : Int) (w : World) :
 Calls Tryz.prog 122 #[.agg #[.int .i64 m, .int .i64 e, .int .i64 s], .agg #[.int .i64 m, .int .i64 e, .int .i64 s]] w fun x w' => x = .returned (.bool true) ∧ Below w.heap.size w w' := by
 go_enter Tryz.func122, Tryz.ntmps122
 go_wp2_with fail
 go_ret
 exact ⟨rfl, by repeat (first | exact Below.refl _ _ | refine Below.drew ?_ | refine Below.alloc ?_ (by first | (simp; done) | (simp; omega) | omega) _ | refine Below.setCell ?_ (by first | (simp; done) | (simp; omega) | omega) _ | refine Below.trans ?_ (Below.mono (by assumption) (by first | (simp; done) | (simp; omega) | omega)))⟩
end Go.Proofs.YtddijpjgkifngaaGreatDoor
namespace Go.Proofs.YtddijpjgkifngaaGreatDoor
open Go.RowKit
set_option linter.unusedVariables false
set_option maxHeartbeats 400000 in
theorem isMode_any (n : Int) (w : World) :
 Calls Tryz.prog 181 #[.int .i64 n] w fun e w' => e = .returned (.bool (mdB n)) ∧ w = w' := by
 go_enter Tryz.func181, Tryz.ntmps181
 go_wp2
 all_goals go_ret
 all_goals exact ⟨ret_bool (by rw [Bool.eq_iff_iff]; simp [mdB]; try omega), rfl⟩
set_option maxHeartbeats 400000 in
theorem isEpoch17_any (n : Int) (w : World) :
 Calls Tryz.prog 182 #[.int .i64 n] w fun e w' => e = .returned (.bool (epB n)) ∧ w = w' := by
 go_enter Tryz.func182, Tryz.ntmps182
 go_wp2
 all_goals go_ret
 all_goals exact ⟨ret_bool (by rw [Bool.eq_iff_iff]; simp [epB]; try omega), rfl⟩
set_option maxHeartbeats 4000000 in
theorem lifeOk_any (m e s : Int) (w : World) :
 Calls Tryz.prog 164 #[.agg #[.int .i64 m, .int .i64 e, .int .i64 s]] w fun x w' => x = .returned (.bool (lfB m e s)) ∧ Below w.heap.size w w' := by
 have B := Below.nw w (.cells #[.int .i64 m, .int .i64 e, .int .i64 s] 66)
 have C1 := fun w' => isMode_any m w'
 have C2 := fun w' => isEpoch17_any e w'
 have C3 := fun w' => isTime_any s w'
 cases h1 : mdB m
 ·rw [show lfB m e s = false by unfold lfB; rw [h1]; rfl]
  go_enter Tryz.func164, Tryz.ntmps164; go_wp2_with fail; refine (C1 _).mono ?_; rintro e w' ⟨rfl, rfl⟩; rw [h1]; go_wp2_with fail
  go_ret
  exact ⟨rfl, B⟩
 cases h2 : epB e
 ·rw [show lfB m e s = false by unfold lfB; rw [h1, h2]; rfl]
  go_enter Tryz.func164, Tryz.ntmps164; go_wp2_with fail; refine (C1 _).mono ?_; rintro e w' ⟨rfl, rfl⟩; rw [h1]; go_wp2_with fail
  refine (C2 _).mono ?_
  rintro e w' ⟨rfl, rfl⟩
  rw [h2]
  go_wp2_with fail
  go_ret
  exact ⟨rfl, B⟩
 rw [show lfB m e s = okT s by unfold lfB; rw [h1, h2]; rfl]
 go_enter Tryz.func164, Tryz.ntmps164; go_wp2_with fail; refine (C1 _).mono ?_; rintro e w' ⟨rfl, rfl⟩; rw [h1]; go_wp2_with fail
 refine (C2 _).mono ?_
 rintro e w' ⟨rfl, rfl⟩
 rw [h2]
 go_wp2_with fail
 refine (C3 _).mono ?_
 rintro e w' ⟨rfl, rfl⟩
 go_wp2_with fail
 go_ret
 exact ⟨rfl, B⟩
set_option maxHeartbeats 4000000 in
theorem implLifeKnows_any (m e s : Int) (w : World) :
 Calls Tryz.prog 142 #[.agg #[.int .i64 m, .int .i64 e, .int .i64 s]] w fun x w' => x = .returned (.bool (knB m e s)) ∧ Below w.heap.size w w' := by
 have B := Below.nw w (.cells #[.int .i64 m, .int .i64 e, .int .i64 s] 66)
 have N := Tx3.new w (.int .i64 m) (.int .i64 e) (.int .i64 s) 66
 have C1 := fun w' => lifeOk_any m e s w'
 unfold knB
 cases h1 : lfB m e s
 ·rw [Bool.false_and]
  go_enter Tryz.func142, Tryz.ntmps142
  go_wp2_with fail
  refine (C1 _).mono ?_
  rintro x w1 ⟨rfl, hb⟩
  rw [h1]
  replace B := B.trans (hb.mono B.size)
  go_wp2_with fail
  go_ret
  exact ⟨rfl, B⟩
 rw [Bool.true_and]
 go_enter Tryz.func142, Tryz.ntmps142
 go_wp2_with fail
 refine (C1 _).mono ?_
 rintro x w1 ⟨rfl, hb⟩
 rw [h1]
 replace B := B.trans (hb.mono B.size)
 replace N := N.below hb
 clear hb C1
 obtain ⟨n0, n1, n2, n3, n4, n5, n6⟩ := id N
 cases h2 : (m == 2)
 ·go_wp2_with fail
  go_ret
  exact ⟨by first | rfl | simp [h2], B⟩
 ·go_wp2_with fail
  go_ret
  exact ⟨by first | rfl | simp [h2], B⟩
end Go.Proofs.YtddijpjgkifngaaGreatDoor
