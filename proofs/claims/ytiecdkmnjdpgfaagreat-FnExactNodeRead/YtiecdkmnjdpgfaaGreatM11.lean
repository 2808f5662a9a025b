/- A block of three cells of any values. A life: numbers; LifeOk, LifeMay, LifeKnows, LifeSends, LifeName in the specification. Looks and readings, one by one. A clock that is read: what the laws make of it. What the laws make of a life and of an event. The program's LifeOk, LifeKnows, LifeSends, LifeName, LifeMay (labels and gotos), mayTake. AppRun in the specification. The program: a clock, a look, a reading; what a reading comes to. -/
import Derived.WalkMore
import Derived.ScopeJumps
import Derived.Test.YtiecdkmnjdpgfaaGreatM10
namespace Go.Proofs.YtiecdkmnjdpgfaaGreat
open Go.RowKit
set_option linter.unusedVariables false
def Tx3 (w : World) (k : Nat) (u0 u1 u2 : Value) : Prop := k < w.heap.size ∧ w.cell? ⟨k, 0, none⟩ = some u0 ∧ w.cell? ⟨k, 1, none⟩ = some u1 ∧ w.cell? ⟨k, 2, none⟩ = some u2 ∧ w.frozen? ⟨k, 0, none⟩ = false ∧ w.frozen? ⟨k, 1, none⟩ = false ∧ w.frozen? ⟨k, 2, none⟩ = false
theorem Tx3.belowB {k B : Nat} {w w' : World} {u0 u1 u2 : Value} (h : Tx3 w k u0 u1 u2) (hw : Below B w w') (hk : k < B) : Tx3 w' k u0 u1 u2 := by
  obtain ⟨h0, h1, h2, h3, f1, f2, f3⟩ := h
  exact ⟨Nat.lt_of_lt_of_le h0 hw.size, by rw [hw.cell (p := ⟨k, 0, none⟩) hk]; exact h1, by rw [hw.cell (p := ⟨k, 1, none⟩) hk]; exact h2, by rw [hw.cell (p := ⟨k, 2, none⟩) hk]; exact h3, by rw [hw.frozen (p := ⟨k, 0, none⟩) hk]; exact f1, by rw [hw.frozen (p := ⟨k, 1, none⟩) hk]; exact f2, by rw [hw.frozen (p := ⟨k, 2, none⟩) hk]; exact f3⟩
theorem Tx3.below {k : Nat} {w w' : World} {u0 u1 u2 : Value} (h : Tx3 w k u0 u1 u2) (hw : Below w.heap.size w w') : Tx3 w' k u0 u1 u2 := h.belowB hw h.1
theorem Tx3.but {w w' : World} {k q : Nat} {u0 u1 u2 : Value} (h : Tx3 w k u0 u1 u2) (hb : But q w w') (hq : k ≠ q) : Tx3 w' k u0 u1 u2 := by
  obtain ⟨h0, h1, h2, h3, f1, f2, f3⟩ := h
  exact ⟨Nat.lt_of_lt_of_le h0 hb.2.2.2.1, by rw [hb.cell h0 hq]; exact h1, by rw [hb.cell h0 hq]; exact h2, by rw [hb.cell h0 hq]; exact h3, by rw [hb.frozen h0 hq]; exact f1, by rw [hb.frozen h0 hq]; exact f2, by rw [hb.frozen h0 hq]; exact f3⟩
theorem Tx3.alloc {k : Nat} {w : World} {u0 u1 u2 : Value} (h : Tx3 w k u0 u1 u2) (o : Obj) : Tx3 (w.alloc o) k u0 u1 u2 := h.below ((Below.refl _ _).alloc (Nat.le_refl _) _)
theorem Tx3.new (w : World) (u0 u1 u2 : Value) (T : TypeId) : Tx3 (w.alloc (.cells #[u0, u1, u2] T)) w.heap.size u0 u1 u2 := ⟨by simp, by simp, by simp, by simp, by simp, by simp, by simp⟩
theorem Tx3.drew {k : Nat} {w : World} {u0 u1 u2 : Value} (h : Tx3 w k u0 u1 u2) : Tx3 w.drew k u0 u1 u2 := h
theorem Tx3.setO {k j : Nat} {w : World} {u0 u1 u2 : Value} (h : Tx3 w k u0 u1 u2) (hk : j ≠ k) (o : Nat) (u : Value) : Tx3 (w.setCell ⟨j, o, none⟩ u) k u0 u1 u2 := by
  have hne : ∀ q, (⟨j, o, none⟩ : Addr) ≠ ⟨k, q, none⟩ := fun q e => hk (congrArg Addr.block e)
  obtain ⟨h0, h1, h2, h3, f1, f2, f3⟩ := h
  exact ⟨by simpa using h0, by rw [World.cell?_setCell_other _ _ _ _ (hne _)]; exact h1, by rw [World.cell?_setCell_other _ _ _ _ (hne _)]; exact h2, by rw [World.cell?_setCell_other _ _ _ _ (hne _)]; exact h3, by simpa using f1, by simpa using f2, by simpa using f3⟩
theorem Tx3.set0 {k : Nat} {w : World} {u0 u1 u2 : Value} (h : Tx3 w k u0 u1 u2) (x : Value) : Tx3 (w.setCell ⟨k, 0, none⟩ x) k x u1 u2 := by
  obtain ⟨h0, h1, h2, h3, f1, f2, f3⟩ := h
  exact ⟨by simpa using h0, World.cell?_setCell_same _ _ _ h1, (World.cell?_setCell_other _ _ _ _ (by simp)).trans h2, (World.cell?_setCell_other _ _ _ _ (by simp)).trans h3, by simpa using f1, by simpa using f2, by simpa using f3⟩
theorem Tx3.set1 {k : Nat} {w : World} {u0 u1 u2 : Value} (h : Tx3 w k u0 u1 u2) (x : Value) : Tx3 (w.setCell ⟨k, 1, none⟩ x) k u0 x u2 := by
  obtain ⟨h0, h1, h2, h3, f1, f2, f3⟩ := h
  exact ⟨by simpa using h0, (World.cell?_setCell_other _ _ _ _ (by simp)).trans h1, World.cell?_setCell_same _ _ _ h2, (World.cell?_setCell_other _ _ _ _ (by simp)).trans h3, by simpa using f1, by simpa using f2, by simpa using f3⟩
theorem Tx3.set2 {k : Nat} {w : World} {u0 u1 u2 : Value} (h : Tx3 w k u0 u1 u2) (x : Value) : Tx3 (w.setCell ⟨k, 2, none⟩ x) k u0 u1 x := by
  obtain ⟨h0, h1, h2, h3, f1, f2, f3⟩ := h
  exact ⟨by simpa using h0, (World.cell?_setCell_other _ _ _ _ (by simp)).trans h1, (World.cell?_setCell_other _ _ _ _ (by simp)).trans h2, World.cell?_setCell_same _ _ _ h3, by simpa using f1, by simpa using f2, by simpa using f3⟩
theorem Tx3.kept {w w' : World} {q : Option Nat} {k : Nat} {u0 u1 u2 : Value} (h : Tx3 w k u0 u1 u2) (hg : w.grownBy w' q) (hq : some k ≠ q) : Tx3 w' k u0 u1 u2 := by
  obtain ⟨h0, h1, h2, h3, f1, f2, f3⟩ := h
  have cc : ∀ i, w'.cell? ⟨k, i, none⟩ = w.cell? ⟨k, i, none⟩ := fun i => cell_grown hg h0 hq
  have ff : ∀ i, w'.frozen? ⟨k, i, none⟩ = w.frozen? ⟨k, i, none⟩ := fun i => by have := hg.block k h0 hq; simp only [World.frozen?]; rw [this]
  exact ⟨Nat.lt_of_lt_of_le h0 hg.size, by rw [cc]; exact h1, by rw [cc]; exact h2, by rw [cc]; exact h3, by rw [ff]; exact f1, by rw [ff]; exact f2, by rw [ff]; exact f3⟩
end Go.Proofs.YtiecdkmnjdpgfaaGreat
namespace Go.Proofs.YtiecdkmnjdpgfaaGreat
open Go.RowKit
set_option linter.unusedVariables false
def mdB (m : Int) : Bool := decide (0 ≤ m ∧ m ≤ 3)
def lfB (m e s : Int) : Bool := mdB m && (epB e && okT s)
def knB (m e s : Int) : Bool := lfB m e s && ((m == 2) || (m == 3))
set_option maxHeartbeats 4000000 in
theorem specLifeOk_any (m e s : Int) (w : World) :
    Calls Tryz.prog 153 #[.agg #[.int .i64 m, .int .i64 e, .int .i64 s]] w fun x w' => x = .returned (.bool (lfB m e s)) ∧ Below w.heap.size w w' := by
  have B := Below.nw w (.cells #[.int .i64 m, .int .i64 e, .int .i64 s] 46)
  have C1 : ∀ w', Calls Tryz.prog 84 #[.int .i64 m, .int .i64 0, .int .i64 3] w' fun e w'' => e = .returned (.bool (mdB m)) ∧ w' = w'' := fun w' => l1In_any m 0 3 w'
  have C2 : ∀ w', Calls Tryz.prog 84 #[.int .i64 e, .int .i64 0, .int .i64 100000] w' fun e' w'' => e' = .returned (.bool (epB e)) ∧ w' = w'' := fun w' => l1In_any e 0 100000 w'
  have C3 := fun w' => l2Time_any s w'
  cases h1 : mdB m
  · rw [show lfB m e s = false by unfold lfB; rw [h1]; rfl]
    go_enter Tryz.func153, Tryz.ntmps153; go_wp2_with fail; refine (C1 _).mono ?_; rintro e w' ⟨rfl, rfl⟩; rw [h1]; go_wp2_with fail
    go_ret
    exact ⟨rfl, B⟩
  cases h2 : epB e
  · rw [show lfB m e s = false by unfold lfB; rw [h1, h2]; rfl]
    go_enter Tryz.func153, Tryz.ntmps153; go_wp2_with fail; refine (C1 _).mono ?_; rintro e w' ⟨rfl, rfl⟩; rw [h1]; go_wp2_with fail
    refine (C2 _).mono ?_
    rintro e w' ⟨rfl, rfl⟩
    rw [h2]
    go_wp2_with fail
    go_ret
    exact ⟨rfl, B⟩
  rw [show lfB m e s = okT s by unfold lfB; rw [h1, h2]; rfl]
  go_enter Tryz.func153, Tryz.ntmps153; go_wp2_with fail; refine (C1 _).mono ?_; rintro e w' ⟨rfl, rfl⟩; rw [h1]; go_wp2_with fail
  refine (C2 _).mono ?_
  rintro e w' ⟨rfl, rfl⟩
  rw [h2]
  go_wp2_with fail
  refine (C3 _).mono ?_
  rintro e w' ⟨rfl, rfl⟩
  go_wp2_with fail
  go_ret
  exact ⟨rfl, B⟩
set_option maxHeartbeats 4000000 in
theorem specLifeKnows_any (m e s : Int) (w : World) :
    Calls Tryz.prog 174 #[.agg #[.int .i64 m, .int .i64 e, .int .i64 s]] w fun x w' => x = .returned (.bool (knB m e s)) ∧ Below w.heap.size w w' := by
  have B := Below.nw w (.cells #[.int .i64 m, .int .i64 e, .int .i64 s] 46)
  have N := Tx3.new w (.int .i64 m) (.int .i64 e) (.int .i64 s) 46
  have C1 := fun w' => specLifeOk_any m e s w'
  unfold knB
  cases h1 : lfB m e s
  · rw [Bool.false_and]
    go_enter Tryz.func174, Tryz.ntmps174
    go_wp2_with fail
    refine (C1 _).mono ?_
    rintro x w1 ⟨rfl, hb⟩
    rw [h1]
    replace B := B.trans (hb.mono B.size)
    go_wp2_with fail
    go_ret
    exact ⟨rfl, B⟩
  rw [Bool.true_and]
  go_enter Tryz.func174, Tryz.ntmps174
  go_wp2_with fail
  refine (C1 _).mono ?_
  rintro x w1 ⟨rfl, hb⟩
  rw [h1]
  replace B := B.trans (hb.mono B.size)
  replace N := N.below hb
  clear hb C1
  obtain ⟨n0, n1, n2, n3, n4, n5, n6⟩ := id N
  cases h2 : (m == 2)
  · go_wp2_with fail
    go_ret
    exact ⟨by first | rfl | simp [h2], B⟩
  · go_wp2_with fail
    go_ret
    exact ⟨by first | rfl | simp [h2], B⟩
end Go.Proofs.YtiecdkmnjdpgfaaGreat
namespace Go.Proofs.YtiecdkmnjdpgfaaGreat
open Go.RowKit
set_option linter.unusedVariables false
abbrev LkT : Type := Bool × Int × Int
end Go.Proofs.YtiecdkmnjdpgfaaGreat
namespace Go.Proofs.YtiecdkmnjdpgfaaGreat
open Go.RowKit
set_option linter.unusedVariables false
set_option maxHeartbeats 2000000 in
theorem toApp_any (h : Bool) (l : Int) (w : World) :
    Calls Tryz.prog 43 #[.agg #[.bool h, .int .i64 l]] w fun e w' => e = .returned (.agg #[.bool h, .int .i64 l]) ∧ Below w.heap.size w w' := by
  go_enter Tryz.func43, Tryz.ntmps43
  go_wp2
  exact bodyPost_ret (v := .agg #[.bool h, .int .i64 l]) (by simp [results, Tryz.results43, go_sem]) rfl ⟨rfl, by repeat (first | exact Below.refl _ _ | refine Below.drew ?_ | refine Below.alloc ?_ (by first | (simp; done) | (simp; omega) | omega) _ | refine Below.setCell ?_ (by first | (simp; done) | (simp; omega) | omega) _ | refine Below.trans ?_ (Below.mono (by assumption) (by first | (simp; done) | (simp; omega) | omega)))⟩
set_option maxHeartbeats 2000000 in
theorem eqApp_same (h : Bool) (l : Int) (w : World) :
    Calls Tryz.prog 53 #[.agg #[.bool h, .int .i64 l], .agg #[.bool h, .int .i64 l]] w fun e w' => e = .returned (.bool true) ∧ Below w.heap.size w w' := by
  have hx : (h != h) = false := by simp
  go_enter Tryz.func53, Tryz.ntmps53
  go_wp2
  go_ret
  exact ⟨rfl, by repeat (first | exact Below.refl _ _ | refine Below.drew ?_ | refine Below.alloc ?_ (by first | (simp; done) | (simp; omega) | omega) _ | refine Below.setCell ?_ (by first | (simp; done) | (simp; omega) | omega) _ | refine Below.trans ?_ (Below.mono (by assumption) (by first | (simp; done) | (simp; omega) | omega)))⟩
end Go.Proofs.YtiecdkmnjdpgfaaGreat
namespace Go.Proofs.YtiecdkmnjdpgfaaGreat
open Go.RowKit
set_option linter.unusedVariables false
set_option maxHeartbeats 2000000 in
theorem toLife_any (m e s : Int) (w : World) :
    Calls Tryz.prog 39 #[.agg #[.int .i64 m, .int .i64 e, .int .i64 s]] w fun x w' => x = .returned (.agg #[.int .i64 m, .int .i64 e, .int .i64 s]) ∧ Below w.heap.size w w' := by
  go_enter Tryz.func39, Tryz.ntmps39
  go_wp2_with fail
  exact bodyPost_ret (v := .agg #[.int .i64 m, .int .i64 e, .int .i64 s]) (by simp (maxDischargeDepth := 6) [results, Tryz.results39, go_sem, *]) rfl ⟨rfl, by repeat (first | exact Below.refl _ _ | refine Below.drew ?_ | refine Below.alloc ?_ (by first | (simp; done) | (simp; omega) | omega) _ | refine Below.setCell ?_ (by first | (simp; done) | (simp; omega) | omega) _ | refine Below.trans ?_ (Below.mono (by assumption) (by first | (simp; done) | (simp; omega) | omega)))⟩
set_option maxHeartbeats 2000000 in
theorem eqLife_same (m e s : Int) (w : World) :
    Calls Tryz.prog 49 #[.agg #[.int .i64 m, .int .i64 e, .int .i64 s], .agg #[.int .i64 m, .int .i64 e, .int .i64 s]] w fun x w' => x = .returned (.bool true) ∧ Below w.heap.size w w' := by
  go_enter Tryz.func49, Tryz.ntmps49
  go_wp2_with fail
  go_ret
  exact ⟨rfl, by repeat (first | exact Below.refl _ _ | refine Below.drew ?_ | refine Below.alloc ?_ (by first | (simp; done) | (simp; omega) | omega) _ | refine Below.setCell ?_ (by first | (simp; done) | (simp; omega) | omega) _ | refine Below.trans ?_ (Below.mono (by assumption) (by first | (simp; done) | (simp; omega) | omega)))⟩
end Go.Proofs.YtiecdkmnjdpgfaaGreat
namespace Go.Proofs.YtiecdkmnjdpgfaaGreat
open Go.RowKit
set_option linter.unusedVariables false
set_option maxHeartbeats 400000 in
theorem isMode_any (n : Int) (w : World) :
    Calls Tryz.prog 218 #[.int .i64 n] w fun e w' => e = .returned (.bool (mdB n)) ∧ w = w' := by
  go_enter Tryz.func218, Tryz.ntmps218
  go_wp2
  all_goals go_ret
  all_goals exact ⟨ret_bool (by rw [Bool.eq_iff_iff]; simp [mdB]; try omega), rfl⟩
set_option maxHeartbeats 400000 in
theorem isEpoch17_any (n : Int) (w : World) :
    Calls Tryz.prog 219 #[.int .i64 n] w fun e w' => e = .returned (.bool (epB n)) ∧ w = w' := by
  go_enter Tryz.func219, Tryz.ntmps219
  go_wp2
  all_goals go_ret
  all_goals exact ⟨ret_bool (by rw [Bool.eq_iff_iff]; simp [epB]; try omega), rfl⟩
set_option maxHeartbeats 4000000 in
theorem lifeOk_any (m e s : Int) (w : World) :
    Calls Tryz.prog 190 #[.agg #[.int .i64 m, .int .i64 e, .int .i64 s]] w fun x w' => x = .returned (.bool (lfB m e s)) ∧ Below w.heap.size w w' := by
  have B := Below.nw w (.cells #[.int .i64 m, .int .i64 e, .int .i64 s] 46)
  have C1 := fun w' => isMode_any m w'
  have C2 := fun w' => isEpoch17_any e w'
  have C3 := fun w' => isTime_any s w'
  cases h1 : mdB m
  · rw [show lfB m e s = false by unfold lfB; rw [h1]; rfl]
    go_enter Tryz.func190, Tryz.ntmps190; go_wp2_with fail; refine (C1 _).mono ?_; rintro e w' ⟨rfl, rfl⟩; rw [h1]; go_wp2_with fail
    go_ret
    exact ⟨rfl, B⟩
  cases h2 : epB e
  · rw [show lfB m e s = false by unfold lfB; rw [h1, h2]; rfl]
    go_enter Tryz.func190, Tryz.ntmps190; go_wp2_with fail; refine (C1 _).mono ?_; rintro e w' ⟨rfl, rfl⟩; rw [h1]; go_wp2_with fail
    refine (C2 _).mono ?_
    rintro e w' ⟨rfl, rfl⟩
    rw [h2]
    go_wp2_with fail
    go_ret
    exact ⟨rfl, B⟩
  rw [show lfB m e s = okT s by unfold lfB; rw [h1, h2]; rfl]
  go_enter Tryz.func190, Tryz.ntmps190; go_wp2_with fail; refine (C1 _).mono ?_; rintro e w' ⟨rfl, rfl⟩; rw [h1]; go_wp2_with fail
  refine (C2 _).mono ?_
  rintro e w' ⟨rfl, rfl⟩
  rw [h2]
  go_wp2_with fail
  refine (C3 _).mono ?_
  rintro e w' ⟨rfl, rfl⟩
  go_wp2_with fail
  go_ret
  exact ⟨rfl, B⟩
set_option maxHeartbeats 4000000 in
theorem implLifeKnows_any (m e s : Int) (w : World) :
    Calls Tryz.prog 177 #[.agg #[.int .i64 m, .int .i64 e, .int .i64 s]] w fun x w' => x = .returned (.bool (knB m e s)) ∧ Below w.heap.size w w' := by
  have B := Below.nw w (.cells #[.int .i64 m, .int .i64 e, .int .i64 s] 46)
  have N := Tx3.new w (.int .i64 m) (.int .i64 e) (.int .i64 s) 46
  have C1 := fun w' => lifeOk_any m e s w'
  unfold knB
  cases h1 : lfB m e s
  · rw [Bool.false_and]
    go_enter Tryz.func177, Tryz.ntmps177
    go_wp2_with fail
    refine (C1 _).mono ?_
    rintro x w1 ⟨rfl, hb⟩
    rw [h1]
    replace B := B.trans (hb.mono B.size)
    go_wp2_with fail
    go_ret
    exact ⟨rfl, B⟩
  rw [Bool.true_and]
  go_enter Tryz.func177, Tryz.ntmps177
  go_wp2_with fail
  refine (C1 _).mono ?_
  rintro x w1 ⟨rfl, hb⟩
  rw [h1]
  replace B := B.trans (hb.mono B.size)
  replace N := N.below hb
  clear hb C1
  obtain ⟨n0, n1, n2, n3, n4, n5, n6⟩ := id N
  cases h2 : (m == 2)
  · go_wp2_with fail
    go_ret
    exact ⟨by first | rfl | simp [h2], B⟩
  · go_wp2_with fail
    go_ret
    exact ⟨by first | rfl | simp [h2], B⟩
end Go.Proofs.YtiecdkmnjdpgfaaGreat
namespace Go.Proofs.YtiecdkmnjdpgfaaGreat
open Go.RowKit
set_option linter.unusedVariables false
def anC (s : Bool × Int) (q : LkT) : Int := arC s.1 s.2 q.1 q.2.1 q.2.2
def anN (s : Bool × Int) (q : LkT) : Bool × Int := match (anC s q != 1) with | true => (arH s.1 s.2 q.1 q.2.1 q.2.2, arL s.1 s.2 q.1 q.2.1 q.2.2) | false => s
end Go.Proofs.YtiecdkmnjdpgfaaGreat
namespace Go.Proofs.YtiecdkmnjdpgfaaGreat
open Go.RowKit
set_option linter.unusedVariables false
set_option maxHeartbeats 2000000 in
theorem appok_any (h : Bool) (l : Int) (w : World) : Calls Tryz.prog 208 #[.agg #[.bool h, .int .i64 l]] w fun e w' => e = .returned (.bool (apB h l)) ∧ Below w.heap.size w w' := by
  have A := Below.nw w (.cells #[.bool h, .int .i64 l] 54)
  by_cases h1 : -1000000000000 ≤ l
  · by_cases h2 : l ≤ 1000000000000
    · have e0 : apB h l = (h || (l == 0)) := by unfold apB inT; rw [decide_eq_true ⟨h1, h2⟩]; rfl
      rw [e0]
      clear e0
      cases h
      · cases hz : (l == 0)
        all_goals
          go_enter Tryz.func208, Tryz.ntmps208
          go_wp2
          go_ret
          exact ⟨by first | rfl | (rw [hz]; rfl) | (simp; done), A⟩
      · go_enter Tryz.func208, Tryz.ntmps208
        go_wp2
        go_ret
        exact ⟨rfl, A⟩
    · have e0 : apB h l = false := by unfold apB inT; rw [decide_eq_false (by omega)]; rfl
      rw [e0]
      clear e0
      go_enter Tryz.func208, Tryz.ntmps208
      go_wp2
      go_ret
      exact ⟨rfl, A⟩
  · have e0 : apB h l = false := by unfold apB inT; rw [decide_eq_false (by omega)]; rfl
    rw [e0]
    clear e0
    go_enter Tryz.func208, Tryz.ntmps208
    go_wp2
    go_ret
    exact ⟨rfl, A⟩
set_option maxHeartbeats 2000000 in
theorem above_any (h : Bool) (l lo hi : Int) (w : World) : Calls Tryz.prog 210 #[.agg #[.bool h, .int .i64 l], .agg #[.int .i64 lo, .int .i64 hi]] w fun e w' => e = .returned (.bool (h && decide (hi < l))) ∧ Below w.heap.size w w' := by
  have A0 := Below.nw w (.cells #[.bool h, .int .i64 l] 54)
  have A1 := Below.nw (w.alloc (.cells #[.bool h, .int .i64 l] 54)) (.cells #[.int .i64 lo, .int .i64 hi] 47)
  have A := A0.trans (A1.mono A0.size)
  clear A0 A1
  cases h
  · go_enter Tryz.func210, Tryz.ntmps210
    go_wp2
    go_ret
    exact ⟨rfl, A⟩
  · by_cases c : hi < l
    · have c' : decide (hi < l) = true := decide_eq_true c
      rw [c']
      go_enter Tryz.func210, Tryz.ntmps210
      go_wp2
      go_ret
      exact ⟨rfl, A⟩
    · have c' : decide (hi < l) = false := decide_eq_false c
      rw [c']
      go_enter Tryz.func210, Tryz.ntmps210
      go_wp2
      go_ret
      exact ⟨rfl, A⟩
def gdM (h : Bool) (l m : Int) : Int := match h with | true => imx m l | false => m
set_option maxHeartbeats 2000000 in
theorem atLeast_any (h : Bool) (l m : Int) (w : World) : Calls Tryz.prog 211 #[.agg #[.bool h, .int .i64 l], .int .i64 m] w fun e w' => e = .returned (.int .i64 (gdM h l m)) ∧ Below w.heap.size w w' := by
  have A := Below.nw w (.cells #[.bool h, .int .i64 l] 54)
  have CR := fun w' => ranked_any m l w'
  cases h
  · show Calls Tryz.prog 211 #[.agg #[.bool false, .int .i64 l], .int .i64 m] w fun e w' => e = .returned (.int .i64 m) ∧ Below w.heap.size w w'
    go_enter Tryz.func211, Tryz.ntmps211
    go_wp2
    go_ret
    exact ⟨rfl, A⟩
  · show Calls Tryz.prog 211 #[.agg #[.bool true, .int .i64 l], .int .i64 m] w fun e w' => e = .returned (.int .i64 (imx m l)) ∧ Below w.heap.size w w'
    generalize imx m l = mx at *
    generalize imn m l = mn at *
    go_enter Tryz.func211, Tryz.ntmps211
    go_wp2_with fail
    refine (CR _).mono ?_
    rintro e w' ⟨rfl, rfl⟩
    go_wp2
    go_ret
    exact ⟨rfl, A⟩
set_option maxHeartbeats 2000000 in
theorem lookok_any (k : Bool) (lo hi : Int) (w : World) : Calls Tryz.prog 209 #[.agg #[.bool k, .int .i64 lo, .int .i64 hi]] w fun e w' => e = .returned (.bool (!k || okI lo hi)) ∧ Below w.heap.size w w' := by
  have A := Below.nw w (.cells #[.bool k, .int .i64 lo, .int .i64 hi] 242)
  have CR := fun w' => ok_any lo hi w'
  generalize okI lo hi = q at *
  cases k
  · go_enter Tryz.func209, Tryz.ntmps209
    go_wp2
    go_ret
    exact ⟨rfl, A⟩
  · go_enter Tryz.func209, Tryz.ntmps209
    go_wp2_with fail
    refine (CR _).mono ?_
    rintro e w' ⟨rfl, hb⟩
    have B := A.trans (hb.mono A.size)
    go_wp2
    go_ret
    exact ⟨rfl, B⟩
def gdX (h : Bool) (l : Int) (k : Bool) (lo hi m : Int) : Int := match arBad h l k lo hi, k, (h && decide (hi < l)) with | true, _, _ => 0 | false, false, _ => (match h with | true => l | false => 0) | false, true, true => l | false, true, false => gdM h l m
def gdS (h : Bool) (l : Int) (k : Bool) (lo hi m : Int) : Bool × Int := match arBad h l k lo hi, k, (h && decide (hi < l)) with | false, true, false => (true, gdM h l m) | _, _, _ => (h, l)
theorem gd_bad {h : Bool} {l : Int} {k : Bool} {lo hi m : Int} (e : arBad h l k lo hi = true) : gdX h l k lo hi m = 0 ∧ gdS h l k lo hi m = (h, l) := by
  refine ⟨?_, ?_⟩
  · unfold gdX; rw [e]
  · unfold gdS; rw [e]
theorem gd_no {l : Int} {lo hi m : Int} (e : arBad false l false lo hi = false) : gdX false l false lo hi m = 0 ∧ gdS false l false lo hi m = (false, l) := by
  refine ⟨?_, ?_⟩
  · unfold gdX; rw [e]
  · unfold gdS; rw [e]
theorem gd_old {l : Int} {lo hi m : Int} (e : arBad true l false lo hi = false) : gdX true l false lo hi m = l ∧ gdS true l false lo hi m = (true, l) := by
  refine ⟨?_, ?_⟩
  · unfold gdX; rw [e]
  · unfold gdS; rw [e]
theorem gd_held {h : Bool} {l : Int} {lo hi m : Int} (e : arBad h l true lo hi = false) (c : (h && decide (hi < l)) = true) : gdX h l true lo hi m = l ∧ gdS h l true lo hi m = (h, l) := by
  refine ⟨?_, ?_⟩
  · unfold gdX; rw [e, c]
  · unfold gdS; rw [e, c]
theorem gd_free {h : Bool} {l : Int} {lo hi m : Int} (e : arBad h l true lo hi = false) (c : (h && decide (hi < l)) = false) : gdX h l true lo hi m = gdM h l m ∧ gdS h l true lo hi m = (true, gdM h l m) := by
  refine ⟨?_, ?_⟩
  · unfold gdX; rw [e, c]
  · unfold gdS; rw [e, c]
theorem gd_mid {h : Bool} {l : Int} {k : Bool} {lo hi : Int} : gdX h l k lo hi (midI lo hi) = arX h l k lo hi ∧ gdS h l k lo hi (midI lo hi) = anN (h, l) (k, lo, hi) := by
  cases eb : arBad h l k lo hi
  · cases k
    · cases h
      · obtain ⟨e1, e2, e3, e4, e5⟩ := ar_no eb
        obtain ⟨g1, g2⟩ := gd_no (m := midI lo hi) eb
        refine ⟨g1.trans e3.symm, g2.trans ?_⟩
        unfold anN anC
        rw [e5, e1, e2]
        rfl
      · obtain ⟨e1, e2, e3, e4, e5⟩ := ar_old eb
        obtain ⟨g1, g2⟩ := gd_old (m := midI lo hi) eb
        refine ⟨g1.trans e3.symm, g2.trans ?_⟩
        unfold anN anC
        rw [e5, e1, e2]
        rfl
    · obtain ⟨e1, e2, e3, e4, e5⟩ := ar_known eb
      have hm : midI lo hi = (lo + hi) / 2 := by
        cases ho : okI lo hi
        · unfold arBad at eb
          rw [ho] at eb
          simp at eb
        · exact midI_t ho
      cases hc : (h && decide (hi < l))
      · obtain ⟨g1, g2⟩ := gd_free (m := midI lo hi) eb hc
        rw [hc] at e3
        have e6 : gdM h l (midI lo hi) = arM h l lo hi := by rw [hm]; rfl
        refine ⟨g1.trans (e6.trans e3.symm), g2.trans ?_⟩
        unfold anN anC
        rw [e5, e1, e2, e3, e6]
        rfl
      · obtain ⟨g1, g2⟩ := gd_held (m := midI lo hi) eb hc
        rw [hc] at e3
        have hh : h = true := by cases h <;> simp at hc ⊢
        refine ⟨g1.trans e3.symm, g2.trans ?_⟩
        unfold anN anC
        rw [e5, e1, e2, e3, hh]
        rfl
  · obtain ⟨e1, e2, e3, e4, e5⟩ := ar_eqs eb
    obtain ⟨g1, g2⟩ := gd_bad (m := midI lo hi) eb
    refine ⟨g1.trans e3.symm, g2.trans ?_⟩
    unfold anN anC
    rw [e5]
    rfl
end Go.Proofs.YtiecdkmnjdpgfaaGreat
