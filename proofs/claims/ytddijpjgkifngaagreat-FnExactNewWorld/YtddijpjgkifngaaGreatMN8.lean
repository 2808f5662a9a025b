/- A block of three cells of any values. A life: numbers; LifeOk, LifeMay -/
import Derived.WalkMore
import Derived.ScopeJumps
import Derived.Test.YtddijpjgkifngaaGreatMN0
import Derived.Test.YtddijpjgkifngaaGreatMN6
namespace Go.Proofs.YtddijpjgkifngaaGreat
open Go.RowKit
set_option linter.unusedVariables false
set_option maxRecDepth 100000
set_option maxHeartbeats 16000000
def Tx3 (w : World) (k : Nat) (u0 u1 u2 : Value) : Prop := k < w.heap.size ∧ w.cell? ⟨k, 0, none⟩ = some u0 ∧ w.cell? ⟨k, 1, none⟩ = some u1 ∧ w.cell? ⟨k, 2, none⟩ = some u2 ∧ w.frozen? ⟨k, 0, none⟩ = false ∧ w.frozen? ⟨k, 1, none⟩ = false ∧ w.frozen? ⟨k, 2, none⟩ = false
theorem Tx3.belowB {k B : Nat} {w w' : World} {u0 u1 u2 : Value} (h : Tx3 w k u0 u1 u2) (hw : Below B w w') (hk : k < B) : Tx3 w' k u0 u1 u2 := by
 obtain ⟨h0, h1, h2, h3, f1, f2, f3⟩ := h
 exact ⟨Nat.lt_of_lt_of_le h0 hw.size, by rw [hw.cell (p := ⟨k, 0, none⟩) hk]; exact h1, by rw [hw.cell (p := ⟨k, 1, none⟩) hk]; exact h2, by rw [hw.cell (p := ⟨k, 2, none⟩) hk]; exact h3, by rw [hw.frozen (p := ⟨k, 0, none⟩) hk]; exact f1, by rw [hw.frozen (p := ⟨k, 1, none⟩) hk]; exact f2, by rw [hw.frozen (p := ⟨k, 2, none⟩) hk]; exact f3⟩
theorem Tx3.below {k : Nat} {w w' : World} {u0 u1 u2 : Value} (h : Tx3 w k u0 u1 u2) (hw : Below w.heap.size w w') : Tx3 w' k u0 u1 u2 := h.belowB hw h.1
theorem Tx3.alloc {k : Nat} {w : World} {u0 u1 u2 : Value} (h : Tx3 w k u0 u1 u2) (o : Obj) : Tx3 (w.alloc o) k u0 u1 u2 := h.below ((Below.refl _ _).alloc (Nat.le_refl _) _)
theorem Tx3.new (w : World) (u0 u1 u2 : Value) (T : TypeId) : Tx3 (w.alloc (.cells #[u0, u1, u2] T)) w.heap.size u0 u1 u2 := ⟨by simp, by simp, by simp, by simp, by simp, by simp, by simp⟩
theorem Tx3.drew {k : Nat} {w : World} {u0 u1 u2 : Value} (h : Tx3 w k u0 u1 u2) : Tx3 w.drew k u0 u1 u2 := h
theorem Tx3.setO {k j : Nat} {w : World} {u0 u1 u2 : Value} (h : Tx3 w k u0 u1 u2) (hk : j ≠ k) (o : Nat) (u : Value) : Tx3 (w.setCell ⟨j, o, none⟩ u) k u0 u1 u2 := by
 have hne : ∀ q, (⟨j, o, none⟩ : Addr) ≠ ⟨k, q, none⟩ := fun q e => hk (congrArg Addr.block e)
 obtain ⟨h0, h1, h2, h3, f1, f2, f3⟩ := h
 exact ⟨by simpa using h0, by rw [World.cell?_setCell_other _ _ _ _ (hne _)]; exact h1, by rw [World.cell?_setCell_other _ _ _ _ (hne _)]; exact h2, by rw [World.cell?_setCell_other _ _ _ _ (hne _)]; exact h3, by simpa using f1, by simpa using f2, by simpa using f3⟩
theorem Tx3.set0 {k : Nat} {w : World} {u0 u1 u2 : Value} (h : Tx3 w k u0 u1 u2) (x : Value) : Tx3 (w.setCell ⟨k, 0, none⟩ x) k x u1 u2 := by
 obtain ⟨h0, h1, h2, h3, f1, f2, f3⟩ := h
 exact ⟨by simpa using h0, World.cell?_setCell_same _ _ _ h1, (zO (by simp)).trans h2, (zO (by simp)).trans h3, by simpa using f1, by simpa using f2, by simpa using f3⟩
theorem Tx3.set1 {k : Nat} {w : World} {u0 u1 u2 : Value} (h : Tx3 w k u0 u1 u2) (x : Value) : Tx3 (w.setCell ⟨k, 1, none⟩ x) k u0 x u2 := by
 obtain ⟨h0, h1, h2, h3, f1, f2, f3⟩ := h
 exact ⟨by simpa using h0, (zO (by simp)).trans h1, World.cell?_setCell_same _ _ _ h2, (zO (by simp)).trans h3, by simpa using f1, by simpa using f2, by simpa using f3⟩
theorem Tx3.set2 {k : Nat} {w : World} {u0 u1 u2 : Value} (h : Tx3 w k u0 u1 u2) (x : Value) : Tx3 (w.setCell ⟨k, 2, none⟩ x) k u0 u1 x := by
 obtain ⟨h0, h1, h2, h3, f1, f2, f3⟩ := h
 exact ⟨by simpa using h0, (zO (by simp)).trans h1, (zO (by simp)).trans h2, World.cell?_setCell_same _ _ _ h3, by simpa using f1, by simpa using f2, by simpa using f3⟩
theorem Tx3.kept {w w' : World} {q : Option Nat} {k : Nat} {u0 u1 u2 : Value} (h : Tx3 w k u0 u1 u2) (hg : w.grownBy w' q) (hq : some k ≠ q) : Tx3 w' k u0 u1 u2 := by
 obtain ⟨h0, h1, h2, h3, f1, f2, f3⟩ := h
 have cc : ∀ i, w'.cell? ⟨k, i, none⟩ = w.cell? ⟨k, i, none⟩ := fun i => bK hg h0 hq
 have ff : ∀ i, w'.frozen? ⟨k, i, none⟩ = w.frozen? ⟨k, i, none⟩ := fun i => by have := hg.block k h0 hq; simp only [World.frozen?]; rw [this]
 exact ⟨Nat.lt_of_lt_of_le h0 hg.size, by rw [cc]; exact h1, by rw [cc]; exact h2, by rw [cc]; exact h3, by rw [ff]; exact f1, by rw [ff]; exact f2, by rw [ff]; exact f3⟩
def mdB (m : Int) : Bool := decide (0 ≤ m ∧ m ≤ 3)
def lfB (m e s : Int) : Bool := mdB m && (epB e && okT s)
def knB (m e s : Int) : Bool := lfB m e s && ((m == 2) || (m == 3))
theorem bT (m e s : Int) (w : World) :
 Calls Tryz.prog 87 #[.agg #[.int .i64 m, .int .i64 e, .int .i64 s]] w fun x w' => x = .returned (.bool (lfB m e s)) ∧ Below w.heap.size w w' := by
 have B := Below.nw w (.cells #[.int .i64 m, .int .i64 e, .int .i64 s] 85)
 have C1 : ∀ w', Calls Tryz.prog 42 #[.int .i64 m, .int .i64 0, .int .i64 3] w' fun e w'' => e = .returned (.bool (mdB m)) ∧ w' = w'' := fun w' => al m 0 3 w'
 have C2 : ∀ w', Calls Tryz.prog 42 #[.int .i64 e, .int .i64 0, .int .i64 100000] w' fun e' w'' => e' = .returned (.bool (epB e)) ∧ w' = w'' := fun w' => al e 0 100000 w'
 have C3 := fun w' => aE s w'
 cases h1 : mdB m
 ·rw [show lfB m e s = false by unfold lfB; rw [h1]; rfl]
  go_enter Tryz.func87, Tryz.ntmps87; go_wp2_with fail; refine (C1 _).mono ?_; rintro e w' ⟨rfl, rfl⟩; rw [h1]; go_wp2_with fail
  go_ret
  exact ⟨rfl, B⟩
 cases h2 : epB e
 ·rw [show lfB m e s = false by unfold lfB; rw [h1, h2]; rfl]
  go_enter Tryz.func87, Tryz.ntmps87; go_wp2_with fail; refine (C1 _).mono ?_; rintro e w' ⟨rfl, rfl⟩; rw [h1]; go_wp2_with fail
  refine (C2 _).mono ?_
  rintro e w' ⟨rfl, rfl⟩
  rw [h2]
  go_wp2_with fail
  go_ret
  exact ⟨rfl, B⟩
 rw [show lfB m e s = okT s by unfold lfB; rw [h1, h2]; rfl]
 go_enter Tryz.func87, Tryz.ntmps87; go_wp2_with fail; refine (C1 _).mono ?_; rintro e w' ⟨rfl, rfl⟩; rw [h1]; go_wp2_with fail
 refine (C2 _).mono ?_
 rintro e w' ⟨rfl, rfl⟩
 rw [h2]
 go_wp2_with fail
 refine (C3 _).mono ?_
 rintro e w' ⟨rfl, rfl⟩
 go_wp2_with fail
 go_ret
 exact ⟨rfl, B⟩
theorem cx (m e s : Int) (w : World) :
 Calls Tryz.prog 93 #[.agg #[.int .i64 m, .int .i64 e, .int .i64 s]] w fun x w' => x = .returned (.bool (knB m e s)) ∧ Below w.heap.size w w' := by
 have B := Below.nw w (.cells #[.int .i64 m, .int .i64 e, .int .i64 s] 85)
 have N := Tx3.new w (.int .i64 m) (.int .i64 e) (.int .i64 s) 85
 have C1 := fun w' => bT m e s w'
 unfold knB
 cases h1 : lfB m e s
 ·rw [Bool.false_and]
  go_enter Tryz.func93, Tryz.ntmps93
  go_wp2_with fail
  refine (C1 _).mono ?_
  rintro x w1 ⟨rfl, hb⟩
  rw [h1]
  replace B := B.trans (hb.mono B.size)
  go_wp2_with fail
  go_ret
  exact ⟨rfl, B⟩
 rw [Bool.true_and]
 go_enter Tryz.func93, Tryz.ntmps93
 go_wp2_with fail
 refine (C1 _).mono ?_
 rintro x w1 ⟨rfl, hb⟩
 rw [h1]
 replace B := B.trans (hb.mono B.size)
 replace N := N.below hb
 clear hb C1
 have n0 : _ ∧ _ := N
 cases h2 : (m == 2)
 ·go_wp2_with fail
  go_ret
  exact ⟨by first | rfl | simp [h2], B⟩
 ·go_wp2_with fail
  go_ret
  exact ⟨by first | rfl | simp [h2], B⟩
theorem gP (h : Bool) (l : Int) (w : World) :
 Calls Tryz.prog 157 #[.agg #[.bool h, .int .i64 l], .agg #[.bool h, .int .i64 l]] w fun e w' => e = .returned (.bool true) ∧ Below w.heap.size w w' := by
 have hx : (h != h) = false := by simp
 go_enter Tryz.func157, Tryz.ntmps157
 go_wp2
 go_ret
 exact ⟨rfl, zB⟩
theorem fQ (m e s : Int) (w : World) :
 Calls Tryz.prog 153 #[.agg #[.int .i64 m, .int .i64 e, .int .i64 s], .agg #[.int .i64 m, .int .i64 e, .int .i64 s]] w fun x w' => x = .returned (.bool true) ∧ Below w.heap.size w w' := by
 go_enter Tryz.func153, Tryz.ntmps153
 go_wp2_with fail
 go_ret
 exact ⟨rfl, zB⟩
theorem hJ (n : Int) (w : World) :
 Calls Tryz.prog 206 #[.int .i64 n] w fun e w' => e = .returned (.bool (mdB n)) ∧ w = w' := by
 go_enter Tryz.func206, Tryz.ntmps206
 go_wp2
 all_goals go_ret
 all_goals exact ⟨ab (by rw [Bool.eq_iff_iff]; simp [mdB]; try omega), rfl⟩
theorem ei (n : Int) (w : World) :
 Calls Tryz.prog 207 #[.int .i64 n] w fun e w' => e = .returned (.bool (epB n)) ∧ w = w' := by
 go_enter Tryz.func207, Tryz.ntmps207
 go_wp2
 all_goals go_ret
 all_goals exact ⟨ab (by rw [Bool.eq_iff_iff]; simp [epB]; try omega), rfl⟩
theorem dE (m e s : Int) (w : World) :
 Calls Tryz.prog 194 #[.agg #[.int .i64 m, .int .i64 e, .int .i64 s]] w fun x w' => x = .returned (.bool (lfB m e s)) ∧ Below w.heap.size w w' := by
 have B := Below.nw w (.cells #[.int .i64 m, .int .i64 e, .int .i64 s] 85)
 have C1 := fun w' => hJ m w'
 have C2 := fun w' => ei e w'
 have C3 := fun w' => aD s w'
 cases h1 : mdB m
 ·rw [show lfB m e s = false by unfold lfB; rw [h1]; rfl]
  go_enter Tryz.func194, Tryz.ntmps194; go_wp2_with fail; refine (C1 _).mono ?_; rintro e w' ⟨rfl, rfl⟩; rw [h1]; go_wp2_with fail
  go_ret
  exact ⟨rfl, B⟩
 cases h2 : epB e
 ·rw [show lfB m e s = false by unfold lfB; rw [h1, h2]; rfl]
  go_enter Tryz.func194, Tryz.ntmps194; go_wp2_with fail; refine (C1 _).mono ?_; rintro e w' ⟨rfl, rfl⟩; rw [h1]; go_wp2_with fail
  refine (C2 _).mono ?_
  rintro e w' ⟨rfl, rfl⟩
  rw [h2]
  go_wp2_with fail
  go_ret
  exact ⟨rfl, B⟩
 rw [show lfB m e s = okT s by unfold lfB; rw [h1, h2]; rfl]
 go_enter Tryz.func194, Tryz.ntmps194; go_wp2_with fail; refine (C1 _).mono ?_; rintro e w' ⟨rfl, rfl⟩; rw [h1]; go_wp2_with fail
 refine (C2 _).mono ?_
 rintro e w' ⟨rfl, rfl⟩
 rw [h2]
 go_wp2_with fail
 refine (C3 _).mono ?_
 rintro e w' ⟨rfl, rfl⟩
 go_wp2_with fail
 go_ret
 exact ⟨rfl, B⟩
theorem cr (m e s : Int) (w : World) :
 Calls Tryz.prog 178 #[.agg #[.int .i64 m, .int .i64 e, .int .i64 s]] w fun x w' => x = .returned (.bool (knB m e s)) ∧ Below w.heap.size w w' := by
 have B := Below.nw w (.cells #[.int .i64 m, .int .i64 e, .int .i64 s] 85)
 have N := Tx3.new w (.int .i64 m) (.int .i64 e) (.int .i64 s) 85
 have C1 := fun w' => dE m e s w'
 unfold knB
 cases h1 : lfB m e s
 ·rw [Bool.false_and]
  go_enter Tryz.func178, Tryz.ntmps178
  go_wp2_with fail
  refine (C1 _).mono ?_
  rintro x w1 ⟨rfl, hb⟩
  rw [h1]
  replace B := B.trans (hb.mono B.size)
  go_wp2_with fail
  go_ret
  exact ⟨rfl, B⟩
 rw [Bool.true_and]
 go_enter Tryz.func178, Tryz.ntmps178
 go_wp2_with fail
 refine (C1 _).mono ?_
 rintro x w1 ⟨rfl, hb⟩
 rw [h1]
 replace B := B.trans (hb.mono B.size)
 replace N := N.below hb
 clear hb C1
 have n0 : _ ∧ _ := N
 cases h2 : (m == 2)
 ·go_wp2_with fail
  go_ret
  exact ⟨by first | rfl | simp [h2], B⟩
 ·go_wp2_with fail
  go_ret
  exact ⟨by first | rfl | simp [h2], B⟩
end Go.Proofs.YtddijpjgkifngaaGreat
