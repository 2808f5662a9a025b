/- NonceOf and NonceParts: contracts, and the walks of their exact laws. A block of three cells of any values. A life: numbers; LifeOk, LifeMay, LifeKnows, LifeSends, LifeName in the specification. A clock that is read: what the laws make of it. What the laws make of a life and of an event. The program's LifeOk, LifeKnows, LifeSends, LifeName, LifeMay (labels and gotos), mayTake. -/
import Derived.WalkMore
import Derived.ScopeJumps
import Derived.Test.YtddijpjgkifngaaGreatM5
namespace Go.Proofs.YtddijpjgkifngaaGreat
open Go.RowKit
set_option linter.unusedVariables false
def epB (e : Int) : Bool := decide (0 ≤ e ∧ e ≤ 100000)
def kB (k : Int) : Bool := decide (0 ≤ k ∧ k ≤ 999)
def nnB (e k : Int) : Bool := epB e && kB k
def nnI (e k : Int) : Int := bif nnB e k then e * 1000 + k else 0
def npB (n : Int) : Bool := decide (0 ≤ n ∧ n ≤ 100000999)
def npE (n : Int) : Int := bif npB n then Int.tdiv n 1000 else 0
def npK (n : Int) : Int := bif npB n then Int.tmod n 1000 else 0
theorem np_nn (n : Int) : nnB (Int.tdiv n 1000) (Int.tmod n 1000) = npB n := by
 rw [Bool.eq_iff_iff]
 simp only [nnB, epB, kB, npB, Bool.and_eq_true, decide_eq_true_eq]
 rcases Int.le_total 0 n with h | h
 ·rw [Int.tdiv_eq_ediv_of_nonneg h, Int.tmod_eq_emod_of_nonneg h]; omega
 ·obtain ⟨m, rfl⟩ : ∃ m : Int, n = -m := ⟨-n, by omega⟩
  rw [Int.neg_tdiv, Int.neg_tmod, Int.tdiv_eq_ediv_of_nonneg (by omega), Int.tmod_eq_emod_of_nonneg (by omega)]; omega
set_option maxHeartbeats 400000 in
theorem isEpoch_any (n : Int) (w : World) :
 Calls Tryz.prog 207 #[.int .i64 n] w fun e w' => e = .returned (.bool (epB n)) ∧ w = w' := by
 go_enter Tryz.func207, Tryz.ntmps207
 go_wp2
 all_goals go_ret
 all_goals exact ⟨ret_bool (by rw [Bool.eq_iff_iff]; simp [epB]; try omega), rfl⟩
set_option maxHeartbeats 1000000 in
theorem implNonceOf_any (a k : Int) (w : World) :
 Calls Tryz.prog 217 #[.int .i64 a, .int .i64 k] w fun e w' => e = .returned (.tuple #[.int .i64 (nnI a k), .bool (nnB a k)]) ∧ w = w' := by
 cases h1 : epB a
 ·have HB : nnB a k = false := by rw [nnB, h1]; rfl
  have HI : nnI a k = 0 := by rw [nnI, HB]; rfl
  rw [HB, HI]
  go_enter Tryz.func217, Tryz.ntmps217
  go_wp2_with fail
  refine (isEpoch_any _ _).mono ?_
  rintro e w' ⟨rfl, rfl⟩
  rw [h1]
  go_wp2_with fail
  go_ret2
  exact ⟨rfl, rfl⟩
 ·by_cases h3 : k < 0
  ·have h2 : kB k = false := by simp [kB]; omega
   have HB : nnB a k = false := by rw [nnB, h2, Bool.and_false]
   have HI : nnI a k = 0 := by rw [nnI, HB]; rfl
   rw [HB, HI]
   go_enter Tryz.func217, Tryz.ntmps217
   go_wp2_with fail
   refine (isEpoch_any _ _).mono ?_
   rintro e w' ⟨rfl, rfl⟩
   rw [h1]
   go_wp2_with fail
   go_ret2
   exact ⟨rfl, rfl⟩
  ·by_cases h4 : 1000 ≤ k
   ·have h2 : kB k = false := by simp [kB]; omega
    have HB : nnB a k = false := by rw [nnB, h2, Bool.and_false]
    have HI : nnI a k = 0 := by rw [nnI, HB]; rfl
    rw [HB, HI]
    go_enter Tryz.func217, Tryz.ntmps217
    go_wp2_with fail
    refine (isEpoch_any _ _).mono ?_
    rintro e w' ⟨rfl, rfl⟩
    rw [h1]
    go_wp2_with fail
    go_ret2
    exact ⟨rfl, rfl⟩
   ·have h2 : kB k = true := by simp [kB]; omega
    have HB : nnB a k = true := by rw [nnB, h1, h2]; rfl
    have HI : nnI a k = a * 1000 + k := by rw [nnI, HB]; rfl
    rw [HB, HI]
    have g1 : 0 ≤ a ∧ a ≤ 100000 := of_decide_eq_true h1
    have q1 : IntKind.i64.wrap (a * 1000) = a * 1000 := Go.IntWalk.i64_in _ ⟨by omega, by omega⟩
    have q2 : IntKind.i64.wrap (a * 1000 + k) = a * 1000 + k := Go.IntWalk.i64_in _ ⟨by omega, by omega⟩
    clear g1
    go_enter Tryz.func217, Tryz.ntmps217
    go_wp2_with fail
    refine (isEpoch_any _ _).mono ?_
    rintro e w' ⟨rfl, rfl⟩
    rw [h1]
    go_wp2_with fail
    go_ret2
    exact ⟨rfl, rfl⟩
set_option maxHeartbeats 1000000 in
theorem specNonceParts_any (n : Int) (w : World) :
 Calls Tryz.prog 138 #[.int .i64 n] w fun e w' => e = .returned (.tuple #[.int .i64 (npE n), .int .i64 (npK n), .bool (npB n)]) ∧ w = w' := by
 cases h1 : npB n
 ·have HE : npE n = 0 := by rw [npE, h1]; rfl
  have HK : npK n = 0 := by rw [npK, h1]; rfl
  rw [HE, HK]
  unfold npB at h1
  go_enter Tryz.func138, Tryz.ntmps138
  go_wp2_with fail
  refine (l1In_any _ _ _ _).mono ?_
  rintro e w' ⟨rfl, rfl⟩
  rw [h1]
  go_wp2_with fail
  go_ret3
  exact ⟨rfl, rfl⟩
 ·have HE : npE n = Int.tdiv n 1000 := by rw [npE, h1]; rfl
  have HK : npK n = Int.tmod n 1000 := by rw [npK, h1]; rfl
  rw [HE, HK]
  unfold npB at h1
  have g := of_decide_eq_true h1
  have q1 : IntKind.i64.wrap (Int.tdiv n 1000) = Int.tdiv n 1000 := by rw [Int.tdiv_eq_ediv_of_nonneg g.1]; exact Go.IntWalk.i64_in _ ⟨by omega, by omega⟩
  have q2 : IntKind.i64.wrap (Int.tmod n 1000) = Int.tmod n 1000 := by rw [Int.tmod_eq_emod_of_nonneg g.1]; exact Go.IntWalk.i64_in _ ⟨by omega, by omega⟩
  clear g
  go_enter Tryz.func138, Tryz.ntmps138
  go_wp2_with fail
  refine (l1In_any _ _ _ _).mono ?_
  rintro e w' ⟨rfl, rfl⟩
  rw [h1]
  go_wp2_with fail
  go_ret3
  exact ⟨rfl, rfl⟩
set_option maxHeartbeats 1000000 in
theorem implNonceParts_any (n : Int) (w : World) (hw : (Lit.int .i64 n).wf = true) :
 Calls Tryz.prog 208 #[.int .i64 n] w fun e w' => e = .returned (.tuple #[.int .i64 (npE n), .int .i64 (npK n), .bool (npB n)]) ∧ w = w' := by
 have hr : -9223372036854775808 ≤ n ∧ n ≤ 9223372036854775807 := by simp only [Lit.wf, Bool.and_eq_true, decide_eq_true_eq] at hw; exact hw
 have q1 : IntKind.i64.wrap (Int.tdiv n 1000) = Int.tdiv n 1000 := Go.IntWalk.i64_in _ (by
  rcases Int.le_total 0 n with h | h
  ·rw [Int.tdiv_eq_ediv_of_nonneg h]; exact ⟨by omega, by omega⟩
  ·obtain ⟨m, rfl⟩ : ∃ m : Int, n = -m := ⟨-n, by omega⟩
   rw [Int.neg_tdiv, Int.tdiv_eq_ediv_of_nonneg (by omega)]; exact ⟨by omega, by omega⟩)
 have q2 : IntKind.i64.wrap (Int.tmod n 1000) = Int.tmod n 1000 := Go.IntWalk.i64_in _ (by
  rcases Int.le_total 0 n with h | h
  ·rw [Int.tmod_eq_emod_of_nonneg h]; exact ⟨by omega, by omega⟩
  ·obtain ⟨m, rfl⟩ : ∃ m : Int, n = -m := ⟨-n, by omega⟩
   rw [Int.neg_tmod, Int.tmod_eq_emod_of_nonneg (by omega)]; exact ⟨by omega, by omega⟩)
 have hn := np_nn n
 cases h1 : npB n
 ·have HE : npE n = 0 := by rw [npE, h1]; rfl
  have HK : npK n = 0 := by rw [npK, h1]; rfl
  rw [HE, HK]
  rw [h1] at hn
  have hi : nnI (Int.tdiv n 1000) (Int.tmod n 1000) = 0 := by rw [nnI, hn]; rfl
  clear hr hw
  go_enter Tryz.func208, Tryz.ntmps208
  go_wp2_with fail
  refine (implNonceOf_any _ _ _).mono ?_
  rintro e w' ⟨rfl, rfl⟩
  rw [hn]
  go_wp2_with fail
  go_ret3
  exact ⟨rfl, rfl⟩
 ·have HE : npE n = Int.tdiv n 1000 := by rw [npE, h1]; rfl
  have HK : npK n = Int.tmod n 1000 := by rw [npK, h1]; rfl
  rw [HE, HK]
  rw [h1] at hn
  clear hr hw
  go_enter Tryz.func208, Tryz.ntmps208
  go_wp2_with fail
  refine (implNonceOf_any _ _ _).mono ?_
  rintro e w' ⟨rfl, rfl⟩
  rw [hn]
  go_wp2_with fail
  go_ret3
  exact ⟨rfl, rfl⟩
end Go.Proofs.YtddijpjgkifngaaGreat
namespace Go.Proofs.YtddijpjgkifngaaGreat
open Go.RowKit
set_option linter.unusedVariables false
def Tx3 (w : World) (k : Nat) (u0 u1 u2 : Value) : Prop := k < w.heap.size ∧ w.cell? ⟨k, 0, none⟩ = some u0 ∧ w.cell? ⟨k, 1, none⟩ = some u1 ∧ w.cell? ⟨k, 2, none⟩ = some u2 ∧ w.frozen? ⟨k, 0, none⟩ = false ∧ w.frozen? ⟨k, 1, none⟩ = false ∧ w.frozen? ⟨k, 2, none⟩ = false
theorem Tx3.belowB {k B : Nat} {w w' : World} {u0 u1 u2 : Value} (h : Tx3 w k u0 u1 u2) (hw : Below B w w') (hk : k < B) : Tx3 w' k u0 u1 u2 := by
 obtain ⟨h0, h1, h2, h3, f1, f2, f3⟩ := h
 exact ⟨Nat.lt_of_lt_of_le h0 hw.size, by rw [hw.cell (p := ⟨k, 0, none⟩) hk]; exact h1, by rw [hw.cell (p := ⟨k, 1, none⟩) hk]; exact h2, by rw [hw.cell (p := ⟨k, 2, none⟩) hk]; exact h3, by rw [hw.frozen (p := ⟨k, 0, none⟩) hk]; exact f1, by rw [hw.frozen (p := ⟨k, 1, none⟩) hk]; exact f2, by rw [hw.frozen (p := ⟨k, 2, none⟩) hk]; exact f3⟩
theorem Tx3.below {k : Nat} {w w' : World} {u0 u1 u2 : Value} (h : Tx3 w k u0 u1 u2) (hw : Below w.heap.size w w') : Tx3 w' k u0 u1 u2 := h.belowB hw h.1
theorem Tx3.alloc {k : Nat} {w : World} {u0 u1 u2 : Value} (h : Tx3 w k u0 u1 u2) (o : Obj) : Tx3 (w.alloc o) k u0 u1 u2 := h.below ((Below.refl _ _).alloc (Nat.le_refl _) _)
theorem Tx3.new (w : World) (u0 u1 u2 : Value) (T : TypeId) : Tx3 (w.alloc (.cells #[u0, u1, u2] T)) w.heap.size u0 u1 u2 := ⟨by simp, by simp, by simp, by simp, by simp, by simp, by simp⟩
theorem Tx3.drew {k : Nat} {w : World} {u0 u1 u2 : Value} (h : Tx3 w k u0 u1 u2) : Tx3 w.drew k u0 u1 u2 := h
theorem Tx3.setO {k j : Nat} {w : World} {u0 u1 u2 : Value} (h : Tx3 w k u0 u1 u2) (hk : j ≠ k) (o : Nat) (u : Value) : Tx3 (w.setCell ⟨j, o, none⟩ u) k u0 u1 u2 := by
 have hne : ∀ q, (⟨j, o, none⟩ : Addr) ≠ ⟨k, q, none⟩ := fun q e => hk (congrArg Addr.block e)
 obtain ⟨h0, h1, h2, h3, f1, f2, f3⟩ := h
 exact ⟨by simpa using h0, by rw [World.cell?_setCell_other _ _ _ _ (hne _)]; exact h1, by rw [World.cell?_setCell_other _ _ _ _ (hne _)]; exact h2, by rw [World.cell?_setCell_other _ _ _ _ (hne _)]; exact h3, by simpa using f1, by simpa using f2, by simpa using f3⟩
theorem Tx3.set0 {k : Nat} {w : World} {u0 u1 u2 : Value} (h : Tx3 w k u0 u1 u2) (x : Value) : Tx3 (w.setCell ⟨k, 0, none⟩ x) k x u1 u2 := by
 obtain ⟨h0, h1, h2, h3, f1, f2, f3⟩ := h
 exact ⟨by simpa using h0, World.cell?_setCell_same _ _ _ h1, (World.cell?_setCell_other _ _ _ _ (by simp)).trans h2, (World.cell?_setCell_other _ _ _ _ (by simp)).trans h3, by simpa using f1, by simpa using f2, by simpa using f3⟩
theorem Tx3.set1 {k : Nat} {w : World} {u0 u1 u2 : Value} (h : Tx3 w k u0 u1 u2) (x : Value) : Tx3 (w.setCell ⟨k, 1, none⟩ x) k u0 x u2 := by
 obtain ⟨h0, h1, h2, h3, f1, f2, f3⟩ := h
 exact ⟨by simpa using h0, (World.cell?_setCell_other _ _ _ _ (by simp)).trans h1, World.cell?_setCell_same _ _ _ h2, (World.cell?_setCell_other _ _ _ _ (by simp)).trans h3, by simpa using f1, by simpa using f2, by simpa using f3⟩
theorem Tx3.set2 {k : Nat} {w : World} {u0 u1 u2 : Value} (h : Tx3 w k u0 u1 u2) (x : Value) : Tx3 (w.setCell ⟨k, 2, none⟩ x) k u0 u1 x := by
 obtain ⟨h0, h1, h2, h3, f1, f2, f3⟩ := h
 exact ⟨by simpa using h0, (World.cell?_setCell_other _ _ _ _ (by simp)).trans h1, (World.cell?_setCell_other _ _ _ _ (by simp)).trans h2, World.cell?_setCell_same _ _ _ h3, by simpa using f1, by simpa using f2, by simpa using f3⟩
theorem Tx3.kept {w w' : World} {q : Option Nat} {k : Nat} {u0 u1 u2 : Value} (h : Tx3 w k u0 u1 u2) (hg : w.grownBy w' q) (hq : some k ≠ q) : Tx3 w' k u0 u1 u2 := by
 obtain ⟨h0, h1, h2, h3, f1, f2, f3⟩ := h
 have cc : ∀ i, w'.cell? ⟨k, i, none⟩ = w.cell? ⟨k, i, none⟩ := fun i => cell_grown hg h0 hq
 have ff : ∀ i, w'.frozen? ⟨k, i, none⟩ = w.frozen? ⟨k, i, none⟩ := fun i => by have := hg.block k h0 hq; simp only [World.frozen?]; rw [this]
 exact ⟨Nat.lt_of_lt_of_le h0 hg.size, by rw [cc]; exact h1, by rw [cc]; exact h2, by rw [cc]; exact h3, by rw [ff]; exact f1, by rw [ff]; exact f2, by rw [ff]; exact f3⟩
end Go.Proofs.YtddijpjgkifngaaGreat
namespace Go.Proofs.YtddijpjgkifngaaGreat
open Go.RowKit
set_option linter.unusedVariables false
def mdB (m : Int) : Bool := decide (0 ≤ m ∧ m ≤ 3)
def lfB (m e s : Int) : Bool := mdB m && (epB e && okT s)
def knB (m e s : Int) : Bool := lfB m e s && ((m == 2) || (m == 3))
set_option maxHeartbeats 4000000 in
theorem specLifeOk_any (m e s : Int) (w : World) :
 Calls Tryz.prog 87 #[.agg #[.int .i64 m, .int .i64 e, .int .i64 s]] w fun x w' => x = .returned (.bool (lfB m e s)) ∧ Below w.heap.size w w' := by
 have B := Below.nw w (.cells #[.int .i64 m, .int .i64 e, .int .i64 s] 85)
 have C1 : ∀ w', Calls Tryz.prog 42 #[.int .i64 m, .int .i64 0, .int .i64 3] w' fun e w'' => e = .returned (.bool (mdB m)) ∧ w' = w'' := fun w' => l1In_any m 0 3 w'
 have C2 : ∀ w', Calls Tryz.prog 42 #[.int .i64 e, .int .i64 0, .int .i64 100000] w' fun e' w'' => e' = .returned (.bool (epB e)) ∧ w' = w'' := fun w' => l1In_any e 0 100000 w'
 have C3 := fun w' => l2Time_any s w'
 cases h1 : mdB m
 ·rw [show lfB m e s = false by unfold lfB; rw [h1]; rfl]
  go_enter Tryz.func87, Tryz.ntmps87; go_wp2_with fail; refine (C1 _).mono ?_; rintro e w' ⟨rfl, rfl⟩; rw [h1]; go_wp2_with fail
  go_ret
  exact ⟨rfl, B⟩
 cases h2 : epB e
 ·rw [show lfB m e s = false by unfold lfB; rw [h1, h2]; rfl]
  go_enter Tryz.func87, Tryz.ntmps87; go_wp2_with fail; refine (C1 _).mono ?_; rintro e w' ⟨rfl, rfl⟩; rw [h1]; go_wp2_with fail
  refine (C2 _).mono ?_
  rintro e w' ⟨rfl, rfl⟩
  rw [h2]
  go_wp2_with fail
  go_ret
  exact ⟨rfl, B⟩
 rw [show lfB m e s = okT s by unfold lfB; rw [h1, h2]; rfl]
 go_enter Tryz.func87, Tryz.ntmps87; go_wp2_with fail; refine (C1 _).mono ?_; rintro e w' ⟨rfl, rfl⟩; rw [h1]; go_wp2_with fail
 refine (C2 _).mono ?_
 rintro e w' ⟨rfl, rfl⟩
 rw [h2]
 go_wp2_with fail
 refine (C3 _).mono ?_
 rintro e w' ⟨rfl, rfl⟩
 go_wp2_with fail
 go_ret
 exact ⟨rfl, B⟩
set_option maxHeartbeats 4000000 in
theorem specLifeKnows_any (m e s : Int) (w : World) :
 Calls Tryz.prog 93 #[.agg #[.int .i64 m, .int .i64 e, .int .i64 s]] w fun x w' => x = .returned (.bool (knB m e s)) ∧ Below w.heap.size w w' := by
 have B := Below.nw w (.cells #[.int .i64 m, .int .i64 e, .int .i64 s] 85)
 have N := Tx3.new w (.int .i64 m) (.int .i64 e) (.int .i64 s) 85
 have C1 := fun w' => specLifeOk_any m e s w'
 unfold knB
 cases h1 : lfB m e s
 ·rw [Bool.false_and]
  go_enter Tryz.func93, Tryz.ntmps93
  go_wp2_with fail
  refine (C1 _).mono ?_
  rintro x w1 ⟨rfl, hb⟩
  rw [h1]
  replace B := B.trans (hb.mono B.size)
  go_wp2_with fail
  go_ret
  exact ⟨rfl, B⟩
 rw [Bool.true_and]
 go_enter Tryz.func93, Tryz.ntmps93
 go_wp2_with fail
 refine (C1 _).mono ?_
 rintro x w1 ⟨rfl, hb⟩
 rw [h1]
 replace B := B.trans (hb.mono B.size)
 replace N := N.below hb
 clear hb C1
 obtain ⟨n0, n1, n2, n3, n4, n5, n6⟩ := id N
 cases h2 : (m == 2)
 ·go_wp2_with fail
  go_ret
  exact ⟨by first | rfl | simp [h2], B⟩
 ·go_wp2_with fail
  go_ret
  exact ⟨by first | rfl | simp [h2], B⟩
end Go.Proofs.YtddijpjgkifngaaGreat
namespace Go.Proofs.YtddijpjgkifngaaGreat
open Go.RowKit
set_option linter.unusedVariables false
set_option maxHeartbeats 2000000 in
theorem toApp_any (h : Bool) (l : Int) (w : World) :
 Calls Tryz.prog 143 #[.agg #[.bool h, .int .i64 l]] w fun e w' => e = .returned (.agg #[.bool h, .int .i64 l]) ∧ Below w.heap.size w w' := by
 go_enter Tryz.func143, Tryz.ntmps143
 go_wp2
 exact bodyPost_ret (v := .agg #[.bool h, .int .i64 l]) (by simp [results, Tryz.results143, go_sem]) rfl ⟨rfl, by repeat (first | exact Below.refl _ _ | refine Below.drew ?_ | refine Below.alloc ?_ (by first | (simp; done) | (simp; omega) | omega) _ | refine Below.setCell ?_ (by first | (simp; done) | (simp; omega) | omega) _ | refine Below.trans ?_ (Below.mono (by assumption) (by first | (simp; done) | (simp; omega) | omega)))⟩
set_option maxHeartbeats 2000000 in
theorem eqApp_same (h : Bool) (l : Int) (w : World) :
 Calls Tryz.prog 157 #[.agg #[.bool h, .int .i64 l], .agg #[.bool h, .int .i64 l]] w fun e w' => e = .returned (.bool true) ∧ Below w.heap.size w w' := by
 have hx : (h != h) = false := by simp
 go_enter Tryz.func157, Tryz.ntmps157
 go_wp2
 go_ret
 exact ⟨rfl, by repeat (first | exact Below.refl _ _ | refine Below.drew ?_ | refine Below.alloc ?_ (by first | (simp; done) | (simp; omega) | omega) _ | refine Below.setCell ?_ (by first | (simp; done) | (simp; omega) | omega) _ | refine Below.trans ?_ (Below.mono (by assumption) (by first | (simp; done) | (simp; omega) | omega)))⟩
end Go.Proofs.YtddijpjgkifngaaGreat
namespace Go.Proofs.YtddijpjgkifngaaGreat
open Go.RowKit
set_option linter.unusedVariables false
set_option maxHeartbeats 2000000 in
theorem toLife_any (m e s : Int) (w : World) :
 Calls Tryz.prog 139 #[.agg #[.int .i64 m, .int .i64 e, .int .i64 s]] w fun x w' => x = .returned (.agg #[.int .i64 m, .int .i64 e, .int .i64 s]) ∧ Below w.heap.size w w' := by
 go_enter Tryz.func139, Tryz.ntmps139
 go_wp2_with fail
 exact bodyPost_ret (v := .agg #[.int .i64 m, .int .i64 e, .int .i64 s]) (by simp (maxDischargeDepth := 6) [results, Tryz.results139, go_sem, *]) rfl ⟨rfl, by repeat (first | exact Below.refl _ _ | refine Below.drew ?_ | refine Below.alloc ?_ (by first | (simp; done) | (simp; omega) | omega) _ | refine Below.setCell ?_ (by first | (simp; done) | (simp; omega) | omega) _ | refine Below.trans ?_ (Below.mono (by assumption) (by first | (simp; done) | (simp; omega) | omega)))⟩
set_option maxHeartbeats 2000000 in
theorem eqLife_same (m e s : Int) (w : World) :
 Calls Tryz.prog 153 #[.agg #[.int .i64 m, .int .i64 e, .int .i64 s], .agg #[.int .i64 m, .int .i64 e, .int .i64 s]] w fun x w' => x = .returned (.bool true) ∧ Below w.heap.size w w' := by
 go_enter Tryz.func153, Tryz.ntmps153
 go_wp2_with fail
 go_ret
 exact ⟨rfl, by repeat (first | exact Below.refl _ _ | refine Below.drew ?_ | refine Below.alloc ?_ (by first | (simp; done) | (simp; omega) | omega) _ | refine Below.setCell ?_ (by first | (simp; done) | (simp; omega) | omega) _ | refine Below.trans ?_ (Below.mono (by assumption) (by first | (simp; done) | (simp; omega) | omega)))⟩
end Go.Proofs.YtddijpjgkifngaaGreat
namespace Go.Proofs.YtddijpjgkifngaaGreat
open Go.RowKit
set_option linter.unusedVariables false
set_option maxHeartbeats 400000 in
theorem isMode_any (n : Int) (w : World) :
 Calls Tryz.prog 206 #[.int .i64 n] w fun e w' => e = .returned (.bool (mdB n)) ∧ w = w' := by
 go_enter Tryz.func206, Tryz.ntmps206
 go_wp2
 all_goals go_ret
 all_goals exact ⟨ret_bool (by rw [Bool.eq_iff_iff]; simp [mdB]; try omega), rfl⟩
set_option maxHeartbeats 400000 in
theorem isEpoch17_any (n : Int) (w : World) :
 Calls Tryz.prog 207 #[.int .i64 n] w fun e w' => e = .returned (.bool (epB n)) ∧ w = w' := by
 go_enter Tryz.func207, Tryz.ntmps207
 go_wp2
 all_goals go_ret
 all_goals exact ⟨ret_bool (by rw [Bool.eq_iff_iff]; simp [epB]; try omega), rfl⟩
set_option maxHeartbeats 4000000 in
theorem lifeOk_any (m e s : Int) (w : World) :
 Calls Tryz.prog 194 #[.agg #[.int .i64 m, .int .i64 e, .int .i64 s]] w fun x w' => x = .returned (.bool (lfB m e s)) ∧ Below w.heap.size w w' := by
 have B := Below.nw w (.cells #[.int .i64 m, .int .i64 e, .int .i64 s] 85)
 have C1 := fun w' => isMode_any m w'
 have C2 := fun w' => isEpoch17_any e w'
 have C3 := fun w' => isTime_any s w'
 cases h1 : mdB m
 ·rw [show lfB m e s = false by unfold lfB; rw [h1]; rfl]
  go_enter Tryz.func194, Tryz.ntmps194; go_wp2_with fail; refine (C1 _).mono ?_; rintro e w' ⟨rfl, rfl⟩; rw [h1]; go_wp2_with fail
  go_ret
  exact ⟨rfl, B⟩
 cases h2 : epB e
 ·rw [show lfB m e s = false by unfold lfB; rw [h1, h2]; rfl]
  go_enter Tryz.func194, Tryz.ntmps194; go_wp2_with fail; refine (C1 _).mono ?_; rintro e w' ⟨rfl, rfl⟩; rw [h1]; go_wp2_with fail
  refine (C2 _).mono ?_
  rintro e w' ⟨rfl, rfl⟩
  rw [h2]
  go_wp2_with fail
  go_ret
  exact ⟨rfl, B⟩
 rw [show lfB m e s = okT s by unfold lfB; rw [h1, h2]; rfl]
 go_enter Tryz.func194, Tryz.ntmps194; go_wp2_with fail; refine (C1 _).mono ?_; rintro e w' ⟨rfl, rfl⟩; rw [h1]; go_wp2_with fail
 refine (C2 _).mono ?_
 rintro e w' ⟨rfl, rfl⟩
 rw [h2]
 go_wp2_with fail
 refine (C3 _).mono ?_
 rintro e w' ⟨rfl, rfl⟩
 go_wp2_with fail
 go_ret
 exact ⟨rfl, B⟩
set_option maxHeartbeats 4000000 in
theorem implLifeKnows_any (m e s : Int) (w : World) :
 Calls Tryz.prog 178 #[.agg #[.int .i64 m, .int .i64 e, .int .i64 s]] w fun x w' => x = .returned (.bool (knB m e s)) ∧ Below w.heap.size w w' := by
 have B := Below.nw w (.cells #[.int .i64 m, .int .i64 e, .int .i64 s] 85)
 have N := Tx3.new w (.int .i64 m) (.int .i64 e) (.int .i64 s) 85
 have C1 := fun w' => lifeOk_any m e s w'
 unfold knB
 cases h1 : lfB m e s
 ·rw [Bool.false_and]
  go_enter Tryz.func178, Tryz.ntmps178
  go_wp2_with fail
  refine (C1 _).mono ?_
  rintro x w1 ⟨rfl, hb⟩
  rw [h1]
  replace B := B.trans (hb.mono B.size)
  go_wp2_with fail
  go_ret
  exact ⟨rfl, B⟩
 rw [Bool.true_and]
 go_enter Tryz.func178, Tryz.ntmps178
 go_wp2_with fail
 refine (C1 _).mono ?_
 rintro x w1 ⟨rfl, hb⟩
 rw [h1]
 replace B := B.trans (hb.mono B.size)
 replace N := N.below hb
 clear hb C1
 obtain ⟨n0, n1, n2, n3, n4, n5, n6⟩ := id N
 cases h2 : (m == 2)
 ·go_wp2_with fail
  go_ret
  exact ⟨by first | rfl | simp [h2], B⟩
 ·go_wp2_with fail
  go_ret
  exact ⟨by first | rfl | simp [h2], B⟩
end Go.Proofs.YtddijpjgkifngaaGreat
