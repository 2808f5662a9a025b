/- Contracts of the small functions of chapter 2 (drift) in the specification and in the program. Contracts of OscOk, and the walk of its exact law. A local interval in memory; contracts of LocalOk, and the walk of its exact law. -/
import Derived.Test.YtddijpjgkifngaaGreatM1
namespace Go.Proofs.YtddijpjgkifngaaGreat
open Go.RowKit
set_option linter.unusedVariables false
theorem mul_bd {x y X Y : Int} (h1 : 0 ≤ x) (h2 : x ≤ X) (h3 : 0 ≤ y) (h4 : y ≤ Y) : 0 ≤ x * y ∧ x * y ≤ X * Y :=
 ⟨Int.mul_nonneg h1 h3, Int.mul_le_mul h2 h4 h3 (Int.le_trans h1 h2)⟩
def okD (n d : Int) : Bool := decide (1 ≤ d ∧ d ≤ 1000000 ∧ 0 ≤ n ∧ 2 * n ≤ d)
theorem okD_t {n d : Int} (h : okD n d = true) : 1 ≤ d ∧ d ≤ 1000000 ∧ 0 ≤ n ∧ 2 * n ≤ d := of_decide_eq_true h
def okT (t : Int) : Bool := decide (0 ≤ t ∧ t ≤ 1000000000000)
theorem okT_t {t : Int} (h : okT t = true) : 0 ≤ t ∧ t ≤ 1000000000000 := of_decide_eq_true h
theorem okT_f {t : Int} (h : okT t = false) : ¬ (0 ≤ t ∧ t ≤ 1000000000000) := of_decide_eq_false h
set_option maxHeartbeats 400000 in
theorem specDriftOk_any (n d : Int) (w : World) :
 Calls Tryz.prog 82 #[.agg #[.int .i64 n, .int .i64 d]] w fun e w' => e = .returned (.bool (okD n d)) ∧ Below w.heap.size w w' := by
 go_enter Tryz.func82, Tryz.ntmps82
 go_wp2
 all_goals go_ret
 all_goals exact ⟨ret_bool (by rw [Bool.eq_iff_iff]; simp [okD]; try omega), by repeat (first | exact Below.refl _ _ | refine Below.drew ?_ | refine Below.alloc ?_ (by first | (simp; done) | (simp; omega) | omega) _ | refine Below.setCell ?_ (by first | (simp; done) | (simp; omega) | omega) _ | refine Below.trans ?_ (Below.mono (by assumption) (by first | (simp; done) | (simp; omega) | omega)))⟩
set_option maxHeartbeats 400000 in
theorem okd_any (n d : Int) (w : World) :
 Calls Tryz.prog 146 #[.agg #[.int .i64 n, .int .i64 d]] w fun e w' => e = .returned (.bool (okD n d)) ∧ Below w.heap.size w w' := by
 have hd : d.tdiv 2 = if 0 ≤ d then d / 2 else -(-d / 2) := by
  split
  ·exact Int.tdiv_eq_ediv_of_nonneg ‹_›
  ·have h := Int.neg_tdiv (a := -d) (b := 2)
   have k : (-d).tdiv 2 = -d / 2 := Int.tdiv_eq_ediv_of_nonneg (by omega)
   rw [Int.neg_neg, k] at h
   exact h
 go_enter Tryz.func146, Tryz.ntmps146
 go_wp2
 all_goals go_ret
 all_goals exact ⟨ret_bool (by rw [Bool.eq_iff_iff]; simp [okD]; try (split at hd <;> omega)), by repeat (first | exact Below.refl _ _ | refine Below.drew ?_ | refine Below.alloc ?_ (by first | (simp; done) | (simp; omega) | omega) _ | refine Below.setCell ?_ (by first | (simp; done) | (simp; omega) | omega) _ | refine Below.trans ?_ (Below.mono (by assumption) (by first | (simp; done) | (simp; omega) | omega)))⟩
set_option maxHeartbeats 400000 in
theorem toDrift_any (n d : Int) (w : World) :
 Calls Tryz.prog 59 #[.agg #[.int .i64 n, .int .i64 d]] w fun e w' => e = .returned (.agg #[.int .i64 n, .int .i64 d]) ∧ Below w.heap.size w w' := by
 go_enter Tryz.func59, Tryz.ntmps59
 go_wp2
 exact bodyPost_ret (v := .agg #[.int .i64 n, .int .i64 d]) (by simp [results, Tryz.results59, go_sem]) rfl ⟨rfl, by repeat (first | exact Below.refl _ _ | refine Below.drew ?_ | refine Below.alloc ?_ (by first | (simp; done) | (simp; omega) | omega) _ | refine Below.setCell ?_ (by first | (simp; done) | (simp; omega) | omega) _ | refine Below.trans ?_ (Below.mono (by assumption) (by first | (simp; done) | (simp; omega) | omega)))⟩
set_option maxHeartbeats 400000 in
theorem eqDrift_same (n d : Int) (w : World) :
 Calls Tryz.prog 63 #[.agg #[.int .i64 n, .int .i64 d], .agg #[.int .i64 n, .int .i64 d]] w fun e w' => e = .returned (.bool true) ∧ Below w.heap.size w w' := by
 go_enter Tryz.func63, Tryz.ntmps63
 go_wp2
 go_ret
 exact ⟨rfl, by repeat (first | exact Below.refl _ _ | refine Below.drew ?_ | refine Below.alloc ?_ (by first | (simp; done) | (simp; omega) | omega) _ | refine Below.setCell ?_ (by first | (simp; done) | (simp; omega) | omega) _ | refine Below.trans ?_ (Below.mono (by assumption) (by first | (simp; done) | (simp; omega) | omega)))⟩
set_option maxHeartbeats 400000 in
theorem isTime_any (t : Int) (w : World) :
 Calls Tryz.prog 99 #[.int .i64 t] w fun e w' => e = .returned (.bool (okT t)) ∧ w = w' := by
 go_enter Tryz.func99, Tryz.ntmps99
 go_wp2
 all_goals go_ret
 all_goals exact ⟨ret_bool (by rw [Bool.eq_iff_iff]; simp [okT]; try omega), rfl⟩
set_option maxHeartbeats 400000 in
theorem l2Time_any (t : Int) (w : World) :
 Calls Tryz.prog 43 #[.int .i64 t] w fun e w' => e = .returned (.bool (okT t)) ∧ w = w' := by
 go_enter Tryz.func43, Tryz.ntmps43
 go_wp2
 all_goals go_ret
 all_goals exact ⟨ret_bool (by rw [Bool.eq_iff_iff]; simp [okT]; try omega), rfl⟩
set_option maxHeartbeats 400000 in
theorem slowest_any (n d : Int) (w : World) (h : okD n d = true) :
 Calls Tryz.prog 226 #[.agg #[.int .i64 n, .int .i64 d]] w fun e w' => e = .returned (.int .i64 (d - n)) ∧ Below w.heap.size w w' := by
 have ⟨h1, h2, h3, h4⟩ := okD_t h
 go_enter Tryz.func226, Tryz.ntmps226
 go_wp2
 go_ret
 exact ⟨rfl, by repeat (first | exact Below.refl _ _ | refine Below.drew ?_ | refine Below.alloc ?_ (by first | (simp; done) | (simp; omega) | omega) _ | refine Below.setCell ?_ (by first | (simp; done) | (simp; omega) | omega) _ | refine Below.trans ?_ (Below.mono (by assumption) (by first | (simp; done) | (simp; omega) | omega)))⟩
set_option maxHeartbeats 400000 in
theorem fastest_any (n d : Int) (w : World) (h : okD n d = true) :
 Calls Tryz.prog 224 #[.agg #[.int .i64 n, .int .i64 d]] w fun e w' => e = .returned (.int .i64 (d + n)) ∧ Below w.heap.size w w' := by
 have ⟨h1, h2, h3, h4⟩ := okD_t h
 go_enter Tryz.func224, Tryz.ntmps224
 go_wp2
 go_ret
 exact ⟨rfl, by repeat (first | exact Below.refl _ _ | refine Below.drew ?_ | refine Below.alloc ?_ (by first | (simp; done) | (simp; omega) | omega) _ | refine Below.setCell ?_ (by first | (simp; done) | (simp; omega) | omega) _ | refine Below.trans ?_ (Below.mono (by assumption) (by first | (simp; done) | (simp; omega) | omega)))⟩
set_option maxHeartbeats 400000 in
theorem slowest_wrap (n d : Int) (w : World) :
 Calls Tryz.prog 226 #[.agg #[.int .i64 n, .int .i64 d]] w fun e w' => e = .returned (.int .i64 (wrap64 (d - n))) ∧ Below w.heap.size w w' := by
 go_enter Tryz.func226, Tryz.ntmps226
 go_wp2
 go_ret
 exact ⟨rfl, by repeat (first | exact Below.refl _ _ | refine Below.drew ?_ | refine Below.alloc ?_ (by first | (simp; done) | (simp; omega) | omega) _ | refine Below.setCell ?_ (by first | (simp; done) | (simp; omega) | omega) _ | refine Below.trans ?_ (Below.mono (by assumption) (by first | (simp; done) | (simp; omega) | omega)))⟩
set_option maxHeartbeats 400000 in
theorem fastest_wrap (n d : Int) (w : World) :
 Calls Tryz.prog 224 #[.agg #[.int .i64 n, .int .i64 d]] w fun e w' => e = .returned (.int .i64 (wrap64 (d + n))) ∧ Below w.heap.size w w' := by
 go_enter Tryz.func224, Tryz.ntmps224
 go_wp2
 go_ret
 exact ⟨rfl, by repeat (first | exact Below.refl _ _ | refine Below.drew ?_ | refine Below.alloc ?_ (by first | (simp; done) | (simp; omega) | omega) _ | refine Below.setCell ?_ (by first | (simp; done) | (simp; omega) | omega) _ | refine Below.trans ?_ (Below.mono (by assumption) (by first | (simp; done) | (simp; omega) | omega)))⟩
def dnI (x n : Int) : Int := x / n
def upI (x n : Int) : Int := (x + n - 1) / n
theorem div_bd {x n : Int} (hx : 0 ≤ x) (hn : 0 < n) : 0 ≤ x / n ∧ x / n ≤ x :=
 ⟨Int.ediv_nonneg hx (by omega), Int.ediv_le_self n hx⟩
theorem dnI_bd {x n : Int} (hx : 0 ≤ x) (hn : 0 < n) : 0 ≤ dnI x n ∧ dnI x n ≤ x := div_bd hx hn
theorem upI_neg {x n : Int} (hn : 0 < n) : -(-x / n) = upI x n := by
 have a := Int.emod_add_mul_ediv (-x) n
 have b := Int.emod_nonneg (-x) (b := n) (by omega)
 have c := Int.emod_lt_of_pos (-x) hn
 unfold upI
 generalize -x / n = q at a ⊢
 generalize -x % n = r at a b c
 have e : x + n - 1 = (n - 1 - r) + n * -q := by rw [Int.mul_neg]; omega
 have z : (n - 1 - r) / n = 0 := Int.ediv_eq_zero_of_lt (by omega) (by omega)
 rw [e, Int.add_mul_ediv_left _ _ (by omega), z]
 omega
theorem upI_bd {x n : Int} (hx : 0 ≤ x) (hn : 0 < n) : 0 ≤ upI x n ∧ upI x n ≤ x := by
 have h0 : 0 ≤ upI x n := Int.ediv_nonneg (by omega) (by omega)
 refine ⟨h0, ?_⟩
 rw [← upI_neg hn] at h0 ⊢
 have a := Int.emod_add_mul_ediv (-x) n
 have b := Int.emod_nonneg (-x) (b := n) (by omega)
 have d := Int.emod_lt_of_pos (-x) hn
 generalize -x / n = q at a h0 ⊢
 generalize -x % n = r at a b d
 by_cases hq : q = 0
 ·omega
 ·have c : (n - 1) * 1 ≤ (n - 1) * -q := Int.mul_le_mul_of_nonneg_left (by omega) (by omega)
  rw [Int.sub_mul n 1 (-q), Int.mul_neg, Int.one_mul] at c
  omega
set_option maxHeartbeats 400000 in
theorem implDown_any (x n : Int) (w : World) (h1 : 0 ≤ x) (h2 : x ≤ 4000000000000000000) (hn : 0 < n) (hn2 : n ≤ 4000000000000000000) :
 Calls Tryz.prog 227 #[.int .i64 x, .int .i64 n] w fun e w' => e = .returned (.int .i64 (dnI x n)) ∧ w = w' := by
 have hne : (n == 0) = false := by rw [beq_eq_false_iff_ne]; omega
 have hq : x.tdiv n = dnI x n := Int.tdiv_eq_ediv_of_nonneg h1
 have ⟨b1, b2⟩ := dnI_bd h1 hn
 go_enter Tryz.func227, Tryz.ntmps227
 go_wp2
 all_goals go_ret
 all_goals exact ⟨ret_int (by first | exact hq | exact rfl | (rw [hq]; exact i64wrap (by omega) (by omega))), rfl⟩
set_option maxHeartbeats 400000 in
theorem implUp_any (x n : Int) (w : World) (h1 : 0 ≤ x) (h2 : x ≤ 4000000000000000000) (hn : 0 < n) (hn2 : n ≤ 4000000000000000000) :
 Calls Tryz.prog 225 #[.int .i64 x, .int .i64 n] w fun e w' => e = .returned (.int .i64 (upI x n)) ∧ w = w' := by
 have hne : (n == 0) = false := by rw [beq_eq_false_iff_ne]; omega
 have hq : (x + n - 1).tdiv n = upI x n := Int.tdiv_eq_ediv_of_nonneg (by omega)
 have ⟨b1, b2⟩ := upI_bd h1 hn
 go_enter Tryz.func225, Tryz.ntmps225
 go_wp2
 all_goals go_ret
 all_goals exact ⟨ret_int (by first | exact hq | exact rfl | (rw [hq]; exact i64wrap (by omega) (by omega))), rfl⟩
set_option maxHeartbeats 400000 in
theorem l1Up_any (x n : Int) (w : World) (h1 : 0 ≤ x) (h2 : x ≤ 4000000000000000000) (hn : 0 < n) (hn2 : n ≤ 4000000000000000000) :
 Calls Tryz.prog 212 #[.int .i64 x, .int .i64 n] w fun e w' => e = .returned (.int .i64 (upI x n)) ∧ w = w' := by
 have hq : -(-x / n) = upI x n := upI_neg hn
 have ⟨b1, b2⟩ := upI_bd h1 hn
 go_enter Tryz.func212, Tryz.ntmps212
 go_wp2_with (first | (go_at_call 213; refine (l1Down_any _ _ _ (by omega) (by omega) (by omega) (by omega)).mono ?_; rintro e w' ⟨rfl, rfl⟩))
 all_goals go_ret
 all_goals exact ⟨ret_int (by first | exact hq | exact rfl | (rw [hq]; exact i64wrap (by omega) (by omega))), rfl⟩
set_option maxHeartbeats 400000 in
theorem l2Told_any (x : Int) (w : World) (h : 0 ≤ x) :
 Calls Tryz.prog 211 #[.int .i64 x] w fun e w' => e = .returned (.tuple #[.int .i64 (sel (okT x) x), .bool (okT x)]) ∧ w = w' := by
 cases ht : okT x
 ·have := okT_f ht
  rw [sel_f rfl]
  go_enter Tryz.func211, Tryz.ntmps211
  go_wp2
  all_goals go_ret2
  all_goals first | exact ⟨rfl, rfl⟩ | omega
 ·have := okT_t ht
  rw [sel_t rfl]
  go_enter Tryz.func211, Tryz.ntmps211
  go_wp2
  all_goals go_ret2
  all_goals first | exact ⟨rfl, rfl⟩ | omega
end Go.Proofs.YtddijpjgkifngaaGreat
namespace Go.Proofs.YtddijpjgkifngaaGreat
open Go.RowKit
set_option linter.unusedVariables false
def Bx (w : World) (k : Nat) (x y : Int) : Prop := k < w.heap.size ∧ w.cell? ⟨k, 0, none⟩ = some (.int .i64 x) ∧ w.cell? ⟨k, 1, none⟩ = some (.int .i64 y) ∧ w.frozen? ⟨k, 0, none⟩ = false ∧ w.frozen? ⟨k, 1, none⟩ = false
theorem Bx.belowB {k B : Nat} {w w' : World} {x y : Int} (h : Bx w k x y) (hw : Below B w w') (hk : k < B) : Bx w' k x y :=
 ⟨Nat.lt_of_lt_of_le h.1 hw.size, by rw [hw.cell (p := ⟨k, 0, none⟩) hk]; exact h.2.1, by rw [hw.cell (p := ⟨k, 1, none⟩) hk]; exact h.2.2.1, by rw [hw.frozen (p := ⟨k, 0, none⟩) hk]; exact h.2.2.2.1, by rw [hw.frozen (p := ⟨k, 1, none⟩) hk]; exact h.2.2.2.2⟩
theorem Bx.below {k : Nat} {w w' : World} {x y : Int} (h : Bx w k x y) (hw : Below w.heap.size w w') : Bx w' k x y := h.belowB hw h.1
theorem Bx.alloc {k : Nat} {w : World} {x y : Int} (h : Bx w k x y) (o : Obj) : Bx (w.alloc o) k x y := h.below ((Below.refl _ _).alloc (Nat.le_refl _) _)
theorem Bx.new (w : World) (x y : Int) (T : TypeId) : Bx (w.alloc (.cells #[.int .i64 x, .int .i64 y] T)) w.heap.size x y := ⟨by simp, by simp, by simp, by simp, by simp⟩
theorem Bx.setO {k j : Nat} {w : World} {x y : Int} (h : Bx w k x y) (hk : j ≠ k) (o : Nat) (u : Value) : Bx (w.setCell ⟨j, o, none⟩ u) k x y := by
 have hne : ∀ q, (⟨j, o, none⟩ : Addr) ≠ ⟨k, q, none⟩ := fun q e => hk (congrArg Addr.block e)
 exact ⟨by simpa using h.1, by rw [World.cell?_setCell_other _ _ _ _ (hne _)]; exact h.2.1, by rw [World.cell?_setCell_other _ _ _ _ (hne _)]; exact h.2.2.1, by simpa using h.2.2.2.1, by simpa using h.2.2.2.2⟩
theorem Bx.drew {k : Nat} {w : World} {x y : Int} (h : Bx w k x y) : Bx w.drew k x y := h
theorem Below.alc (w : World) (o : Obj) : Below w.heap.size w (w.alloc o) := (Below.refl _ _).alloc (Nat.le_refl _) _
def Box4 (w : World) (k : Nat) (a b c d : Int) : Prop := k < w.heap.size ∧ w.cell? ⟨k, 0, none⟩ = some (.int .i64 a) ∧ w.cell? ⟨k, 1, none⟩ = some (.int .i64 b) ∧ w.cell? ⟨k, 2, none⟩ = some (.int .i64 c) ∧ w.cell? ⟨k, 3, none⟩ = some (.int .i64 d) ∧ w.frozen? ⟨k, 0, none⟩ = false ∧ w.frozen? ⟨k, 1, none⟩ = false ∧ w.frozen? ⟨k, 2, none⟩ = false ∧ w.frozen? ⟨k, 3, none⟩ = false
theorem Box4.belowB {k B : Nat} {w w' : World} {a b c d : Int} (h : Box4 w k a b c d) (hw : Below B w w') (hk : k < B) : Box4 w' k a b c d := by
 obtain ⟨h0, h1, h2, h3, h4, f1, f2, f3, f4⟩ := h
 exact ⟨Nat.lt_of_lt_of_le h0 hw.size, by rw [hw.cell (p := ⟨k, 0, none⟩) hk]; exact h1, by rw [hw.cell (p := ⟨k, 1, none⟩) hk]; exact h2, by rw [hw.cell (p := ⟨k, 2, none⟩) hk]; exact h3, by rw [hw.cell (p := ⟨k, 3, none⟩) hk]; exact h4, by rw [hw.frozen (p := ⟨k, 0, none⟩) hk]; exact f1, by rw [hw.frozen (p := ⟨k, 1, none⟩) hk]; exact f2, by rw [hw.frozen (p := ⟨k, 2, none⟩) hk]; exact f3, by rw [hw.frozen (p := ⟨k, 3, none⟩) hk]; exact f4⟩
theorem Box4.below {k : Nat} {w w' : World} {a b c d : Int} (h : Box4 w k a b c d) (hw : Below w.heap.size w w') : Box4 w' k a b c d := h.belowB hw h.1
theorem Box4.alloc {k : Nat} {w : World} {a b c d : Int} (h : Box4 w k a b c d) (o : Obj) : Box4 (w.alloc o) k a b c d := h.below ((Below.refl _ _).alloc (Nat.le_refl _) _)
theorem Box4.new (w : World) (a b c d : Int) (T : TypeId) : Box4 (w.alloc (.cells #[.int .i64 a, .int .i64 b, .int .i64 c, .int .i64 d] T)) w.heap.size a b c d := ⟨by simp, by simp, by simp, by simp, by simp, by simp, by simp, by simp, by simp⟩
theorem Box4.drew {k : Nat} {w : World} {a b c d : Int} (h : Box4 w k a b c d) : Box4 w.drew k a b c d := h
theorem Box4.setO {k j : Nat} {w : World} {a b c d : Int} (h : Box4 w k a b c d) (hk : j ≠ k) (o : Nat) (u : Value) : Box4 (w.setCell ⟨j, o, none⟩ u) k a b c d := by
 have hne : ∀ q, (⟨j, o, none⟩ : Addr) ≠ ⟨k, q, none⟩ := fun q e => hk (congrArg Addr.block e)
 obtain ⟨h0, h1, h2, h3, h4, f1, f2, f3, f4⟩ := h
 exact ⟨by simpa using h0, by rw [World.cell?_setCell_other _ _ _ _ (hne _)]; exact h1, by rw [World.cell?_setCell_other _ _ _ _ (hne _)]; exact h2, by rw [World.cell?_setCell_other _ _ _ _ (hne _)]; exact h3, by rw [World.cell?_setCell_other _ _ _ _ (hne _)]; exact h4, by simpa using f1, by simpa using f2, by simpa using f3, by simpa using f4⟩
def set4 (w : World) (k : Nat) (a b c d : Int) : World := (((w.setCell ⟨k, 0, none⟩ (.int .i64 a)).setCell ⟨k, 1, none⟩ (.int .i64 b)).setCell ⟨k, 2, none⟩ (.int .i64 c)).setCell ⟨k, 3, none⟩ (.int .i64 d)
theorem Below.set4 {B j : Nat} {w w' : World} (h : Below B w w') (hj : B ≤ j) (a b c d : Int) : Below B w (set4 w' j a b c d) := (((h.setCell hj _).setCell hj _).setCell hj _).setCell hj _
end Go.Proofs.YtddijpjgkifngaaGreat
namespace Go.Proofs.YtddijpjgkifngaaGreat
open Go.RowKit
set_option linter.unusedVariables false
def BoxL (w : World) (k : Nat) (a : Bool) (b c d : Int) : Prop := k < w.heap.size ∧ w.cell? ⟨k, 0, none⟩ = some (.bool a) ∧ w.cell? ⟨k, 1, none⟩ = some (.int .i64 b) ∧ w.cell? ⟨k, 2, none⟩ = some (.int .i64 c) ∧ w.cell? ⟨k, 3, none⟩ = some (.int .i64 d) ∧ w.frozen? ⟨k, 0, none⟩ = false ∧ w.frozen? ⟨k, 1, none⟩ = false ∧ w.frozen? ⟨k, 2, none⟩ = false ∧ w.frozen? ⟨k, 3, none⟩ = false
theorem BoxL.belowB {k B : Nat} {w w' : World} {a : Bool} {b c d : Int} (h : BoxL w k a b c d) (hw : Below B w w') (hk : k < B) : BoxL w' k a b c d := by
 obtain ⟨h0, h1, h2, h3, h4, f1, f2, f3, f4⟩ := h
 exact ⟨Nat.lt_of_lt_of_le h0 hw.size, by rw [hw.cell (p := ⟨k, 0, none⟩) hk]; exact h1, by rw [hw.cell (p := ⟨k, 1, none⟩) hk]; exact h2, by rw [hw.cell (p := ⟨k, 2, none⟩) hk]; exact h3, by rw [hw.cell (p := ⟨k, 3, none⟩) hk]; exact h4, by rw [hw.frozen (p := ⟨k, 0, none⟩) hk]; exact f1, by rw [hw.frozen (p := ⟨k, 1, none⟩) hk]; exact f2, by rw [hw.frozen (p := ⟨k, 2, none⟩) hk]; exact f3, by rw [hw.frozen (p := ⟨k, 3, none⟩) hk]; exact f4⟩
theorem BoxL.below {k : Nat} {w w' : World} {a : Bool} {b c d : Int} (h : BoxL w k a b c d) (hw : Below w.heap.size w w') : BoxL w' k a b c d := h.belowB hw h.1
theorem BoxL.alloc {k : Nat} {w : World} {a : Bool} {b c d : Int} (h : BoxL w k a b c d) (o : Obj) : BoxL (w.alloc o) k a b c d := h.below ((Below.refl _ _).alloc (Nat.le_refl _) _)
theorem BoxL.new (w : World) (a : Bool) (b c d : Int) (T : TypeId) : BoxL (w.alloc (.cells #[.bool a, .int .i64 b, .int .i64 c, .int .i64 d] T)) w.heap.size a b c d := ⟨by simp, by simp, by simp, by simp, by simp, by simp, by simp, by simp, by simp⟩
theorem BoxL.drew {k : Nat} {w : World} {a : Bool} {b c d : Int} (h : BoxL w k a b c d) : BoxL w.drew k a b c d := h
theorem BoxL.setO {k j : Nat} {w : World} {a : Bool} {b c d : Int} (h : BoxL w k a b c d) (hk : j ≠ k) (o : Nat) (u : Value) : BoxL (w.setCell ⟨j, o, none⟩ u) k a b c d := by
 have hne : ∀ q, (⟨j, o, none⟩ : Addr) ≠ ⟨k, q, none⟩ := fun q e => hk (congrArg Addr.block e)
 obtain ⟨h0, h1, h2, h3, h4, f1, f2, f3, f4⟩ := h
 exact ⟨by simpa using h0, by rw [World.cell?_setCell_other _ _ _ _ (hne _)]; exact h1, by rw [World.cell?_setCell_other _ _ _ _ (hne _)]; exact h2, by rw [World.cell?_setCell_other _ _ _ _ (hne _)]; exact h3, by rw [World.cell?_setCell_other _ _ _ _ (hne _)]; exact h4, by simpa using f1, by simpa using f2, by simpa using f3, by simpa using f4⟩
def putI (w : World) (k : Nat) (a b : Int) : World := (w.setCell ⟨k, 0, none⟩ (.int .i64 a)).setCell ⟨k, 1, none⟩ (.int .i64 b)
theorem Bx.setI {k : Nat} {w : World} {x y : Int} (h : Bx w k x y) (x' y' : Int) : Bx (putI w k x' y') k x' y' := by
 refine ⟨by simpa [putI] using h.1, ?_, ?_, by simpa [putI] using h.2.2.2.1, by simpa [putI] using h.2.2.2.2⟩
 ·unfold putI
  rw [World.cell?_setCell_other _ _ _ _ (by simp), World.cell?_setCell_same _ _ _ h.2.1]
 ·unfold putI
  exact World.cell?_setCell_same _ _ _ (by rw [World.cell?_setCell_other _ _ _ _ (by simp)]; exact h.2.2.1)
theorem Bx.setIO {k j : Nat} {w : World} {x y : Int} (h : Bx w k x y) (hk : j ≠ k) (a b : Int) : Bx (putI w j a b) k x y := (h.setO hk _ _).setO hk _ _
theorem BoxL.setIO {k j : Nat} {w : World} {a : Bool} {b c d : Int} (h : BoxL w k a b c d) (hk : j ≠ k) (x y : Int) : BoxL (putI w j x y) k a b c d := (h.setO hk _ _).setO hk _ _
theorem Below.setI {B j : Nat} {w w' : World} (h : Below B w w') (hj : B ≤ j) (a b : Int) : Below B w (putI w' j a b) := (h.setCell hj _).setCell hj _
def okL (kn : Bool) (lo hi a : Int) : Bool := match kn with | true => okI lo hi && okT a | false => decide (lo = 0 ∧ hi = 0 ∧ a = 0)
theorem okL_t {lo hi a : Int} (h : okL true lo hi a = true) : okI lo hi = true ∧ okT a = true := by simpa [okL] using h
set_option maxHeartbeats 1000000 in
theorem specLocalOk_any (kn : Bool) (lo hi a : Int) (w : World) :
 Calls Tryz.prog 88 #[.agg #[.bool kn, .int .i64 lo, .int .i64 hi, .int .i64 a]] w fun e w' => e = .returned (.bool (okL kn lo hi a)) ∧ Below w.heap.size w w' := by
 cases kn
 ·go_enter Tryz.func88, Tryz.ntmps88
  go_wp2
  all_goals go_ret
  all_goals exact ⟨ret_bool (by rw [Bool.eq_iff_iff]; simp [okL]; try omega), by repeat (first | exact Below.refl _ _ | refine Below.drew ?_ | refine Below.alloc ?_ (by first | (simp; done) | (simp; omega) | omega) _ | refine Below.setCell ?_ (by first | (simp; done) | (simp; omega) | omega) _ | refine Below.trans ?_ (Below.mono (by assumption) (by first | (simp; done) | (simp; omega) | omega)))⟩
 cases h1 : okI lo hi <;> cases h2 : okT a
 all_goals
  go_enter Tryz.func88, Tryz.ntmps88
  go_wp2_with (first | (go_at_call 137; refine (specIvalOk_any _ _ _).mono ?_; rintro e w' ⟨rfl, hb⟩; obtain ⟨hc, hf⟩ := bcell hb; (first | have hB := Below.trans (Below.trans hB (by repeat (first | exact Below.refl _ _ | refine Below.drew ?_ | refine Below.alloc ?_ (by first | (simp; done) | (simp; omega) | omega) _ | refine Below.setCell ?_ (by first | (simp; done) | (simp; omega) | omega) _ | refine Below.trans ?_ (Below.mono (by assumption) (by first | (simp; done) | (simp; omega) | omega))))) (Below.mono hb (by first | (simp; done) | (simp; omega) | omega)) | have hB := hb); obtain ⟨hC, hF⟩ := bcell hB; have hz := hb.size; (try simp at hz); (try (have hz0 : w.heap.size < w'.heap.size := by omega)); (try (have hz1 : w.heap.size + 1 < w'.heap.size := by omega)); (try (have hz2 : w.heap.size + 1 + 1 < w'.heap.size := by omega)); (try (have hz3 : w.heap.size + 1 + 1 + 1 < w'.heap.size := by omega))) | (go_at_call 43; refine (l2Time_any _ _).mono ?_; rintro e w' ⟨rfl, rfl⟩))
  go_ret
  exact ⟨ret_bool (by simp [okL, *]), by repeat (first | exact Below.refl _ _ | refine Below.drew ?_ | refine Below.alloc ?_ (by first | (simp; done) | (simp; omega) | omega) _ | refine Below.setCell ?_ (by first | (simp; done) | (simp; omega) | omega) _ | refine Below.trans ?_ (Below.mono (by assumption) (by first | (simp; done) | (simp; omega) | omega)))⟩
set_option maxHeartbeats 1000000 in
theorem ptrOk_any (k : Nat) (kn : Bool) (lo hi a : Int) (w : World) (H : BoxL w k kn lo hi a) :
 Calls Tryz.prog 195 #[.pointer (some ⟨k, 0, none⟩)] w fun e w' => e = .returned (.bool (okL kn lo hi a)) ∧ Below w.heap.size w w' := by
 obtain ⟨h0, h1, h2, h3, h4, f1, f2, f3, f4⟩ := id H
 cases kn
 ·go_enter Tryz.func195, Tryz.ntmps195
  go_wp2
  all_goals go_ret
  all_goals exact ⟨ret_bool (by rw [Bool.eq_iff_iff]; simp [okL]; try omega), by repeat (first | exact Below.refl _ _ | refine Below.drew ?_ | refine Below.alloc ?_ (by first | (simp; done) | (simp; omega) | omega) _ | refine Below.setCell ?_ (by first | (simp; done) | (simp; omega) | omega) _ | refine Below.trans ?_ (Below.mono (by assumption) (by first | (simp; done) | (simp; omega) | omega)))⟩
 cases c1 : okI lo hi <;> cases c2 : okT a
 all_goals
  go_enter Tryz.func195, Tryz.ntmps195
  go_wp2_with fail
  refine (ok_any _ _ _).mono ?_
  rintro e v ⟨rfl, hb⟩
  have B := hb
  obtain ⟨g0, g1, g2, g3, g4, e1, e2, e3, e4⟩ := H.below hb
  clear hb h0 h1 h2 h3 h4 f1 f2 f3 f4 H
  go_wp2_with (first | (go_at_call 99; refine (isTime_any _ _).mono ?_; rintro e w' ⟨rfl, rfl⟩))
  go_ret
  exact ⟨ret_bool (by simp [okL, *]), B⟩
set_option maxHeartbeats 1000000 in
theorem toLocal_any (kn : Bool) (lo hi a : Int) (w : World) :
 Calls Tryz.prog 140 #[.agg #[.bool kn, .int .i64 lo, .int .i64 hi, .int .i64 a]] w fun e w' => e = .returned (.agg #[.bool kn, .int .i64 lo, .int .i64 hi, .int .i64 a]) ∧ Below w.heap.size w w' := by
 have P0 := ((BoxL.new w kn lo hi a 134).alloc (.cells #[.bool false, .int .i64 0, .int .i64 0, .int .i64 0] 89)).alloc (.cells #[.bool kn, .int .i64 0, .int .i64 0, .int .i64 0] 89)
 have P1 := (BoxL.new (w.alloc (.cells #[.bool kn, .int .i64 lo, .int .i64 hi, .int .i64 a] 134)) false 0 0 0 89).alloc (.cells #[.bool kn, .int .i64 0, .int .i64 0, .int .i64 0] 89)
 have P2 := BoxL.new ((w.alloc (.cells #[.bool kn, .int .i64 lo, .int .i64 hi, .int .i64 a] 134)).alloc (.cells #[.bool false, .int .i64 0, .int .i64 0, .int .i64 0] 89)) kn 0 0 0 89
 simp only [World.size_alloc] at P1 P2
 go_enter Tryz.func140, Tryz.ntmps140
 go_wp2_with fail
 refine (toIval_any _ _ _).mono ?_
 rintro e w1 ⟨rfl, hb⟩
 have hw1 : Below w.heap.size w w1 := by repeat (first | exact Below.refl _ _ | refine Below.drew ?_ | refine Below.alloc ?_ (by first | (simp; done) | (simp; omega) | omega) _ | refine Below.setCell ?_ (by first | (simp; done) | (simp; omega) | omega) _ | refine Below.trans ?_ (Below.mono (by assumption) (by first | (simp; done) | (simp; omega) | omega)))
 have hs : w.heap.size + 2 < w1.heap.size := by have := hb.size; simp at this; omega
 have Q0 := P0.below hb
 have Q1 := P1.below hb
 have Q2 := P2.below hb
 clear P0 P1 P2 hb
 obtain ⟨a0, a1, a2, a3, a4, a5, a6, a7, a8⟩ := Q0
 obtain ⟨b0, b1, b2, b3, b4, b5, b6, b7, b8⟩ := Q1
 obtain ⟨c0, c1, c2, c3, c4, c5, c6, c7, c8⟩ := Q2
 go_wp2_with fail
 exact bodyPost_ret (v := .agg #[.bool kn, .int .i64 lo, .int .i64 hi, .int .i64 a]) (by simp (maxDischargeDepth := 6) [results, Tryz.results140, go_sem, *]) rfl ⟨rfl, by repeat (first | refine Below.setCell ?_ (by first | (simp; done) | (simp; omega) | omega) _ | exact hw1)⟩
set_option maxHeartbeats 1000000 in
theorem eqLocal_same (kn : Bool) (lo hi a : Int) (w : World) :
 Calls Tryz.prog 154 #[.agg #[.bool kn, .int .i64 lo, .int .i64 hi, .int .i64 a], .agg #[.bool kn, .int .i64 lo, .int .i64 hi, .int .i64 a]] w fun e w' => e = .returned (.bool true) ∧ Below w.heap.size w w' := by
 have P0 := (BoxL.new w kn lo hi a 89).alloc (.cells #[.bool kn, .int .i64 lo, .int .i64 hi, .int .i64 a] 89)
 have P1 := BoxL.new (w.alloc (.cells #[.bool kn, .int .i64 lo, .int .i64 hi, .int .i64 a] 89)) kn lo hi a 89
 have B0 : Below w.heap.size w ((w.alloc (.cells #[.bool kn, .int .i64 lo, .int .i64 hi, .int .i64 a] 89)).alloc (.cells #[.bool kn, .int .i64 lo, .int .i64 hi, .int .i64 a] 89)) := (Below.alc _ _).alloc (by simp) _
 simp only [World.size_alloc] at P1
 go_enter Tryz.func154, Tryz.ntmps154
 go_wp2_with fail
 refine (eqIval_same _ _ _).mono ?_
 rintro e w1 ⟨rfl, hb⟩
 have B := B0.trans (hb.mono B0.size)
 obtain ⟨a0, a1, a2, a3, a4, a5, a6, a7, a8⟩ := P0.below hb
 obtain ⟨b0, b1, b2, b3, b4, b5, b6, b7, b8⟩ := P1.below hb
 clear P0 P1 hb
 go_wp2
 go_ret
 exact ⟨rfl, B⟩
end Go.Proofs.YtddijpjgkifngaaGreat
