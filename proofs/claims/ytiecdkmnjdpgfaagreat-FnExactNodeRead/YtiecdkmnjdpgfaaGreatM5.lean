/- Contracts of the small functions of chapter 2 (drift) in the specification and in the program. -/
import Derived.Test.YtiecdkmnjdpgfaaGreatM3
namespace Go.Proofs.YtiecdkmnjdpgfaaGreat
open Go.RowKit
set_option linter.unusedVariables false
theorem mul_bd {x y X Y : Int} (h1 : 0 ≤ x) (h2 : x ≤ X) (h3 : 0 ≤ y) (h4 : y ≤ Y) : 0 ≤ x * y ∧ x * y ≤ X * Y :=
  ⟨Int.mul_nonneg h1 h3, Int.mul_le_mul h2 h4 h3 (Int.le_trans h1 h2)⟩
def okD (n d : Int) : Bool := decide (1 ≤ d ∧ d ≤ 1000000 ∧ 0 ≤ n ∧ 2 * n ≤ d)
theorem okD_t {n d : Int} (h : okD n d = true) : 1 ≤ d ∧ d ≤ 1000000 ∧ 0 ≤ n ∧ 2 * n ≤ d := of_decide_eq_true h
def okT (t : Int) : Bool := decide (0 ≤ t ∧ t ≤ 1000000000000)
theorem okT_t {t : Int} (h : okT t = true) : 0 ≤ t ∧ t ≤ 1000000000000 := of_decide_eq_true h
theorem okT_f {t : Int} (h : okT t = false) : ¬ (0 ≤ t ∧ t ≤ 1000000000000) := of_decide_eq_false h
set_option maxHeartbeats 400000 in
theorem specDriftOk_any (n d : Int) (w : World) :
    Calls Tryz.prog 108 #[.agg #[.int .i64 n, .int .i64 d]] w fun e w' => e = .returned (.bool (okD n d)) ∧ Below w.heap.size w w' := by
  go_enter Tryz.func108, Tryz.ntmps108
  go_wp2
  all_goals go_ret
  all_goals exact ⟨ret_bool (by rw [Bool.eq_iff_iff]; simp [okD]; try omega), by repeat (first | exact Below.refl _ _ | refine Below.drew ?_ | refine Below.alloc ?_ (by first | (simp; done) | (simp; omega) | omega) _ | refine Below.setCell ?_ (by first | (simp; done) | (simp; omega) | omega) _ | refine Below.trans ?_ (Below.mono (by assumption) (by first | (simp; done) | (simp; omega) | omega)))⟩
set_option maxHeartbeats 400000 in
theorem okd_any (n d : Int) (w : World) :
    Calls Tryz.prog 142 #[.agg #[.int .i64 n, .int .i64 d]] w fun e w' => e = .returned (.bool (okD n d)) ∧ Below w.heap.size w w' := by
  have hd : d.tdiv 2 = if 0 ≤ d then d / 2 else -(-d / 2) := by
    split
    · exact Int.tdiv_eq_ediv_of_nonneg ‹_›
    · have h := Int.neg_tdiv (a := -d) (b := 2)
      have k : (-d).tdiv 2 = -d / 2 := Int.tdiv_eq_ediv_of_nonneg (by omega)
      rw [Int.neg_neg, k] at h
      exact h
  go_enter Tryz.func142, Tryz.ntmps142
  go_wp2
  all_goals go_ret
  all_goals exact ⟨ret_bool (by rw [Bool.eq_iff_iff]; simp [okD]; try (split at hd <;> omega)), by repeat (first | exact Below.refl _ _ | refine Below.drew ?_ | refine Below.alloc ?_ (by first | (simp; done) | (simp; omega) | omega) _ | refine Below.setCell ?_ (by first | (simp; done) | (simp; omega) | omega) _ | refine Below.trans ?_ (Below.mono (by assumption) (by first | (simp; done) | (simp; omega) | omega)))⟩
set_option maxHeartbeats 400000 in
theorem toDrift_any (n d : Int) (w : World) :
    Calls Tryz.prog 37 #[.agg #[.int .i64 n, .int .i64 d]] w fun e w' => e = .returned (.agg #[.int .i64 n, .int .i64 d]) ∧ Below w.heap.size w w' := by
  go_enter Tryz.func37, Tryz.ntmps37
  go_wp2
  exact bodyPost_ret (v := .agg #[.int .i64 n, .int .i64 d]) (by simp [results, Tryz.results37, go_sem]) rfl ⟨rfl, by repeat (first | exact Below.refl _ _ | refine Below.drew ?_ | refine Below.alloc ?_ (by first | (simp; done) | (simp; omega) | omega) _ | refine Below.setCell ?_ (by first | (simp; done) | (simp; omega) | omega) _ | refine Below.trans ?_ (Below.mono (by assumption) (by first | (simp; done) | (simp; omega) | omega)))⟩
set_option maxHeartbeats 400000 in
theorem eqDrift_same (n d : Int) (w : World) :
    Calls Tryz.prog 56 #[.agg #[.int .i64 n, .int .i64 d], .agg #[.int .i64 n, .int .i64 d]] w fun e w' => e = .returned (.bool true) ∧ Below w.heap.size w w' := by
  go_enter Tryz.func56, Tryz.ntmps56
  go_wp2
  go_ret
  exact ⟨rfl, by repeat (first | exact Below.refl _ _ | refine Below.drew ?_ | refine Below.alloc ?_ (by first | (simp; done) | (simp; omega) | omega) _ | refine Below.setCell ?_ (by first | (simp; done) | (simp; omega) | omega) _ | refine Below.trans ?_ (Below.mono (by assumption) (by first | (simp; done) | (simp; omega) | omega)))⟩
set_option maxHeartbeats 400000 in
theorem isTime_any (t : Int) (w : World) :
    Calls Tryz.prog 141 #[.int .i64 t] w fun e w' => e = .returned (.bool (okT t)) ∧ w = w' := by
  go_enter Tryz.func141, Tryz.ntmps141
  go_wp2
  all_goals go_ret
  all_goals exact ⟨ret_bool (by rw [Bool.eq_iff_iff]; simp [okT]; try omega), rfl⟩
set_option maxHeartbeats 400000 in
theorem l2Time_any (t : Int) (w : World) :
    Calls Tryz.prog 86 #[.int .i64 t] w fun e w' => e = .returned (.bool (okT t)) ∧ w = w' := by
  go_enter Tryz.func86, Tryz.ntmps86
  go_wp2
  all_goals go_ret
  all_goals exact ⟨ret_bool (by rw [Bool.eq_iff_iff]; simp [okT]; try omega), rfl⟩
set_option maxHeartbeats 400000 in
theorem slowest_any (n d : Int) (w : World) (h : okD n d = true) :
    Calls Tryz.prog 252 #[.agg #[.int .i64 n, .int .i64 d]] w fun e w' => e = .returned (.int .i64 (d - n)) ∧ Below w.heap.size w w' := by
  have ⟨h1, h2, h3, h4⟩ := okD_t h
  go_enter Tryz.func252, Tryz.ntmps252
  go_wp2
  go_ret
  exact ⟨rfl, by repeat (first | exact Below.refl _ _ | refine Below.drew ?_ | refine Below.alloc ?_ (by first | (simp; done) | (simp; omega) | omega) _ | refine Below.setCell ?_ (by first | (simp; done) | (simp; omega) | omega) _ | refine Below.trans ?_ (Below.mono (by assumption) (by first | (simp; done) | (simp; omega) | omega)))⟩
set_option maxHeartbeats 400000 in
theorem fastest_any (n d : Int) (w : World) (h : okD n d = true) :
    Calls Tryz.prog 250 #[.agg #[.int .i64 n, .int .i64 d]] w fun e w' => e = .returned (.int .i64 (d + n)) ∧ Below w.heap.size w w' := by
  have ⟨h1, h2, h3, h4⟩ := okD_t h
  go_enter Tryz.func250, Tryz.ntmps250
  go_wp2
  go_ret
  exact ⟨rfl, by repeat (first | exact Below.refl _ _ | refine Below.drew ?_ | refine Below.alloc ?_ (by first | (simp; done) | (simp; omega) | omega) _ | refine Below.setCell ?_ (by first | (simp; done) | (simp; omega) | omega) _ | refine Below.trans ?_ (Below.mono (by assumption) (by first | (simp; done) | (simp; omega) | omega)))⟩
set_option maxHeartbeats 400000 in
theorem slowest_wrap (n d : Int) (w : World) :
    Calls Tryz.prog 252 #[.agg #[.int .i64 n, .int .i64 d]] w fun e w' => e = .returned (.int .i64 (wrap64 (d - n))) ∧ Below w.heap.size w w' := by
  go_enter Tryz.func252, Tryz.ntmps252
  go_wp2
  go_ret
  exact ⟨rfl, by repeat (first | exact Below.refl _ _ | refine Below.drew ?_ | refine Below.alloc ?_ (by first | (simp; done) | (simp; omega) | omega) _ | refine Below.setCell ?_ (by first | (simp; done) | (simp; omega) | omega) _ | refine Below.trans ?_ (Below.mono (by assumption) (by first | (simp; done) | (simp; omega) | omega)))⟩
set_option maxHeartbeats 400000 in
theorem fastest_wrap (n d : Int) (w : World) :
    Calls Tryz.prog 250 #[.agg #[.int .i64 n, .int .i64 d]] w fun e w' => e = .returned (.int .i64 (wrap64 (d + n))) ∧ Below w.heap.size w w' := by
  go_enter Tryz.func250, Tryz.ntmps250
  go_wp2
  go_ret
  exact ⟨rfl, by repeat (first | exact Below.refl _ _ | refine Below.drew ?_ | refine Below.alloc ?_ (by first | (simp; done) | (simp; omega) | omega) _ | refine Below.setCell ?_ (by first | (simp; done) | (simp; omega) | omega) _ | refine Below.trans ?_ (Below.mono (by assumption) (by first | (simp; done) | (simp; omega) | omega)))⟩
def dnI (x n : Int) : Int := x / n
def upI (x n : Int) : Int := (x + n - 1) / n
theorem div_bd {x n : Int} (hx : 0 ≤ x) (hn : 0 < n) : 0 ≤ x / n ∧ x / n ≤ x :=
  ⟨Int.ediv_nonneg hx (by omega), Int.ediv_le_self n hx⟩
theorem dnI_bd {x n : Int} (hx : 0 ≤ x) (hn : 0 < n) : 0 ≤ dnI x n ∧ dnI x n ≤ x := div_bd hx hn
theorem upI_neg {x n : Int} (hn : 0 < n) : -(-x / n) = upI x n := by
  have a := Int.emod_add_mul_ediv (-x) n
  have b := Int.emod_nonneg (-x) (b := n) (by omega)
  have c := Int.emod_lt_of_pos (-x) hn
  unfold upI
  generalize -x / n = q at a ⊢
  generalize -x % n = r at a b c
  have e : x + n - 1 = (n - 1 - r) + n * -q := by rw [Int.mul_neg]; omega
  have z : (n - 1 - r) / n = 0 := Int.ediv_eq_zero_of_lt (by omega) (by omega)
  rw [e, Int.add_mul_ediv_left _ _ (by omega), z]
  omega
theorem upI_bd {x n : Int} (hx : 0 ≤ x) (hn : 0 < n) : 0 ≤ upI x n ∧ upI x n ≤ x := by
  have h0 : 0 ≤ upI x n := Int.ediv_nonneg (by omega) (by omega)
  refine ⟨h0, ?_⟩
  rw [← upI_neg hn] at h0 ⊢
  have a := Int.emod_add_mul_ediv (-x) n
  have b := Int.emod_nonneg (-x) (b := n) (by omega)
  have d := Int.emod_lt_of_pos (-x) hn
  generalize -x / n = q at a h0 ⊢
  generalize -x % n = r at a b d
  by_cases hq : q = 0
  · omega
  · have c : (n - 1) * 1 ≤ (n - 1) * -q := Int.mul_le_mul_of_nonneg_left (by omega) (by omega)
    rw [Int.sub_mul n 1 (-q), Int.mul_neg, Int.one_mul] at c
    omega
set_option maxHeartbeats 400000 in
theorem implDown_any (x n : Int) (w : World) (h1 : 0 ≤ x) (h2 : x ≤ 4000000000000000000) (hn : 0 < n) (hn2 : n ≤ 4000000000000000000) :
    Calls Tryz.prog 253 #[.int .i64 x, .int .i64 n] w fun e w' => e = .returned (.int .i64 (dnI x n)) ∧ w = w' := by
  have hne : (n == 0) = false := by rw [beq_eq_false_iff_ne]; omega
  have hq : x.tdiv n = dnI x n := Int.tdiv_eq_ediv_of_nonneg h1
  have ⟨b1, b2⟩ := dnI_bd h1 hn
  go_enter Tryz.func253, Tryz.ntmps253
  go_wp2
  all_goals go_ret
  all_goals exact ⟨ret_int (by first | exact hq | exact rfl | (rw [hq]; exact i64wrap (by omega) (by omega))), rfl⟩
set_option maxHeartbeats 400000 in
theorem implUp_any (x n : Int) (w : World) (h1 : 0 ≤ x) (h2 : x ≤ 4000000000000000000) (hn : 0 < n) (hn2 : n ≤ 4000000000000000000) :
    Calls Tryz.prog 251 #[.int .i64 x, .int .i64 n] w fun e w' => e = .returned (.int .i64 (upI x n)) ∧ w = w' := by
  have hne : (n == 0) = false := by rw [beq_eq_false_iff_ne]; omega
  have hq : (x + n - 1).tdiv n = upI x n := Int.tdiv_eq_ediv_of_nonneg (by omega)
  have ⟨b1, b2⟩ := upI_bd h1 hn
  go_enter Tryz.func251, Tryz.ntmps251
  go_wp2
  all_goals go_ret
  all_goals exact ⟨ret_int (by first | exact hq | exact rfl | (rw [hq]; exact i64wrap (by omega) (by omega))), rfl⟩
set_option maxHeartbeats 400000 in
theorem l1Up_any (x n : Int) (w : World) (h1 : 0 ≤ x) (h2 : x ≤ 4000000000000000000) (hn : 0 < n) (hn2 : n ≤ 4000000000000000000) :
    Calls Tryz.prog 187 #[.int .i64 x, .int .i64 n] w fun e w' => e = .returned (.int .i64 (upI x n)) ∧ w = w' := by
  have hq : -(-x / n) = upI x n := upI_neg hn
  have ⟨b1, b2⟩ := upI_bd h1 hn
  go_enter Tryz.func187, Tryz.ntmps187
  go_wp2_with (first | (go_at_call 169; refine (l1Down_any _ _ _ (by omega) (by omega) (by omega) (by omega)).mono ?_; rintro e w' ⟨rfl, rfl⟩))
  all_goals go_ret
  all_goals exact ⟨ret_int (by first | exact hq | exact rfl | (rw [hq]; exact i64wrap (by omega) (by omega))), rfl⟩
set_option maxHeartbeats 400000 in
theorem l2Told_any (x : Int) (w : World) (h : 0 ≤ x) :
    Calls Tryz.prog 186 #[.int .i64 x] w fun e w' => e = .returned (.tuple #[.int .i64 (sel (okT x) x), .bool (okT x)]) ∧ w = w' := by
  cases ht : okT x
  · have := okT_f ht
    rw [sel_f rfl]
    go_enter Tryz.func186, Tryz.ntmps186
    go_wp2
    all_goals go_ret2
    all_goals first | exact ⟨rfl, rfl⟩ | omega
  · have := okT_t ht
    rw [sel_t rfl]
    go_enter Tryz.func186, Tryz.ntmps186
    go_wp2
    all_goals go_ret2
    all_goals first | exact ⟨rfl, rfl⟩ | omega
end Go.Proofs.YtiecdkmnjdpgfaaGreat
