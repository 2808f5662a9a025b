/- The contract of spec.MsgOk. -/
import Derived.Test.YtddjiamollfplaaGreatDoorMC2
namespace Go.Proofs.YtddjiamollfplaaGreatDoor
open Go.RowKit
set_option linter.unusedVariables false
theorem kI {s : ByteArray} (h : s.toList = []) : s.size = 0 := by
 rw [ByteArray.toList_eq] at h
 cases s with
 | mk d => simp at h; subst h; rfl
theorem gT {k fr tuu no lo hi sl : Int} {s : ByteArray} (h : ¬ s.size ≤ 24) : aD k fr tuu no lo hi sl s = false := by
 have h0 : ¬ s.toList = [] := fun e => h (by rw [kI e]; omega)
 simp [aD, emp, h0, h]
theorem gS {k fr tuu no lo hi sl : Int} {s : ByteArray} (h : aJ fr = false) : aD k fr tuu no lo hi sl s = false := by
 simp [aD, adB, h]
set_option maxHeartbeats 4000000 in
theorem fl (k fr tuu no lo hi sl : Int) (s : ByteArray) (w : World) (hs : s.size ≤ 1048576) (h : aJ fr = false ∨ ¬ s.size ≤ 24) :
 Calls Tryz.prog 97 #[.agg #[.int .i64 k, .int .i64 fr, .int .i64 tuu, .int .i64 no, .int .i64 lo, .int .i64 hi, .int .i64 sl, .string s]] w fun e w' => e = .returned (.bool (aD k fr tuu no lo hi sl s)) ∧ Below w.heap.size w w' := by
 cases h1 : aJ fr
 ·go_enter Tryz.func97, Tryz.ntmps97
  go_wp2_with fail
  refine (ab _ _).mono ?_
  rintro e w' ⟨rfl, rfl⟩
  rw [h1]
  go_wp2_with fail
  go_ret
  exact ⟨aa (gS h1).symm, (by repeat (first | refine Below.setCell ?_ (by first | (simp; done) | (simp; omega) | omega) _ | refine Below.alloc ?_ (by first | (simp; done) | (simp; omega) | omega) _ | exact Below.refl _ _))⟩
 ·have hb : ¬ s.size ≤ 24 := by
   rcases h with h | h
   ·rw [h1] at h; cases h
   ·exact h
  have hbi : 24 < (s.size : Int) := by omega
  go_enter Tryz.func97, Tryz.ntmps97
  go_wp2_with fail
  refine (ab _ _).mono ?_
  rintro e w' ⟨rfl, rfl⟩
  rw [h1]
  go_wp2_with fail
  go_ret
  exact ⟨aa (gT hb).symm, (by repeat (first | refine Below.setCell ?_ (by first | (simp; done) | (simp; omega) | omega) _ | refine Below.alloc ?_ (by first | (simp; done) | (simp; omega) | omega) _ | exact Below.refl _ _))⟩

set_option maxHeartbeats 8000000 in
theorem il (fr tuu no lo hi sl : Int) (s : ByteArray) (w : World) (h1 : aJ fr = true) (hz : s.size ≤ 24) :
 Calls Tryz.prog 97 #[.agg #[.int .i64 1, .int .i64 fr, .int .i64 tuu, .int .i64 no, .int .i64 lo, .int .i64 hi, .int .i64 sl, .string s]] w fun e w' => e = .returned (.bool (aD 1 fr tuu no lo hi sl s)) ∧ Below w.heap.size w w' := by
 have hzi : ¬ 24 < (s.size : Int) := by omega
 cases h2 : aJ tuu
 ·go_enter Tryz.func97, Tryz.ntmps97
  go_wp2_with fail
  refine (ab _ _).mono ?_
  rintro e w' ⟨rfl, rfl⟩
  rw [h1]
  go_wp2_with fail
  refine (ab _ _).mono ?_
  rintro e w' ⟨rfl, rfl⟩
  rw [h2]
  go_wp2_with fail
  all_goals go_ret
  all_goals exact ⟨aa (by rw [Bool.eq_iff_iff]; simp [aD, adB, emp, *]; try omega), (by repeat (first | refine Below.setCell ?_ (by first | (simp; done) | (simp; omega) | omega) _ | refine Below.alloc ?_ (by first | (simp; done) | (simp; omega) | omega) _ | exact Below.refl _ _))⟩
 ·cases h3 : (tuu != fr)
  ·have h3' : tuu = fr := by simpa using h3
   subst h3'
   go_enter Tryz.func97, Tryz.ntmps97
   go_wp2_with fail
   refine (ab _ _).mono ?_
   rintro e w' ⟨rfl, rfl⟩
   rw [h1]
   go_wp2_with fail
   refine (ab _ _).mono ?_
   rintro e w' ⟨rfl, rfl⟩
   rw [h2]
   go_wp2_with fail
   all_goals go_ret
   all_goals exact ⟨aa (by rw [Bool.eq_iff_iff]; simp [aD, adB, emp, *]; try omega), (by repeat (first | refine Below.setCell ?_ (by first | (simp; done) | (simp; omega) | omega) _ | refine Below.alloc ?_ (by first | (simp; done) | (simp; omega) | omega) _ | exact Below.refl _ _))⟩
  ·have h3' : ¬ fr = tuu := by simp at h3; omega
   cases h4 : decide (0 ≤ no ∧ no ≤ 100000999)
   ·have h4' : ¬ (0 ≤ no ∧ no ≤ 100000999) := of_decide_eq_false h4
    go_enter Tryz.func97, Tryz.ntmps97
    go_wp2_with fail
    refine (ab _ _).mono ?_
    rintro e w' ⟨rfl, rfl⟩
    rw [h1]
    go_wp2_with fail
    refine (ab _ _).mono ?_
    rintro e w' ⟨rfl, rfl⟩
    rw [h2]
    go_wp2_with fail
    refine (az _ _ _ _).mono ?_
    rintro e w' ⟨rfl, rfl⟩
    rw [h4]
    clear h4'
    go_wp2_with fail
    all_goals go_ret
    all_goals exact ⟨aa (by rw [Bool.eq_iff_iff]; simp [aD, adB, emp, *]; try omega), (by repeat (first | refine Below.setCell ?_ (by first | (simp; done) | (simp; omega) | omega) _ | refine Below.alloc ?_ (by first | (simp; done) | (simp; omega) | omega) _ | exact Below.refl _ _))⟩
   ·have h4' : 0 ≤ no ∧ no ≤ 100000999 := of_decide_eq_true h4
    by_cases h5 : sl = 0
    ·subst h5
     by_cases h6 : s.toList = []
     ·go_enter Tryz.func97, Tryz.ntmps97
      go_wp2_with fail
      refine (ab _ _).mono ?_
      rintro e w' ⟨rfl, rfl⟩
      rw [h1]
      go_wp2_with fail
      refine (ab _ _).mono ?_
      rintro e w' ⟨rfl, rfl⟩
      rw [h2]
      go_wp2_with fail
      refine (az _ _ _ _).mono ?_
      rintro e w' ⟨rfl, rfl⟩
      rw [h4]
      go_wp2_with fail
      all_goals go_ret
      all_goals exact ⟨aa (by rw [Bool.eq_iff_iff]; simp [aD, adB, emp, *]; try omega), (by repeat (first | refine Below.setCell ?_ (by first | (simp; done) | (simp; omega) | omega) _ | refine Below.alloc ?_ (by first | (simp; done) | (simp; omega) | omega) _ | exact Below.refl _ _))⟩
     ·go_enter Tryz.func97, Tryz.ntmps97
      go_wp2_with fail
      refine (ab _ _).mono ?_
      rintro e w' ⟨rfl, rfl⟩
      rw [h1]
      go_wp2_with fail
      refine (ab _ _).mono ?_
      rintro e w' ⟨rfl, rfl⟩
      rw [h2]
      go_wp2_with fail
      refine (az _ _ _ _).mono ?_
      rintro e w' ⟨rfl, rfl⟩
      rw [h4]
      go_wp2_with fail
      all_goals go_ret
      all_goals exact ⟨aa (by rw [Bool.eq_iff_iff]; simp [aD, adB, emp, *]; try omega), (by repeat (first | refine Below.setCell ?_ (by first | (simp; done) | (simp; omega) | omega) _ | refine Below.alloc ?_ (by first | (simp; done) | (simp; omega) | omega) _ | exact Below.refl _ _))⟩
    ·have h5b : (sl == 0) = false := by rw [beq_eq_false_iff_ne]; exact h5
     go_enter Tryz.func97, Tryz.ntmps97
     go_wp2_with fail
     refine (ab _ _).mono ?_
     rintro e w' ⟨rfl, rfl⟩
     rw [h1]
     go_wp2_with fail
     refine (ab _ _).mono ?_
     rintro e w' ⟨rfl, rfl⟩
     rw [h2]
     go_wp2_with fail
     refine (az _ _ _ _).mono ?_
     rintro e w' ⟨rfl, rfl⟩
     rw [h4]
     go_wp2_with fail
     all_goals go_ret
     all_goals exact ⟨aa (by rw [Bool.eq_iff_iff]; simp [aD, adB, emp, *]; try omega), (by repeat (first | refine Below.setCell ?_ (by first | (simp; done) | (simp; omega) | omega) _ | refine Below.alloc ?_ (by first | (simp; done) | (simp; omega) | omega) _ | exact Below.refl _ _))⟩
set_option maxHeartbeats 8000000 in
theorem im (fr tuu no lo hi sl : Int) (s : ByteArray) (w : World) (h1 : aJ fr = true) (hz : s.size ≤ 24) :
 Calls Tryz.prog 97 #[.agg #[.int .i64 2, .int .i64 fr, .int .i64 tuu, .int .i64 no, .int .i64 lo, .int .i64 hi, .int .i64 sl, .string s]] w fun e w' => e = .returned (.bool (aD 2 fr tuu no lo hi sl s)) ∧ Below w.heap.size w w' := by
 have hzi : ¬ 24 < (s.size : Int) := by omega
 cases h2 : aJ tuu
 ·go_enter Tryz.func97, Tryz.ntmps97
  go_wp2_with fail
  refine (ab _ _).mono ?_
  rintro e w' ⟨rfl, rfl⟩
  rw [h1]
  go_wp2_with fail
  refine (ab _ _).mono ?_
  rintro e w' ⟨rfl, rfl⟩
  rw [h2]
  go_wp2_with fail
  all_goals go_ret
  all_goals exact ⟨aa (by rw [Bool.eq_iff_iff]; simp [aD, adB, emp, *]; try omega), (by repeat (first | refine Below.setCell ?_ (by first | (simp; done) | (simp; omega) | omega) _ | refine Below.alloc ?_ (by first | (simp; done) | (simp; omega) | omega) _ | exact Below.refl _ _))⟩
 ·cases h3 : (tuu != fr)
  ·have h3' : tuu = fr := by simpa using h3
   subst h3'
   go_enter Tryz.func97, Tryz.ntmps97
   go_wp2_with fail
   refine (ab _ _).mono ?_
   rintro e w' ⟨rfl, rfl⟩
   rw [h1]
   go_wp2_with fail
   refine (ab _ _).mono ?_
   rintro e w' ⟨rfl, rfl⟩
   rw [h2]
   go_wp2_with fail
   all_goals go_ret
   all_goals exact ⟨aa (by rw [Bool.eq_iff_iff]; simp [aD, adB, emp, *]; try omega), (by repeat (first | refine Below.setCell ?_ (by first | (simp; done) | (simp; omega) | omega) _ | refine Below.alloc ?_ (by first | (simp; done) | (simp; omega) | omega) _ | exact Below.refl _ _))⟩
  ·have h3' : ¬ fr = tuu := by simp at h3; omega
   cases h4 : decide (0 ≤ no ∧ no ≤ 100000999)
   ·have h4' : ¬ (0 ≤ no ∧ no ≤ 100000999) := of_decide_eq_false h4
    go_enter Tryz.func97, Tryz.ntmps97
    go_wp2_with fail
    refine (ab _ _).mono ?_
    rintro e w' ⟨rfl, rfl⟩
    rw [h1]
    go_wp2_with fail
    refine (ab _ _).mono ?_
    rintro e w' ⟨rfl, rfl⟩
    rw [h2]
    go_wp2_with fail
    refine (az _ _ _ _).mono ?_
    rintro e w' ⟨rfl, rfl⟩
    rw [h4]
    clear h4'
    go_wp2_with fail
    all_goals go_ret
    all_goals exact ⟨aa (by rw [Bool.eq_iff_iff]; simp [aD, adB, emp, *]; try omega), (by repeat (first | refine Below.setCell ?_ (by first | (simp; done) | (simp; omega) | omega) _ | refine Below.alloc ?_ (by first | (simp; done) | (simp; omega) | omega) _ | exact Below.refl _ _))⟩
   ·have h4' : 0 ≤ no ∧ no ≤ 100000999 := of_decide_eq_true h4
    by_cases h5 : sl = 0
    ·subst h5
     by_cases h6 : s.toList = []
     ·go_enter Tryz.func97, Tryz.ntmps97
      go_wp2_with fail
      refine (ab _ _).mono ?_
      rintro e w' ⟨rfl, rfl⟩
      rw [h1]
      go_wp2_with fail
      refine (ab _ _).mono ?_
      rintro e w' ⟨rfl, rfl⟩
      rw [h2]
      go_wp2_with fail
      refine (az _ _ _ _).mono ?_
      rintro e w' ⟨rfl, rfl⟩
      rw [h4]
      go_wp2_with fail
      refine (cr _ _ _).mono ?_
      rintro e w2 ⟨rfl, hb⟩
      go_wp2_with fail
      go_ret
      exact ⟨aa (by simp [aD, adB, emp, *]), Below.trans (by repeat (first | refine Below.setCell ?_ (by first | (simp; done) | (simp; omega) | omega) _ | refine Below.alloc ?_ (by first | (simp; done) | (simp; omega) | omega) _ | exact Below.refl _ _)) (hb.mono (by simp; omega))⟩
     ·go_enter Tryz.func97, Tryz.ntmps97
      go_wp2_with fail
      refine (ab _ _).mono ?_
      rintro e w' ⟨rfl, rfl⟩
      rw [h1]
      go_wp2_with fail
      refine (ab _ _).mono ?_
      rintro e w' ⟨rfl, rfl⟩
      rw [h2]
      go_wp2_with fail
      refine (az _ _ _ _).mono ?_
      rintro e w' ⟨rfl, rfl⟩
      rw [h4]
      go_wp2_with fail
      all_goals go_ret
      all_goals exact ⟨aa (by rw [Bool.eq_iff_iff]; simp [aD, adB, emp, *]; try omega), (by repeat (first | refine Below.setCell ?_ (by first | (simp; done) | (simp; omega) | omega) _ | refine Below.alloc ?_ (by first | (simp; done) | (simp; omega) | omega) _ | exact Below.refl _ _))⟩
    ·have h5b : (sl == 0) = false := by rw [beq_eq_false_iff_ne]; exact h5
     go_enter Tryz.func97, Tryz.ntmps97
     go_wp2_with fail
     refine (ab _ _).mono ?_
     rintro e w' ⟨rfl, rfl⟩
     rw [h1]
     go_wp2_with fail
     refine (ab _ _).mono ?_
     rintro e w' ⟨rfl, rfl⟩
     rw [h2]
     go_wp2_with fail
     refine (az _ _ _ _).mono ?_
     rintro e w' ⟨rfl, rfl⟩
     rw [h4]
     go_wp2_with fail
     all_goals go_ret
     all_goals exact ⟨aa (by rw [Bool.eq_iff_iff]; simp [aD, adB, emp, *]; try omega), (by repeat (first | refine Below.setCell ?_ (by first | (simp; done) | (simp; omega) | omega) _ | refine Below.alloc ?_ (by first | (simp; done) | (simp; omega) | omega) _ | exact Below.refl _ _))⟩
set_option maxHeartbeats 8000000 in
theorem io (fr tuu no lo hi sl : Int) (s : ByteArray) (w : World) (h1 : aJ fr = true) (hz : s.size ≤ 24) :
 Calls Tryz.prog 97 #[.agg #[.int .i64 3, .int .i64 fr, .int .i64 tuu, .int .i64 no, .int .i64 lo, .int .i64 hi, .int .i64 sl, .string s]] w fun e w' => e = .returned (.bool (aD 3 fr tuu no lo hi sl s)) ∧ Below w.heap.size w w' := by
 have hzi : ¬ 24 < (s.size : Int) := by omega
 have nz : aJ 0 = true := by decide
 cases h2 : aJ tuu
 ·go_enter Tryz.func97, Tryz.ntmps97
  go_wp2_with fail
  refine (ab _ _).mono ?_
  rintro e w' ⟨rfl, rfl⟩
  rw [h1]
  go_wp2_with fail
  refine (ab _ _).mono ?_
  rintro e w' ⟨rfl, rfl⟩
  rw [h2]
  by_cases t0 : tuu = 0
  ·by_cases n0 : no = 0
   ·by_cases l0 : lo = 0
    ·by_cases g0 : hi = 0
     ·subst l0 g0
      go_wp2_with fail
      refine (az _ _ _ _).mono ?_
      rintro e w' ⟨rfl, rfl⟩
      go_wp2_with fail
      go_ret
      exact ⟨aa (by rw [Bool.eq_iff_iff]; simp [aD, *]; try omega), (by repeat (first | refine Below.setCell ?_ (by first | (simp; done) | (simp; omega) | omega) _ | refine Below.alloc ?_ (by first | (simp; done) | (simp; omega) | omega) _ | exact Below.refl _ _))⟩
     ·subst l0
      go_wp2_with fail
      go_ret
      exact ⟨aa (by rw [Bool.eq_iff_iff]; simp [aD, *]; try omega), (by repeat (first | refine Below.setCell ?_ (by first | (simp; done) | (simp; omega) | omega) _ | refine Below.alloc ?_ (by first | (simp; done) | (simp; omega) | omega) _ | exact Below.refl _ _))⟩
    ·go_wp2_with fail
     go_ret
     exact ⟨aa (by rw [Bool.eq_iff_iff]; simp [aD, *]; try omega), (by repeat (first | refine Below.setCell ?_ (by first | (simp; done) | (simp; omega) | omega) _ | refine Below.alloc ?_ (by first | (simp; done) | (simp; omega) | omega) _ | exact Below.refl _ _))⟩
   ·have n0b : (no == 0) = false := by rw [beq_eq_false_iff_ne]; exact n0
    go_wp2_with fail
    go_ret
    exact ⟨aa (by rw [Bool.eq_iff_iff]; simp [aD, *]; try omega), (by repeat (first | refine Below.setCell ?_ (by first | (simp; done) | (simp; omega) | omega) _ | refine Below.alloc ?_ (by first | (simp; done) | (simp; omega) | omega) _ | exact Below.refl _ _))⟩
  ·have t0b : (tuu == 0) = false := by rw [beq_eq_false_iff_ne]; exact t0
   go_wp2_with fail
   go_ret
   exact ⟨aa (by rw [Bool.eq_iff_iff]; simp [aD, *]; try omega), (by repeat (first | refine Below.setCell ?_ (by first | (simp; done) | (simp; omega) | omega) _ | refine Below.alloc ?_ (by first | (simp; done) | (simp; omega) | omega) _ | exact Below.refl _ _))⟩
 ·cases h3 : (tuu != fr)
  ·have h3' : tuu = fr := by simpa using h3
   subst h3'
   go_enter Tryz.func97, Tryz.ntmps97
   go_wp2_with fail
   refine (ab _ _).mono ?_
   rintro e w' ⟨rfl, rfl⟩
   rw [h1]
   go_wp2_with fail
   refine (ab _ _).mono ?_
   rintro e w' ⟨rfl, rfl⟩
   rw [h2]
   by_cases t0 : tuu = 0
   ·by_cases n0 : no = 0
    ·by_cases l0 : lo = 0
     ·by_cases g0 : hi = 0
      ·subst l0 g0
       go_wp2_with fail
       refine (az _ _ _ _).mono ?_
       rintro e w' ⟨rfl, rfl⟩
       go_wp2_with fail
       go_ret
       exact ⟨aa (by rw [Bool.eq_iff_iff]; simp [aD, *]; try omega), (by repeat (first | refine Below.setCell ?_ (by first | (simp; done) | (simp; omega) | omega) _ | refine Below.alloc ?_ (by first | (simp; done) | (simp; omega) | omega) _ | exact Below.refl _ _))⟩
      ·subst l0
       go_wp2_with fail
       go_ret
       exact ⟨aa (by rw [Bool.eq_iff_iff]; simp [aD, *]; try omega), (by repeat (first | refine Below.setCell ?_ (by first | (simp; done) | (simp; omega) | omega) _ | refine Below.alloc ?_ (by first | (simp; done) | (simp; omega) | omega) _ | exact Below.refl _ _))⟩
     ·go_wp2_with fail
      go_ret
      exact ⟨aa (by rw [Bool.eq_iff_iff]; simp [aD, *]; try omega), (by repeat (first | refine Below.setCell ?_ (by first | (simp; done) | (simp; omega) | omega) _ | refine Below.alloc ?_ (by first | (simp; done) | (simp; omega) | omega) _ | exact Below.refl _ _))⟩
    ·have n0b : (no == 0) = false := by rw [beq_eq_false_iff_ne]; exact n0
     go_wp2_with fail
     go_ret
     exact ⟨aa (by rw [Bool.eq_iff_iff]; simp [aD, *]; try omega), (by repeat (first | refine Below.setCell ?_ (by first | (simp; done) | (simp; omega) | omega) _ | refine Below.alloc ?_ (by first | (simp; done) | (simp; omega) | omega) _ | exact Below.refl _ _))⟩
   ·have t0b : (tuu == 0) = false := by rw [beq_eq_false_iff_ne]; exact t0
    go_wp2_with fail
    go_ret
    exact ⟨aa (by rw [Bool.eq_iff_iff]; simp [aD, *]; try omega), (by repeat (first | refine Below.setCell ?_ (by first | (simp; done) | (simp; omega) | omega) _ | refine Below.alloc ?_ (by first | (simp; done) | (simp; omega) | omega) _ | exact Below.refl _ _))⟩
  ·have h3' : ¬ fr = tuu := by simp at h3; omega
   cases h4 : decide (0 ≤ no ∧ no ≤ 100000999)
   ·have h4' : ¬ (0 ≤ no ∧ no ≤ 100000999) := of_decide_eq_false h4
    go_enter Tryz.func97, Tryz.ntmps97
    go_wp2_with fail
    refine (ab _ _).mono ?_
    rintro e w' ⟨rfl, rfl⟩
    rw [h1]
    go_wp2_with fail
    refine (ab _ _).mono ?_
    rintro e w' ⟨rfl, rfl⟩
    rw [h2]
    go_wp2_with fail
    refine (az _ _ _ _).mono ?_
    rintro e w' ⟨rfl, rfl⟩
    rw [h4]
    clear h4'
    by_cases t0 : tuu = 0
    ·by_cases n0 : no = 0
     ·by_cases l0 : lo = 0
      ·by_cases g0 : hi = 0
       ·subst l0 g0
        go_wp2_with fail
        refine (az _ _ _ _).mono ?_
        rintro e w' ⟨rfl, rfl⟩
        go_wp2_with fail
        go_ret
        exact ⟨aa (by rw [Bool.eq_iff_iff]; simp [aD, *]; try omega), (by repeat (first | refine Below.setCell ?_ (by first | (simp; done) | (simp; omega) | omega) _ | refine Below.alloc ?_ (by first | (simp; done) | (simp; omega) | omega) _ | exact Below.refl _ _))⟩
       ·subst l0
        go_wp2_with fail
        go_ret
        exact ⟨aa (by rw [Bool.eq_iff_iff]; simp [aD, *]; try omega), (by repeat (first | refine Below.setCell ?_ (by first | (simp; done) | (simp; omega) | omega) _ | refine Below.alloc ?_ (by first | (simp; done) | (simp; omega) | omega) _ | exact Below.refl _ _))⟩
      ·go_wp2_with fail
       go_ret
       exact ⟨aa (by rw [Bool.eq_iff_iff]; simp [aD, *]; try omega), (by repeat (first | refine Below.setCell ?_ (by first | (simp; done) | (simp; omega) | omega) _ | refine Below.alloc ?_ (by first | (simp; done) | (simp; omega) | omega) _ | exact Below.refl _ _))⟩
     ·have n0b : (no == 0) = false := by rw [beq_eq_false_iff_ne]; exact n0
      go_wp2_with fail
      go_ret
      exact ⟨aa (by rw [Bool.eq_iff_iff]; simp [aD, *]; try omega), (by repeat (first | refine Below.setCell ?_ (by first | (simp; done) | (simp; omega) | omega) _ | refine Below.alloc ?_ (by first | (simp; done) | (simp; omega) | omega) _ | exact Below.refl _ _))⟩
    ·have t0b : (tuu == 0) = false := by rw [beq_eq_false_iff_ne]; exact t0
     go_wp2_with fail
     go_ret
     exact ⟨aa (by rw [Bool.eq_iff_iff]; simp [aD, *]; try omega), (by repeat (first | refine Below.setCell ?_ (by first | (simp; done) | (simp; omega) | omega) _ | refine Below.alloc ?_ (by first | (simp; done) | (simp; omega) | omega) _ | exact Below.refl _ _))⟩
   ·have h4' : 0 ≤ no ∧ no ≤ 100000999 := of_decide_eq_true h4
    by_cases h5 : sl = 0
    ·subst h5
     by_cases h6 : s.toList = []
     ·go_enter Tryz.func97, Tryz.ntmps97
      go_wp2_with fail
      refine (ab _ _).mono ?_
      rintro e w' ⟨rfl, rfl⟩
      rw [h1]
      go_wp2_with fail
      refine (ab _ _).mono ?_
      rintro e w' ⟨rfl, rfl⟩
      rw [h2]
      go_wp2_with fail
      refine (az _ _ _ _).mono ?_
      rintro e w' ⟨rfl, rfl⟩
      rw [h4]
      by_cases t0 : tuu = 0
      ·by_cases n0 : no = 0
       ·by_cases l0 : lo = 0
        ·by_cases g0 : hi = 0
         ·subst l0 g0
          go_wp2_with fail
          refine (az _ _ _ _).mono ?_
          rintro e w' ⟨rfl, rfl⟩
          go_wp2_with fail
          go_ret
          exact ⟨aa (by rw [Bool.eq_iff_iff]; simp [aD, *]; try omega), (by repeat (first | refine Below.setCell ?_ (by first | (simp; done) | (simp; omega) | omega) _ | refine Below.alloc ?_ (by first | (simp; done) | (simp; omega) | omega) _ | exact Below.refl _ _))⟩
         ·subst l0
          go_wp2_with fail
          go_ret
          exact ⟨aa (by rw [Bool.eq_iff_iff]; simp [aD, *]; try omega), (by repeat (first | refine Below.setCell ?_ (by first | (simp; done) | (simp; omega) | omega) _ | refine Below.alloc ?_ (by first | (simp; done) | (simp; omega) | omega) _ | exact Below.refl _ _))⟩
        ·go_wp2_with fail
         go_ret
         exact ⟨aa (by rw [Bool.eq_iff_iff]; simp [aD, *]; try omega), (by repeat (first | refine Below.setCell ?_ (by first | (simp; done) | (simp; omega) | omega) _ | refine Below.alloc ?_ (by first | (simp; done) | (simp; omega) | omega) _ | exact Below.refl _ _))⟩
       ·have n0b : (no == 0) = false := by rw [beq_eq_false_iff_ne]; exact n0
        go_wp2_with fail
        go_ret
        exact ⟨aa (by rw [Bool.eq_iff_iff]; simp [aD, *]; try omega), (by repeat (first | refine Below.setCell ?_ (by first | (simp; done) | (simp; omega) | omega) _ | refine Below.alloc ?_ (by first | (simp; done) | (simp; omega) | omega) _ | exact Below.refl _ _))⟩
      ·have t0b : (tuu == 0) = false := by rw [beq_eq_false_iff_ne]; exact t0
       go_wp2_with fail
       go_ret
       exact ⟨aa (by rw [Bool.eq_iff_iff]; simp [aD, *]; try omega), (by repeat (first | refine Below.setCell ?_ (by first | (simp; done) | (simp; omega) | omega) _ | refine Below.alloc ?_ (by first | (simp; done) | (simp; omega) | omega) _ | exact Below.refl _ _))⟩
     ·go_enter Tryz.func97, Tryz.ntmps97
      go_wp2_with fail
      refine (ab _ _).mono ?_
      rintro e w' ⟨rfl, rfl⟩
      rw [h1]
      go_wp2_with fail
      refine (ab _ _).mono ?_
      rintro e w' ⟨rfl, rfl⟩
      rw [h2]
      go_wp2_with fail
      refine (az _ _ _ _).mono ?_
      rintro e w' ⟨rfl, rfl⟩
      rw [h4]
      by_cases t0 : tuu = 0
      ·by_cases n0 : no = 0
       ·by_cases l0 : lo = 0
        ·by_cases g0 : hi = 0
         ·subst l0 g0
          go_wp2_with fail
          refine (az _ _ _ _).mono ?_
          rintro e w' ⟨rfl, rfl⟩
          go_wp2_with fail
          go_ret
          exact ⟨aa (by rw [Bool.eq_iff_iff]; simp [aD, *]; try omega), (by repeat (first | refine Below.setCell ?_ (by first | (simp; done) | (simp; omega) | omega) _ | refine Below.alloc ?_ (by first | (simp; done) | (simp; omega) | omega) _ | exact Below.refl _ _))⟩
         ·subst l0
          go_wp2_with fail
          go_ret
          exact ⟨aa (by rw [Bool.eq_iff_iff]; simp [aD, *]; try omega), (by repeat (first | refine Below.setCell ?_ (by first | (simp; done) | (simp; omega) | omega) _ | refine Below.alloc ?_ (by first | (simp; done) | (simp; omega) | omega) _ | exact Below.refl _ _))⟩
        ·go_wp2_with fail
         go_ret
         exact ⟨aa (by rw [Bool.eq_iff_iff]; simp [aD, *]; try omega), (by repeat (first | refine Below.setCell ?_ (by first | (simp; done) | (simp; omega) | omega) _ | refine Below.alloc ?_ (by first | (simp; done) | (simp; omega) | omega) _ | exact Below.refl _ _))⟩
       ·have n0b : (no == 0) = false := by rw [beq_eq_false_iff_ne]; exact n0
        go_wp2_with fail
        go_ret
        exact ⟨aa (by rw [Bool.eq_iff_iff]; simp [aD, *]; try omega), (by repeat (first | refine Below.setCell ?_ (by first | (simp; done) | (simp; omega) | omega) _ | refine Below.alloc ?_ (by first | (simp; done) | (simp; omega) | omega) _ | exact Below.refl _ _))⟩
      ·have t0b : (tuu == 0) = false := by rw [beq_eq_false_iff_ne]; exact t0
       go_wp2_with fail
       go_ret
       exact ⟨aa (by rw [Bool.eq_iff_iff]; simp [aD, *]; try omega), (by repeat (first | refine Below.setCell ?_ (by first | (simp; done) | (simp; omega) | omega) _ | refine Below.alloc ?_ (by first | (simp; done) | (simp; omega) | omega) _ | exact Below.refl _ _))⟩
    ·have h5b : (sl == 0) = false := by rw [beq_eq_false_iff_ne]; exact h5
     go_enter Tryz.func97, Tryz.ntmps97
     go_wp2_with fail
     refine (ab _ _).mono ?_
     rintro e w' ⟨rfl, rfl⟩
     rw [h1]
     go_wp2_with fail
     refine (ab _ _).mono ?_
     rintro e w' ⟨rfl, rfl⟩
     rw [h2]
     go_wp2_with fail
     refine (az _ _ _ _).mono ?_
     rintro e w' ⟨rfl, rfl⟩
     rw [h4]
     by_cases t0 : tuu = 0
     ·by_cases n0 : no = 0
      ·by_cases l0 : lo = 0
       ·by_cases g0 : hi = 0
        ·subst l0 g0
         go_wp2_with fail
         refine (az _ _ _ _).mono ?_
         rintro e w' ⟨rfl, rfl⟩
         go_wp2_with fail
         go_ret
         exact ⟨aa (by rw [Bool.eq_iff_iff]; simp [aD, *]; try omega), (by repeat (first | refine Below.setCell ?_ (by first | (simp; done) | (simp; omega) | omega) _ | refine Below.alloc ?_ (by first | (simp; done) | (simp; omega) | omega) _ | exact Below.refl _ _))⟩
        ·subst l0
         go_wp2_with fail
         go_ret
         exact ⟨aa (by rw [Bool.eq_iff_iff]; simp [aD, *]; try omega), (by repeat (first | refine Below.setCell ?_ (by first | (simp; done) | (simp; omega) | omega) _ | refine Below.alloc ?_ (by first | (simp; done) | (simp; omega) | omega) _ | exact Below.refl _ _))⟩
       ·go_wp2_with fail
        go_ret
        exact ⟨aa (by rw [Bool.eq_iff_iff]; simp [aD, *]; try omega), (by repeat (first | refine Below.setCell ?_ (by first | (simp; done) | (simp; omega) | omega) _ | refine Below.alloc ?_ (by first | (simp; done) | (simp; omega) | omega) _ | exact Below.refl _ _))⟩
      ·have n0b : (no == 0) = false := by rw [beq_eq_false_iff_ne]; exact n0
       go_wp2_with fail
       go_ret
       exact ⟨aa (by rw [Bool.eq_iff_iff]; simp [aD, *]; try omega), (by repeat (first | refine Below.setCell ?_ (by first | (simp; done) | (simp; omega) | omega) _ | refine Below.alloc ?_ (by first | (simp; done) | (simp; omega) | omega) _ | exact Below.refl _ _))⟩
     ·have t0b : (tuu == 0) = false := by rw [beq_eq_false_iff_ne]; exact t0
      go_wp2_with fail
      go_ret
      exact ⟨aa (by rw [Bool.eq_iff_iff]; simp [aD, *]; try omega), (by repeat (first | refine Below.setCell ?_ (by first | (simp; done) | (simp; omega) | omega) _ | refine Below.alloc ?_ (by first | (simp; done) | (simp; omega) | omega) _ | exact Below.refl _ _))⟩
set_option maxHeartbeats 8000000 in
theorem gi (k fr tuu no lo hi sl : Int) (s : ByteArray) (w : World) (h1 : aJ fr = true) (hz : s.size ≤ 24) (k1 : k ≠ 1) (k2 : k ≠ 2) (k3 : k ≠ 3) :
 Calls Tryz.prog 97 #[.agg #[.int .i64 k, .int .i64 fr, .int .i64 tuu, .int .i64 no, .int .i64 lo, .int .i64 hi, .int .i64 sl, .string s]] w fun e w' => e = .returned (.bool (aD k fr tuu no lo hi sl s)) ∧ Below w.heap.size w w' := by
 have hzi : ¬ 24 < (s.size : Int) := by omega
 have q1 : (k == 1) = false := by rw [beq_eq_false_iff_ne]; exact k1
 have q2 : (k == 2) = false := by rw [beq_eq_false_iff_ne]; exact k2
 have q3 : (k == 3) = false := by rw [beq_eq_false_iff_ne]; exact k3
 cases h2 : aJ tuu
 ·go_enter Tryz.func97, Tryz.ntmps97
  go_wp2_with fail
  refine (ab _ _).mono ?_
  rintro e w' ⟨rfl, rfl⟩
  rw [h1]
  go_wp2_with fail
  refine (ab _ _).mono ?_
  rintro e w' ⟨rfl, rfl⟩
  rw [h2]
  go_wp2_with fail
  all_goals go_ret
  all_goals exact ⟨aa (by rw [Bool.eq_iff_iff]; simp [aD, *]; try omega), (by repeat (first | refine Below.setCell ?_ (by first | (simp; done) | (simp; omega) | omega) _ | refine Below.alloc ?_ (by first | (simp; done) | (simp; omega) | omega) _ | exact Below.refl _ _))⟩
 ·cases h3 : (tuu != fr)
  ·have h3' : tuu = fr := by simpa using h3
   subst h3'
   go_enter Tryz.func97, Tryz.ntmps97
   go_wp2_with fail
   refine (ab _ _).mono ?_
   rintro e w' ⟨rfl, rfl⟩
   rw [h1]
   go_wp2_with fail
   refine (ab _ _).mono ?_
   rintro e w' ⟨rfl, rfl⟩
   rw [h2]
   go_wp2_with fail
   all_goals go_ret
   all_goals exact ⟨aa (by rw [Bool.eq_iff_iff]; simp [aD, *]; try omega), (by repeat (first | refine Below.setCell ?_ (by first | (simp; done) | (simp; omega) | omega) _ | refine Below.alloc ?_ (by first | (simp; done) | (simp; omega) | omega) _ | exact Below.refl _ _))⟩
  ·have h3' : ¬ fr = tuu := by simp at h3; omega
   cases h4 : decide (0 ≤ no ∧ no ≤ 100000999)
   ·have h4' : ¬ (0 ≤ no ∧ no ≤ 100000999) := of_decide_eq_false h4
    go_enter Tryz.func97, Tryz.ntmps97
    go_wp2_with fail
    refine (ab _ _).mono ?_
    rintro e w' ⟨rfl, rfl⟩
    rw [h1]
    go_wp2_with fail
    refine (ab _ _).mono ?_
    rintro e w' ⟨rfl, rfl⟩
    rw [h2]
    go_wp2_with fail
    refine (az _ _ _ _).mono ?_
    rintro e w' ⟨rfl, rfl⟩
    rw [h4]
    clear h4'
    go_wp2_with fail
    all_goals go_ret
    all_goals exact ⟨aa (by rw [Bool.eq_iff_iff]; simp [aD, *]; try omega), (by repeat (first | refine Below.setCell ?_ (by first | (simp; done) | (simp; omega) | omega) _ | refine Below.alloc ?_ (by first | (simp; done) | (simp; omega) | omega) _ | exact Below.refl _ _))⟩
   ·have h4' : 0 ≤ no ∧ no ≤ 100000999 := of_decide_eq_true h4
    by_cases h5 : sl = 0
    ·subst h5
     by_cases h6 : s.toList = []
     ·go_enter Tryz.func97, Tryz.ntmps97
      go_wp2_with fail
      refine (ab _ _).mono ?_
      rintro e w' ⟨rfl, rfl⟩
      rw [h1]
      go_wp2_with fail
      refine (ab _ _).mono ?_
      rintro e w' ⟨rfl, rfl⟩
      rw [h2]
      go_wp2_with fail
      refine (az _ _ _ _).mono ?_
      rintro e w' ⟨rfl, rfl⟩
      rw [h4]
      go_wp2_with fail
      all_goals go_ret
      all_goals exact ⟨aa (by rw [Bool.eq_iff_iff]; simp [aD, *]; try omega), (by repeat (first | refine Below.setCell ?_ (by first | (simp; done) | (simp; omega) | omega) _ | refine Below.alloc ?_ (by first | (simp; done) | (simp; omega) | omega) _ | exact Below.refl _ _))⟩
     ·go_enter Tryz.func97, Tryz.ntmps97
      go_wp2_with fail
      refine (ab _ _).mono ?_
      rintro e w' ⟨rfl, rfl⟩
      rw [h1]
      go_wp2_with fail
      refine (ab _ _).mono ?_
      rintro e w' ⟨rfl, rfl⟩
      rw [h2]
      go_wp2_with fail
      refine (az _ _ _ _).mono ?_
      rintro e w' ⟨rfl, rfl⟩
      rw [h4]
      go_wp2_with fail
      all_goals go_ret
      all_goals exact ⟨aa (by rw [Bool.eq_iff_iff]; simp [aD, *]; try omega), (by repeat (first | refine Below.setCell ?_ (by first | (simp; done) | (simp; omega) | omega) _ | refine Below.alloc ?_ (by first | (simp; done) | (simp; omega) | omega) _ | exact Below.refl _ _))⟩
    ·have h5b : (sl == 0) = false := by rw [beq_eq_false_iff_ne]; exact h5
     go_enter Tryz.func97, Tryz.ntmps97
     go_wp2_with fail
     refine (ab _ _).mono ?_
     rintro e w' ⟨rfl, rfl⟩
     rw [h1]
     go_wp2_with fail
     refine (ab _ _).mono ?_
     rintro e w' ⟨rfl, rfl⟩
     rw [h2]
     go_wp2_with fail
     refine (az _ _ _ _).mono ?_
     rintro e w' ⟨rfl, rfl⟩
     rw [h4]
     go_wp2_with fail
     all_goals go_ret
     all_goals exact ⟨aa (by rw [Bool.eq_iff_iff]; simp [aD, *]; try omega), (by repeat (first | refine Below.setCell ?_ (by first | (simp; done) | (simp; omega) | omega) _ | refine Below.alloc ?_ (by first | (simp; done) | (simp; omega) | omega) _ | exact Below.refl _ _))⟩
theorem bV (k fr tuu no lo hi sl : Int) (s : ByteArray) (w : World) (hs : s.size ≤ 1048576) :
 Calls Tryz.prog 97 #[.agg #[.int .i64 k, .int .i64 fr, .int .i64 tuu, .int .i64 no, .int .i64 lo, .int .i64 hi, .int .i64 sl, .string s]] w fun e w' => e = .returned (.bool (aD k fr tuu no lo hi sl s)) ∧ Below w.heap.size w w' := by
 by_cases hg : aJ fr = false ∨ ¬ s.size ≤ 24
 ·exact fl k fr tuu no lo hi sl s w hs hg
 ·have h1 : aJ fr = true := by cases h : aJ fr; exact absurd (.inl h) hg; rfl
  have hz : s.size ≤ 24 := Decidable.not_not.1 (fun h => hg (.inr h))
  by_cases k1 : k = 1
  ·subst k1; exact il fr tuu no lo hi sl s w h1 hz
  ·by_cases k2 : k = 2
   ·subst k2; exact im fr tuu no lo hi sl s w h1 hz
   ·by_cases k3 : k = 3
    ·subst k3; exact io fr tuu no lo hi sl s w h1 hz
    ·exact gi k fr tuu no lo hi sl s w h1 hz k1 k2 k3
end Go.Proofs.YtddjiamollfplaaGreatDoor
