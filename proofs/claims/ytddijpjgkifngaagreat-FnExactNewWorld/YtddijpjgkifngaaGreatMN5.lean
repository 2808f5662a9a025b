/- NonceOf and NonceParts: contracts, and the walks of their exact laws.  -/
import Derived.Test.YtddijpjgkifngaaGreatMN4
namespace Go.Proofs.YtddijpjgkifngaaGreat
open Go.RowKit
set_option linter.unusedVariables false
set_option maxRecDepth 100000
set_option maxHeartbeats 16000000
def epB (e : Int) : Bool := decide (0 ≤ e ∧ e ≤ 100000)
def kB (k : Int) : Bool := decide (0 ≤ k ∧ k ≤ 999)
def nnB (e k : Int) : Bool := epB e && kB k
def nnI (e k : Int) : Int := bif nnB e k then e * 1000 + k else 0
def npB (n : Int) : Bool := decide (0 ≤ n ∧ n ≤ 100000999)
def npE (n : Int) : Int := bif npB n then Int.tdiv n 1000 else 0
def npK (n : Int) : Int := bif npB n then Int.tmod n 1000 else 0
theorem np_nn (n : Int) : nnB (Int.tdiv n 1000) (Int.tmod n 1000) = npB n := by
 rw [Bool.eq_iff_iff]
 simp only [nnB, epB, kB, npB, Bool.and_eq_true, decide_eq_true_eq]
 rcases Int.le_total 0 n with h | h
 ·rw [Int.tdiv_eq_ediv_of_nonneg h, Int.tmod_eq_emod_of_nonneg h]; omega
 ·obtain ⟨m, rfl⟩ : ∃ m : Int, n = -m := ⟨-n, by omega⟩
  rw [Int.neg_tdiv, Int.neg_tmod, Int.tdiv_eq_ediv_of_nonneg (by omega), Int.tmod_eq_emod_of_nonneg (by omega)]; omega
theorem aJ (n : Int) (w : World) :
 Calls Tryz.prog 207 #[.int .i64 n] w fun e w' => e = .returned (.bool (epB n)) ∧ w = w' := by
 go_enter Tryz.func207, Tryz.ntmps207
 go_wp2
 all_goals go_ret
 all_goals exact ⟨ab (by rw [Bool.eq_iff_iff]; simp [epB]; try omega), rfl⟩
theorem bM (a k : Int) (w : World) :
 Calls Tryz.prog 217 #[.int .i64 a, .int .i64 k] w fun e w' => e = .returned (.tuple #[.int .i64 (nnI a k), .bool (nnB a k)]) ∧ w = w' := by
 cases h1 : epB a
 ·have HB : nnB a k = false := by rw [nnB, h1]; rfl
  have HI : nnI a k = 0 := by rw [nnI, HB]; rfl
  rw [HB, HI]
  go_enter Tryz.func217, Tryz.ntmps217
  go_wp2_with fail
  refine (aJ _ _).mono ?_
  rintro e w' ⟨rfl, rfl⟩
  rw [h1]
  go_wp2_with fail
  go_ret2
  exact ⟨rfl, rfl⟩
 ·by_cases h3 : k < 0
  ·have h2 : kB k = false := by simp [kB]; omega
   have HB : nnB a k = false := by rw [nnB, h2, Bool.and_false]
   have HI : nnI a k = 0 := by rw [nnI, HB]; rfl
   rw [HB, HI]
   go_enter Tryz.func217, Tryz.ntmps217
   go_wp2_with fail
   refine (aJ _ _).mono ?_
   rintro e w' ⟨rfl, rfl⟩
   rw [h1]
   go_wp2_with fail
   go_ret2
   exact ⟨rfl, rfl⟩
  ·by_cases h4 : 1000 ≤ k
   ·have h2 : kB k = false := by simp [kB]; omega
    have HB : nnB a k = false := by rw [nnB, h2, Bool.and_false]
    have HI : nnI a k = 0 := by rw [nnI, HB]; rfl
    rw [HB, HI]
    go_enter Tryz.func217, Tryz.ntmps217
    go_wp2_with fail
    refine (aJ _ _).mono ?_
    rintro e w' ⟨rfl, rfl⟩
    rw [h1]
    go_wp2_with fail
    go_ret2
    exact ⟨rfl, rfl⟩
   ·have h2 : kB k = true := by simp [kB]; omega
    have HB : nnB a k = true := by rw [nnB, h1, h2]; rfl
    have HI : nnI a k = a * 1000 + k := by rw [nnI, HB]; rfl
    rw [HB, HI]
    have g1 : 0 ≤ a ∧ a ≤ 100000 := of_decide_eq_true h1
    have q1 : IntKind.i64.wrap (a * 1000) = a * 1000 := Go.IntWalk.i64_in _ ⟨by omega, by omega⟩
    have q2 : IntKind.i64.wrap (a * 1000 + k) = a * 1000 + k := Go.IntWalk.i64_in _ ⟨by omega, by omega⟩
    clear g1
    go_enter Tryz.func217, Tryz.ntmps217
    go_wp2_with fail
    refine (aJ _ _).mono ?_
    rintro e w' ⟨rfl, rfl⟩
    rw [h1]
    go_wp2_with fail
    go_ret2
    exact ⟨rfl, rfl⟩
theorem cj (n : Int) (w : World) :
 Calls Tryz.prog 138 #[.int .i64 n] w fun e w' => e = .returned (.tuple #[.int .i64 (npE n), .int .i64 (npK n), .bool (npB n)]) ∧ w = w' := by
 cases h1 : npB n
 ·have HE : npE n = 0 := by rw [npE, h1]; rfl
  have HK : npK n = 0 := by rw [npK, h1]; rfl
  rw [HE, HK]
  unfold npB at h1
  go_enter Tryz.func138, Tryz.ntmps138
  go_wp2_with fail
  refine (al _ _ _ _).mono ?_
  rintro e w' ⟨rfl, rfl⟩
  rw [h1]
  go_wp2_with fail
  go_ret3
  exact ⟨rfl, rfl⟩
 ·have HE : npE n = Int.tdiv n 1000 := by rw [npE, h1]; rfl
  have HK : npK n = Int.tmod n 1000 := by rw [npK, h1]; rfl
  rw [HE, HK]
  unfold npB at h1
  have g := of_decide_eq_true h1
  have q1 : IntKind.i64.wrap (Int.tdiv n 1000) = Int.tdiv n 1000 := by rw [Int.tdiv_eq_ediv_of_nonneg g.1]; exact Go.IntWalk.i64_in _ ⟨by omega, by omega⟩
  have q2 : IntKind.i64.wrap (Int.tmod n 1000) = Int.tmod n 1000 := by rw [Int.tmod_eq_emod_of_nonneg g.1]; exact Go.IntWalk.i64_in _ ⟨by omega, by omega⟩
  clear g
  go_enter Tryz.func138, Tryz.ntmps138
  go_wp2_with fail
  refine (al _ _ _ _).mono ?_
  rintro e w' ⟨rfl, rfl⟩
  rw [h1]
  go_wp2_with fail
  go_ret3
  exact ⟨rfl, rfl⟩
theorem cg (n : Int) (w : World) (hw : (Lit.int .i64 n).wf = true) :
 Calls Tryz.prog 208 #[.int .i64 n] w fun e w' => e = .returned (.tuple #[.int .i64 (npE n), .int .i64 (npK n), .bool (npB n)]) ∧ w = w' := by
 have hr : -9223372036854775808 ≤ n ∧ n ≤ 9223372036854775807 := by simp only [Lit.wf, Bool.and_eq_true, decide_eq_true_eq] at hw; exact hw
 have q1 : IntKind.i64.wrap (Int.tdiv n 1000) = Int.tdiv n 1000 := Go.IntWalk.i64_in _ (by
  rcases Int.le_total 0 n with h | h
  ·rw [Int.tdiv_eq_ediv_of_nonneg h]; exact ⟨by omega, by omega⟩
  ·obtain ⟨m, rfl⟩ : ∃ m : Int, n = -m := ⟨-n, by omega⟩
   rw [Int.neg_tdiv, Int.tdiv_eq_ediv_of_nonneg (by omega)]; exact ⟨by omega, by omega⟩)
 have q2 : IntKind.i64.wrap (Int.tmod n 1000) = Int.tmod n 1000 := Go.IntWalk.i64_in _ (by
  rcases Int.le_total 0 n with h | h
  ·rw [Int.tmod_eq_emod_of_nonneg h]; exact ⟨by omega, by omega⟩
  ·obtain ⟨m, rfl⟩ : ∃ m : Int, n = -m := ⟨-n, by omega⟩
   rw [Int.neg_tmod, Int.tmod_eq_emod_of_nonneg (by omega)]; exact ⟨by omega, by omega⟩)
 have hn := np_nn n
 cases h1 : npB n
 ·have HE : npE n = 0 := by rw [npE, h1]; rfl
  have HK : npK n = 0 := by rw [npK, h1]; rfl
  rw [HE, HK]
  rw [h1] at hn
  have hi : nnI (Int.tdiv n 1000) (Int.tmod n 1000) = 0 := by rw [nnI, hn]; rfl
  clear hr hw
  go_enter Tryz.func208, Tryz.ntmps208
  go_wp2_with fail
  refine (bM _ _ _).mono ?_
  rintro e w' ⟨rfl, rfl⟩
  rw [hn]
  go_wp2_with fail
  go_ret3
  exact ⟨rfl, rfl⟩
 ·have HE : npE n = Int.tdiv n 1000 := by rw [npE, h1]; rfl
  have HK : npK n = Int.tmod n 1000 := by rw [npK, h1]; rfl
  rw [HE, HK]
  rw [h1] at hn
  clear hr hw
  go_enter Tryz.func208, Tryz.ntmps208
  go_wp2_with fail
  refine (bM _ _ _).mono ?_
  rintro e w' ⟨rfl, rfl⟩
  rw [hn]
  go_wp2_with fail
  go_ret3
  exact ⟨rfl, rfl⟩
def trB (x : Int) : Bool := decide (1 ≤ x ∧ x ≤ 4)
def akB (x1 x2 x3 : Int) : Bool := aO x1 && tmB x2 && trB x3
def bP (M : Nat → KT) : Nat → Bool
 | 0 => true
 | k + 1 => decide ((M k).1 < (M (k + 1)).1)
def elB (ep us : Int) (M : Nat → KT) (k : Nat) : Bool := npB (M k).1 && decide (npE (M k).1 = ep) && decide (npK (M k).1 < us) && bP M k && akB (M k).2.1 (M k).2.2.1 (M k).2.2.2
def tOk (ep us : Int) (M : Nat → KT) : Nat → Bool
 | 0 => true
 | k + 1 => tOk ep us M k && elB ep us M k
def usB (u : Int) : Bool := decide (0 ≤ u ∧ u ≤ 1000)
def aw (ep us : Int) (M : Nat → KT) (n : Nat) : Bool := epB ep && usB us && decide (n ≤ 16) && tOk ep us M n
theorem iw {ep us : Int} {M : Nat → KT} {k : Nat} (h : elB ep us M k = false) : ∀ n, k < n → tOk ep us M n = false
 | 0, hn => absurd hn (Nat.not_lt_zero _)
 | n + 1, hn => by
  rcases Nat.lt_succ_iff_lt_or_eq.1 hn with h1 | h1
  ·rw [tOk, iw h n h1, Bool.false_and]
  ·subst h1; rw [tOk, h, Bool.and_false]
theorem gD {ep us : Int} {M : Nat → KT} {n : Nat} (h : tOk ep us M n = false) : aw ep us M n = false := by rw [aw, h, Bool.and_false]
theorem iO {ep us : Int} {M : Nat → KT} {n : Nat} (h : epB ep = false) : aw ep us M n = false := by rw [aw, h]; rfl
theorem iP {ep us : Int} {M : Nat → KT} {n : Nat} (h : usB us = false) : aw ep us M n = false := by rw [aw, h, Bool.and_false]; rfl
theorem eG {ep us : Int} {M : Nat → KT} {n : Nat} (h : ¬ n ≤ 16) : aw ep us M n = false := by rw [aw, decide_eq_false h, Bool.and_false]; rfl
theorem dg {ep us : Int} {M : Nat → KT} {n : Nat} (h0 : epB ep = true) (h1 : usB us = true) (h2 : n ≤ 16) (h : tOk ep us M n = true) : aw ep us M n = true := by rw [aw, h, h0, h1, decide_eq_true h2]; rfl
theorem fl {n : Int} (h : npB n = true) : n = npE n * 1000 + npK n ∧ 0 ≤ npK n ∧ npK n ≤ 999 := by
 have g : 0 ≤ n ∧ n ≤ 100000999 := of_decide_eq_true h
 rw [npE, npK, h]
 simp only [cond_true]
 rw [Int.tdiv_eq_ediv_of_nonneg g.1, Int.tmod_eq_emod_of_nonneg g.1]
 omega
def dD (M : Nat → KT) : Nat → Int
 | 0 => -1
 | k + 1 => npK (M k).1
theorem j5 {ep us : Int} {M : Nat → KT} : ∀ {k : Nat}, tOk ep us M k = true → npB (M k).1 = true → npE (M k).1 = ep → (dD M k < npK (M k).1 ↔ bP M k = true)
 | 0, _, h1, _ => by simp [dD, bP]; have := (fl h1).2; omega
 | k + 1, h, h1, h2 => by
  rw [tOk, Bool.and_eq_true, elB] at h
  have g := h.2
  simp only [Bool.and_eq_true, decide_eq_true_eq] at g
  obtain ⟨⟨⟨⟨g1, g2⟩, g3⟩, g4⟩, g5⟩ := g
  have a := fl h1
  have b := fl g1
  simp only [dD, bP, decide_eq_true_eq]
  omega
def IB3 (w : World) (j : Nat) (ep us : Int) (a : Option Addr) (n c : Nat) : Prop := j < w.heap.size ∧ w.cell? ⟨j, 0, none⟩ = some (.int .i64 ep) ∧ w.cell? ⟨j, 1, none⟩ = some (.int .i64 us) ∧ w.cell? ⟨j, 2, none⟩ = some (.slice a n c)
theorem IB3.below {w w' : World} {j : Nat} {ep us : Int} {a : Option Addr} {n c : Nat} (h : IB3 w j ep us a n c) (hb : Below w.heap.size w w') : IB3 w' j ep us a n c :=
 ⟨Nat.lt_of_lt_of_le h.1 hb.size, by rw [hb.cell (p := ⟨j, 0, none⟩) h.1]; exact h.2.1, by rw [hb.cell (p := ⟨j, 1, none⟩) h.1]; exact h.2.2.1, by rw [hb.cell (p := ⟨j, 2, none⟩) h.1]; exact h.2.2.2⟩
theorem IB3.drew {w : World} {j : Nat} {ep us : Int} {a : Option Addr} {n c : Nat} (h : IB3 w j ep us a n c) : IB3 w.drew j ep us a n c := h
theorem IB3.new (w : World) (ep us : Int) (a : Option Addr) (n c : Nat) (T : TypeId) : IB3 (w.alloc (.cells #[.int .i64 ep, .int .i64 us, .slice a n c] T)) w.heap.size ep us a n c := ⟨by simp, by simp, by simp, by simp⟩
def Bk4 (w : World) (j : Nat) (x0 x1 x2 x3 : Int) : Prop := j < w.heap.size ∧ w.cell? ⟨j, 0, none⟩ = some (.int .i64 x0) ∧ w.cell? ⟨j, 1, none⟩ = some (.int .i64 x1) ∧ w.cell? ⟨j, 2, none⟩ = some (.int .i64 x2) ∧ w.cell? ⟨j, 3, none⟩ = some (.int .i64 x3)
theorem Bk4.below {w w' : World} {j : Nat} {x0 x1 x2 x3 : Int} (h : Bk4 w j x0 x1 x2 x3) (hb : Below w.heap.size w w') : Bk4 w' j x0 x1 x2 x3 :=
 ⟨Nat.lt_of_lt_of_le h.1 hb.size, by rw [hb.cell (p := ⟨j, 0, none⟩) h.1]; exact h.2.1, by rw [hb.cell (p := ⟨j, 1, none⟩) h.1]; exact h.2.2.1, by rw [hb.cell (p := ⟨j, 2, none⟩) h.1]; exact h.2.2.2.1, by rw [hb.cell (p := ⟨j, 3, none⟩) h.1]; exact h.2.2.2.2⟩
theorem Bk4.new (w : World) (x0 x1 x2 x3 : Int) (T : TypeId) : Bk4 (w.alloc (.cells #[.int .i64 x0, .int .i64 x1, .int .i64 x2, .int .i64 x3] T)) w.heap.size x0 x1 x2 x3 := ⟨by simp, by simp, by simp, by simp, by simp⟩
theorem iS (x0 x1 x2 x3 : Int) (w : World) :
 Calls Tryz.prog 209 #[.agg #[.int .i64 x0, .int .i64 x1, .int .i64 x2, .int .i64 x3]] w fun e w' => e = .returned (.bool (akB x1 x2 x3)) ∧ Below w.heap.size w w' := by
 have B0 := Below.nw w (.cells #[.int .i64 x0, .int .i64 x1, .int .i64 x2, .int .i64 x3] 160)
 cases h1 : aO x1
 ·have HN : Hid (akB x1 x2 x3 = false) := by rw [Hid, akB, h1]; rfl
  go_enter Tryz.func209, Tryz.ntmps209
  go_wp2_with fail
  refine (au _ _).mono ?_
  rintro e w' ⟨rfl, rfl⟩
  rw [h1]
  go_wp2_with fail
  go_ret
  exact ⟨ab HN.out.symm, B0⟩
 ·cases h2 : tmB x2
  ·have HN : Hid (akB x1 x2 x3 = false) := by rw [Hid, akB, h2, Bool.and_false]; rfl
   go_enter Tryz.func209, Tryz.ntmps209
   go_wp2_with fail
   refine (au _ _).mono ?_
   rintro e w' ⟨rfl, rfl⟩
   rw [h1]
   go_wp2_with fail
   refine (bj _ _).mono ?_
   rintro e w' ⟨rfl, rfl⟩
   rw [h2]
   go_wp2_with fail
   go_ret
   exact ⟨ab HN.out.symm, B0⟩
  ·have HN : Hid (akB x1 x2 x3 = trB x3) := by rw [Hid, akB, h1, h2]; rfl
   by_cases h3 : 1 ≤ x3
   ·by_cases h4 : x3 ≤ 4
    ·have HT : Hid (trB x3 = true) := by simp [Hid, trB]; omega
     go_enter Tryz.func209, Tryz.ntmps209
     go_wp2_with fail
     refine (au _ _).mono ?_
     rintro e w' ⟨rfl, rfl⟩
     rw [h1]
     go_wp2_with fail
     refine (bj _ _).mono ?_
     rintro e w' ⟨rfl, rfl⟩
     rw [h2]
     go_wp2_with fail
     go_ret
     exact ⟨ab (HN.out.trans HT.out).symm, B0⟩
    ·have HT : Hid (trB x3 = false) := by simp [Hid, trB]; omega
     have hd4 : decide (x3 ≤ 4) = false := decide_eq_false h4
     go_enter Tryz.func209, Tryz.ntmps209
     go_wp2_with fail
     refine (au _ _).mono ?_
     rintro e w' ⟨rfl, rfl⟩
     rw [h1]
     go_wp2_with fail
     refine (bj _ _).mono ?_
     rintro e w' ⟨rfl, rfl⟩
     rw [h2]
     go_wp2_with fail
     go_ret
     exact ⟨ab (HN.out.trans HT.out).symm, B0⟩
   ·have HT : Hid (trB x3 = false) := by simp [Hid, trB]; omega
    go_enter Tryz.func209, Tryz.ntmps209
    go_wp2_with fail
    refine (au _ _).mono ?_
    rintro e w' ⟨rfl, rfl⟩
    rw [h1]
    go_wp2_with fail
    refine (bj _ _).mono ?_
    rintro e w' ⟨rfl, rfl⟩
    rw [h2]
    go_wp2_with fail
    go_ret
    exact ⟨ab (HN.out.trans HT.out).symm, B0⟩
end Go.Proofs.YtddijpjgkifngaaGreat
