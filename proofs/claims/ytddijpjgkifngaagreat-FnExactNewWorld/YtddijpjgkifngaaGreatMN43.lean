/- A row of new nodes marked. -/
import Derived.Laws.Tables
import Derived.Test.YtddijpjgkifngaaGreatMN29
namespace Go.Proofs.YtddijpjgkifngaaGreat
open Go.RowKit
set_option linter.unusedVariables false
set_option maxRecDepth 100000
set_option maxHeartbeats 16000000
def mkZ (Q : Int) : Nat → Value
 | 0 => .int .i64 Q
 | 1 => .int .i64 (Q + 1)
 | 2 => .int .i64 (Q + 2)
 | 3 => .int .i64 (Q + 3)
 | 4 => .bool ((Q + 4) % 3 == 0)
 | 5 => .int .i64 (Q + 5)
 | 6 => .int .i64 (Q + 6)
 | 7 => .int .i64 (Q + 7)
 | 8 => .int .i64 (Q + 8)
 | 9 => .int .i64 (Q + 9)
 | 10 => .slice none 0 0
 | 11 => .slice none 0 0
 | 12 => .bool ((Q + 10) % 3 == 0)
 | 13 => .int .i64 (Q + 11)
 | 14 => .slice none 0 0
 | _ => .int .i64 (Q + 12)
def dL (q0 : Int) (j : Nat) : Value := mkZ (q0 + 13 * ((j / 16 : Nat) : Int)) (j % 16)
theorem aq (q0 : Int) (k j : Nat) (hj : j < 16) : dL q0 (k * 16 + j) = mkZ (q0 + 13 * (k : Int)) j := by
 unfold dL
 rw [show (k * 16 + j) / 16 = k by omega, show (k * 16 + j) % 16 = j by omega]
def NzB (w : World) (g n K : Nat) (q0 : Int) : Prop := ∃ A, Bo w g A ∧ n * 16 ≤ A.size ∧ (∀ j, j < K → A[j]? = some (dL q0 j)) ∧ ∀ j, K ≤ j → j < n * 16 → A[j]? = some (nzF j)
theorem NzB.run {P : Program} {w : World} {g n K : Nat} {q0 : Int} (h : NzB w g n K q0) {j : Nat} (hj : j < n * 16) (u : Value) (hu : u.oneCell' = true) : (storeCells ⟨g, j, none⟩ [u] 0).run P w = .ok () (ah w g j [u]) := by
 obtain ⟨A, h1, h2, _⟩ := h
 exact Bo.store (P := P) (b := j) [u] j 0 h1 rfl (by simp; omega) (List.forall_mem_cons.2 ⟨hu, fun _ h => nomatch h⟩)
theorem NzB.put {w : World} {g n K : Nat} {q0 : Int} {u : Value} (h : NzB w g n K q0) (hK : K < n * 16) (hu : dL q0 K = u) : NzB (ah w g K [u]) g n (K + 1) q0 := by
 obtain ⟨A, h1, h2, h3, h4⟩ := h
 have hz : K + [u].length ≤ A.size := by simp; omega
 refine ⟨spl A K [u], Bo.put [u] K h1, by rw [bV]; exact h2, fun j hj => ?_, fun j hj hn => ?_⟩
 ·rw [bh _ _ _ _ hz]
  by_cases e : j = K
  ·subst e; rw [if_pos (by simp), Nat.sub_self, hu]; rfl
  ·rw [if_neg (by simp; omega)]; exact h3 j (by omega)
 ·rw [bh _ _ _ _ hz, if_neg (by simp; omega)]
  exact h4 j (by omega) hn
theorem NzB.skip {w : World} {g n K : Nat} {q0 : Int} (h : NzB w g n K q0) (hK : K < n * 16) (hu : dL q0 K = nzF K) : NzB w g n (K + 1) q0 := by
 obtain ⟨A, h1, h2, h3, h4⟩ := h
 refine ⟨A, h1, h2, fun j hj => ?_, fun j hj hn => h4 j (by omega) hn⟩
 by_cases e : j = K
 ·subst e; rw [hu]; exact h4 _ (Nat.le_refl _) hK
 ·exact h3 j (by omega)
theorem NzB.cell {w : World} {g n K : Nat} {q0 : Int} (h : NzB w g n K q0) {j : Nat} (hK : K ≤ j) (hj : j < n * 16) : w.cell? ⟨g, j, none⟩ = some (nzF j) := by
 obtain ⟨A, h1, h2, h3, h4⟩ := h
 exact h1.cell (h4 j hK hj)
theorem NzB.start {w : World} {g n : Nat} {A : Array Value} (q0 : Int) (h : Bo w g A) (hs : n * 16 ≤ A.size) (hc : ∀ j, j < n * 16 → w.cell? ⟨g, j, none⟩ = some (nzF j)) : NzB w g n 0 q0 := by
 refine ⟨A, h, hs, fun j hj => absurd hj (Nat.not_lt_zero _), fun j _ hj => ?_⟩
 have q := h.2.1 j A[j] (by rw [Array.getElem?_eq_getElem])
 rw [hc j hj] at q
 rw [Array.getElem?_eq_getElem (by omega)]
 exact q.symm
theorem NzB.src {w : World} {g n : Nat} {q0 : Int} (h : NzB w g n (n * 16) q0) : ae w (some ⟨g, 0, none⟩) (n * 16) (dL q0) := by
 obtain ⟨A, h1, h2, h3, h4⟩ := h
 exact .inr ⟨g, 0, rfl, h1.1, fun j hj => by rw [Nat.zero_add]; exact h1.cell (h3 j hj)⟩
attribute [-go_sem] loadCells storeCells in
theorem jb (g n c : Nat) (q0 : Int) (w : World) (hn : n ≤ 1048576) (hq : 0 < q0) (hq1 : q0 ≤ 16777216) (h : NzB w g n 0 q0) :
 Calls Tryz.prog 66 #[.slice (some ⟨g, 0, none⟩) n c, .int .i64 q0] w fun e w' => e = .returned (.int .i64 (q0 + 13 * (n : Int))) ∧ NzB w' g n (n * 16) q0 ∧ Btw g (g + 1) w w' := by
 go_enter Tryz.func66, Tryz.ntmps66
 go_wp2_with fail
 go_loopw [1, 5] (fun q i wr => ∃ (k : Nat) (Q : Int), k ≤ n ∧ i = .int .i64 k ∧ q = .int .i64 Q ∧ Q = q0 + 13 * (k : Int) ∧ NzB wr g n (k * 16) q0 ∧ Btw g (g + 1) w wr) (fun _ i _ => n - (intOf i).toNat)
 case atStart => exact ⟨0, q0, Nat.zero_le _, rfl, rfl, by omega, by rw [Nat.zero_mul]; exact h, Btw.refl _ _ _⟩
 case round =>
  clear h
  obtain ⟨k, Q0, hk, rfl, rfl, hQ, MR, T0⟩ := hrel
  have HQ0 : Hid (Q0 = q0 + 13 * (k : Int)) := hQ
  by_cases hlt : k < n
  ·have hli : (k : Int) < (n : Int) := by omega
   have Qp0 : 0 < Q0 ∧ Q0 ≤ 16777216 + 1048576 * 13 := by omega
   clear hQ
   have hst := MR.run (P := Tryz.prog) (j := k * 16) (by omega) (.int .i64 Q0) rfl
   have M2 : NzB (ah wr g (k * 16) [.int .i64 Q0]) g n (k * 16 + 1) q0 := MR.put (by omega) (by have e := aq q0 k 0 (by decide); rw [Nat.add_zero] at e; rw [e, ← HQ0.out]; rfl)
   have hb := af [.int .i64 Q0] wr (k * 16) g
   go_upto_region 6 with (rw [hst])
   clear hst MR
   have MR : NzB _ g n (k * 16 + 1) q0 := M2
   clear M2
   replace T0 := T0.trans hb
   clear hb
   generalize ah wr g (k * 16) [.int .i64 Q0] = u0 at *
   obtain ⟨Q1, hQe⟩ : ∃ z : Int, Q0 + 1 = z := ⟨_, rfl⟩
   simp only [hQe]
   have HQ1 : Hid (Q1 = Q0 + 1) := show Q1 = Q0 + 1 by omega
   have Qp1 : 0 < Q1 ∧ Q1 ≤ 16777216 + 1048576 * 13 + 1 := by omega
   clear hQe
   have hst := MR.run (P := Tryz.prog) (j := k * 16 + 1) (by omega) (.int .i64 Q1) rfl
   have M2 : NzB (ah u0 g (k * 16 + 1) [.int .i64 Q1]) g n (k * 16 + 1 + 1) q0 := MR.put (by omega) (by rw [aq q0 k 1 (by decide), ← HQ0.out]; exact congrArg (Value.int .i64) HQ1.out.symm)
   have hb := af [.int .i64 Q1] u0 (k * 16 + 1) g
   go_upto_region 8 with (rw [hst])
   clear hst MR
   have MR : NzB _ g n (k * 16 + 2) q0 := M2
   clear M2
   replace T0 := T0.trans hb
   clear hb
   generalize ah u0 g (k * 16 + 1) [.int .i64 Q1] = u1 at *
   obtain ⟨Q2, hQe⟩ : ∃ z : Int, Q1 + 1 = z := ⟨_, rfl⟩
   simp only [hQe]
   have HQ2 : Hid (Q2 = Q0 + 2) := show Q2 = Q0 + 2 by have e := HQ1.out; omega
   have Qp2 : 0 < Q2 ∧ Q2 ≤ 16777216 + 1048576 * 13 + 2 := by omega
   clear hQe
   have hst := MR.run (P := Tryz.prog) (j := k * 16 + 2) (by omega) (.int .i64 Q2) rfl
   have M2 : NzB (ah u1 g (k * 16 + 2) [.int .i64 Q2]) g n (k * 16 + 2 + 1) q0 := MR.put (by omega) (by rw [aq q0 k 2 (by decide), ← HQ0.out]; exact congrArg (Value.int .i64) HQ2.out.symm)
   have hb := af [.int .i64 Q2] u1 (k * 16 + 2) g
   go_upto_region 10 with (rw [hst])
   clear hst MR
   have MR : NzB _ g n (k * 16 + 3) q0 := M2
   clear M2
   replace T0 := T0.trans hb
   clear hb
   generalize ah u1 g (k * 16 + 2) [.int .i64 Q2] = u2 at *
   obtain ⟨Q3, hQe⟩ : ∃ z : Int, Q2 + 1 = z := ⟨_, rfl⟩
   simp only [hQe]
   have HQ3 : Hid (Q3 = Q0 + 3) := show Q3 = Q0 + 3 by have e := HQ2.out; omega
   have Qp3 : 0 < Q3 ∧ Q3 ≤ 16777216 + 1048576 * 13 + 3 := by omega
   clear hQe
   have hst := MR.run (P := Tryz.prog) (j := k * 16 + 3) (by omega) (.int .i64 Q3) rfl
   have M2 : NzB (ah u2 g (k * 16 + 3) [.int .i64 Q3]) g n (k * 16 + 3 + 1) q0 := MR.put (by omega) (by rw [aq q0 k 3 (by decide), ← HQ0.out]; exact congrArg (Value.int .i64) HQ3.out.symm)
   have hb := af [.int .i64 Q3] u2 (k * 16 + 3) g
   go_upto_region 12 with (rw [hst])
   clear hst MR
   have MR : NzB _ g n (k * 16 + 4) q0 := M2
   clear M2
   replace T0 := T0.trans hb
   clear hb
   generalize ah u2 g (k * 16 + 3) [.int .i64 Q3] = u3 at *
   obtain ⟨Q4, hQe⟩ : ∃ z : Int, Q3 + 1 = z := ⟨_, rfl⟩
   simp only [hQe]
   have HQ4 : Hid (Q4 = Q0 + 4) := show Q4 = Q0 + 4 by have e := HQ3.out; omega
   have Qp4 : 0 < Q4 ∧ Q4 ≤ 16777216 + 1048576 * 13 + 4 := by omega
   clear hQe
   have hst := MR.run (P := Tryz.prog) (j := k * 16 + 4) (by omega) (.bool (Q4 % 3 == 0)) rfl
   have M2 : NzB (ah u3 g (k * 16 + 4) [.bool (Q4 % 3 == 0)]) g n (k * 16 + 4 + 1) q0 := MR.put (by omega) (by rw [aq q0 k 4 (by decide), ← HQ0.out]; exact congrArg (fun z : Int => Value.bool (z % 3 == 0)) HQ4.out.symm)
   have hb := af [.bool (Q4 % 3 == 0)] u3 (k * 16 + 4) g
   go_upto_region 14 with (rw [hst])
   clear hst MR
   have MR : NzB _ g n (k * 16 + 5) q0 := M2
   clear M2
   replace T0 := T0.trans hb
   clear hb
   generalize ah u3 g (k * 16 + 4) [.bool (Q4 % 3 == 0)] = u4 at *
   obtain ⟨Q5, hQe⟩ : ∃ z : Int, Q4 + 1 = z := ⟨_, rfl⟩
   simp only [hQe]
   have HQ5 : Hid (Q5 = Q0 + 5) := show Q5 = Q0 + 5 by have e := HQ4.out; omega
   have Qp5 : 0 < Q5 ∧ Q5 ≤ 16777216 + 1048576 * 13 + 5 := by omega
   clear hQe
   have hst := MR.run (P := Tryz.prog) (j := k * 16 + 5) (by omega) (.int .i64 Q5) rfl
   have M2 : NzB (ah u4 g (k * 16 + 5) [.int .i64 Q5]) g n (k * 16 + 5 + 1) q0 := MR.put (by omega) (by rw [aq q0 k 5 (by decide), ← HQ0.out]; exact congrArg (Value.int .i64) HQ5.out.symm)
   have hb := af [.int .i64 Q5] u4 (k * 16 + 5) g
   go_upto_region 16 with (rw [hst])
   clear hst MR
   have MR : NzB _ g n (k * 16 + 6) q0 := M2
   clear M2
   replace T0 := T0.trans hb
   clear hb
   generalize ah u4 g (k * 16 + 5) [.int .i64 Q5] = u5 at *
   obtain ⟨Q6, hQe⟩ : ∃ z : Int, Q5 + 1 = z := ⟨_, rfl⟩
   simp only [hQe]
   have HQ6 : Hid (Q6 = Q0 + 6) := show Q6 = Q0 + 6 by have e := HQ5.out; omega
   have Qp6 : 0 < Q6 ∧ Q6 ≤ 16777216 + 1048576 * 13 + 6 := by omega
   clear hQe
   have hst := MR.run (P := Tryz.prog) (j := k * 16 + 6) (by omega) (.int .i64 Q6) rfl
   have M2 : NzB (ah u5 g (k * 16 + 6) [.int .i64 Q6]) g n (k * 16 + 6 + 1) q0 := MR.put (by omega) (by rw [aq q0 k 6 (by decide), ← HQ0.out]; exact congrArg (Value.int .i64) HQ6.out.symm)
   have hb := af [.int .i64 Q6] u5 (k * 16 + 6) g
   go_upto_region 18 with (rw [hst])
   clear hst MR
   have MR : NzB _ g n (k * 16 + 7) q0 := M2
   clear M2
   replace T0 := T0.trans hb
   clear hb
   generalize ah u5 g (k * 16 + 6) [.int .i64 Q6] = u6 at *
   obtain ⟨Q7, hQe⟩ : ∃ z : Int, Q6 + 1 = z := ⟨_, rfl⟩
   simp only [hQe]
   have HQ7 : Hid (Q7 = Q0 + 7) := show Q7 = Q0 + 7 by have e := HQ6.out; omega
   have Qp7 : 0 < Q7 ∧ Q7 ≤ 16777216 + 1048576 * 13 + 7 := by omega
   clear hQe
   have hst := MR.run (P := Tryz.prog) (j := k * 16 + 7) (by omega) (.int .i64 Q7) rfl
   have M2 : NzB (ah u6 g (k * 16 + 7) [.int .i64 Q7]) g n (k * 16 + 7 + 1) q0 := MR.put (by omega) (by rw [aq q0 k 7 (by decide), ← HQ0.out]; exact congrArg (Value.int .i64) HQ7.out.symm)
   have hb := af [.int .i64 Q7] u6 (k * 16 + 7) g
   go_upto_region 20 with (rw [hst])
   clear hst MR
   have MR : NzB _ g n (k * 16 + 8) q0 := M2
   clear M2
   replace T0 := T0.trans hb
   clear hb
   generalize ah u6 g (k * 16 + 7) [.int .i64 Q7] = u7 at *
   obtain ⟨Q8, hQe⟩ : ∃ z : Int, Q7 + 1 = z := ⟨_, rfl⟩
   simp only [hQe]
   have HQ8 : Hid (Q8 = Q0 + 8) := show Q8 = Q0 + 8 by have e := HQ7.out; omega
   have Qp8 : 0 < Q8 ∧ Q8 ≤ 16777216 + 1048576 * 13 + 8 := by omega
   clear hQe
   have hst := MR.run (P := Tryz.prog) (j := k * 16 + 8) (by omega) (.int .i64 Q8) rfl
   have M2 : NzB (ah u7 g (k * 16 + 8) [.int .i64 Q8]) g n (k * 16 + 8 + 1) q0 := MR.put (by omega) (by rw [aq q0 k 8 (by decide), ← HQ0.out]; exact congrArg (Value.int .i64) HQ8.out.symm)
   have hb := af [.int .i64 Q8] u7 (k * 16 + 8) g
   go_upto_region 22 with (rw [hst])
   clear hst MR
   have MR : NzB _ g n (k * 16 + 9) q0 := M2
   clear M2
   replace T0 := T0.trans hb
   clear hb
   generalize ah u7 g (k * 16 + 8) [.int .i64 Q8] = u8 at *
   obtain ⟨Q9, hQe⟩ : ∃ z : Int, Q8 + 1 = z := ⟨_, rfl⟩
   simp only [hQe]
   have HQ9 : Hid (Q9 = Q0 + 9) := show Q9 = Q0 + 9 by have e := HQ8.out; omega
   have Qp9 : 0 < Q9 ∧ Q9 ≤ 16777216 + 1048576 * 13 + 9 := by omega
   clear hQe
   have hst := MR.run (P := Tryz.prog) (j := k * 16 + 9) (by omega) (.int .i64 Q9) rfl
   have M2 : NzB (ah u8 g (k * 16 + 9) [.int .i64 Q9]) g n (k * 16 + 9 + 1) q0 := MR.put (by omega) (by rw [aq q0 k 9 (by decide), ← HQ0.out]; exact congrArg (Value.int .i64) HQ9.out.symm)
   have hb := af [.int .i64 Q9] u8 (k * 16 + 9) g
   go_upto_region 24 with (rw [hst])
   clear hst MR
   have MR : NzB _ g n (k * 16 + 10) q0 := M2
   clear M2
   replace T0 := T0.trans hb
   clear hb
   generalize ah u8 g (k * 16 + 9) [.int .i64 Q9] = u9 at *
   obtain ⟨Q10, hQe⟩ : ∃ z : Int, Q9 + 1 = z := ⟨_, rfl⟩
   simp only [hQe]
   have HQ10 : Hid (Q10 = Q0 + 10) := show Q10 = Q0 + 10 by have e := HQ9.out; omega
   have Qp10 : 0 < Q10 ∧ Q10 ≤ 16777216 + 1048576 * 13 + 10 := by omega
   clear hQe
   have hL0 : u9.cell? ⟨g, k * 16 + 10, none⟩ = some (.slice none 0 0) := by have e := MR.cell (j := k * 16 + 10) (Nat.le_refl _) (by omega); rw [aI k 10 (by decide)] at e; exact e
   go_wp2_with fail
   refine (ej none 0 Q10 u9).mono ?_
   rintro e un ⟨rfl, rfl⟩
   clear hL0
   replace MR : NzB _ g n (k * 16 + 11) q0 := MR.skip (by omega) (by rw [aq q0 k 10 (by decide), aI k 10 (by decide)]; rfl)
   have hL0 : u9.cell? ⟨g, k * 16 + 11, none⟩ = some (.slice none 0 0) := by have e := MR.cell (j := k * 16 + 11) (Nat.le_refl _) (by omega); rw [aI k 11 (by decide)] at e; exact e
   go_wp2_with fail
   refine (dJ none 0 Q10 u9).mono ?_
   rintro e un ⟨rfl, rfl⟩
   clear hL0
   replace MR : NzB _ g n (k * 16 + 12) q0 := MR.skip (by omega) (by rw [aq q0 k 11 (by decide), aI k 11 (by decide)]; rfl)
   go_upto_region 26 with fail
   have hst := MR.run (P := Tryz.prog) (j := k * 16 + 12) (by omega) (.bool (Q10 % 3 == 0)) rfl
   have M2 : NzB (ah u9 g (k * 16 + 12) [.bool (Q10 % 3 == 0)]) g n (k * 16 + 12 + 1) q0 := MR.put (by omega) (by rw [aq q0 k 12 (by decide), ← HQ0.out]; exact congrArg (fun z : Int => Value.bool (z % 3 == 0)) HQ10.out.symm)
   have hb := af [.bool (Q10 % 3 == 0)] u9 (k * 16 + 12) g
   go_upto_region 28 with (rw [hst])
   clear hst MR
   have MR : NzB _ g n (k * 16 + 13) q0 := M2
   clear M2
   replace T0 := T0.trans hb
   clear hb
   generalize ah u9 g (k * 16 + 12) [.bool (Q10 % 3 == 0)] = u12 at *
   obtain ⟨Q11, hQe⟩ : ∃ z : Int, Q10 + 1 = z := ⟨_, rfl⟩
   simp only [hQe]
   have HQ11 : Hid (Q11 = Q0 + 11) := show Q11 = Q0 + 11 by have e := HQ10.out; omega
   have Qp11 : 0 < Q11 ∧ Q11 ≤ 16777216 + 1048576 * 13 + 11 := by omega
   clear hQe
   have hst := MR.run (P := Tryz.prog) (j := k * 16 + 13) (by omega) (.int .i64 Q11) rfl
   have M2 : NzB (ah u12 g (k * 16 + 13) [.int .i64 Q11]) g n (k * 16 + 13 + 1) q0 := MR.put (by omega) (by rw [aq q0 k 13 (by decide), ← HQ0.out]; exact congrArg (Value.int .i64) HQ11.out.symm)
   have hb := af [.int .i64 Q11] u12 (k * 16 + 13) g
   go_upto_region 30 with (rw [hst])
   clear hst MR
   have MR : NzB _ g n (k * 16 + 14) q0 := M2
   clear M2
   replace T0 := T0.trans hb
   clear hb
   generalize ah u12 g (k * 16 + 13) [.int .i64 Q11] = u13 at *
   obtain ⟨Q12, hQe⟩ : ∃ z : Int, Q11 + 1 = z := ⟨_, rfl⟩
   simp only [hQe]
   have HQ12 : Hid (Q12 = Q0 + 12) := show Q12 = Q0 + 12 by have e := HQ11.out; omega
   have Qp12 : 0 < Q12 ∧ Q12 ≤ 16777216 + 1048576 * 13 + 12 := by omega
   clear hQe
   have hL0 : u13.cell? ⟨g, k * 16 + 14, none⟩ = some (.slice none 0 0) := by have e := MR.cell (j := k * 16 + 14) (Nat.le_refl _) (by omega); rw [aI k 14 (by decide)] at e; exact e
   go_wp2_with fail
   refine (cU none 0 Q12 u13).mono ?_
   rintro e un ⟨rfl, rfl⟩
   clear hL0
   replace MR : NzB _ g n (k * 16 + 15) q0 := MR.skip (by omega) (by rw [aq q0 k 14 (by decide), aI k 14 (by decide)]; rfl)
   go_upto_region 31 with fail
   have hst := MR.run (P := Tryz.prog) (j := k * 16 + 15) (by omega) (.int .i64 Q12) rfl
   have M2 : NzB (ah u13 g (k * 16 + 15) [.int .i64 Q12]) g n ((k + 1) * 16) q0 := by have e := MR.put (u := .int .i64 Q12) (by omega) (by rw [aq q0 k 15 (by decide), ← HQ0.out]; exact congrArg (Value.int .i64) HQ12.out.symm); rw [show k * 16 + 15 + 1 = (k + 1) * 16 by omega] at e; exact e
   have hb := af [.int .i64 Q12] u13 (k * 16 + 15) g
   go_wp2_with (rw [hst])
   clear hst MR
   replace T0 := T0.trans hb
   clear hb
   generalize ah u13 g (k * 16 + 15) [.int .i64 Q12] = uz at *
   go_roundw
   case rel => exact ⟨k + 1, _, by omega, by go_num, rfl, by have e1 := HQ12.out; have e2 := HQ0.out; omega, M2, T0⟩
   case measure => simp [intOf]; omega
  ·obtain rfl : n = k := by omega
   have hli : ¬ (n : Int) < (n : Int) := by omega
   subst hQ
   go_wp2_with fail
   go_ret
   exact ⟨rfl, MR, T0⟩
end Go.Proofs.YtddijpjgkifngaaGreat
