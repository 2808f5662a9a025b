/- A row of marked new nodes looked up again. A new world that was marked -/
import Derived.Test.YtddijpjgkifngaaGreatMN44
namespace Go.Proofs.YtddijpjgkifngaaGreat
open Go.RowKit
set_option linter.unusedVariables false
set_option maxRecDepth 100000
set_option maxHeartbeats 16000000
theorem dy (b off n c : Nat) (q0 : Int) (w : World) (hn : n ≤ 1048576) (hq : 0 < q0) (hq1 : q0 ≤ 16777216) (h : Cs w b off (n * 16) (dL q0)) :
 Calls Tryz.prog 71 #[.slice (some ⟨b, off, none⟩) n c, .int .i64 q0] w fun e w' => e = .returned (.int .i64 (q0 + 13 * (n : Int))) ∧ w = w' := by
 have HP : Hid (Cs w b off (n * 16) (dL q0)) := h
 clear h
 go_enter Tryz.func71, Tryz.ntmps71
 go_wp2_with fail
 go_loopw [1, 5] (fun q i wr => ∃ (k : Nat) (Q : Int), k ≤ n ∧ i = .int .i64 k ∧ q = .int .i64 Q ∧ Q = q0 + 13 * (k : Int) ∧ w = wr) (fun _ i _ => n - (intOf i).toNat)
 case atStart => exact ⟨0, q0, Nat.zero_le _, rfl, rfl, by omega, by first | rfl | trivial⟩
 case round =>
  obtain ⟨k, Q0, hk, rfl, rfl, hQ, rfl⟩ := hrel
  have HQ0 : Hid (Q0 = q0 + 13 * (k : Int)) := hQ
  by_cases hlt : k < n
  ·have hli : (k : Int) < (n : Int) := by omega
   have Qp0 : 0 < Q0 ∧ Q0 ≤ 16777216 + 1048576 * 13 := by omega
   have hbl := HP.out.1
   clear hQ
   have c0 : w.cell? ⟨b, off + k * 16, none⟩ = some (.int .i64 Q0) := by have e := HP.out.2 (k * 16 + 0) (by omega); rw [aq q0 k 0 (by decide), ← HQ0.out] at e; exact e
   go_upto_region 7 with fail
   clear c0
   obtain ⟨Q1, hQe⟩ : ∃ z : Int, Q0 + 1 = z := ⟨_, rfl⟩
   simp only [hQe]
   have HQ1 : Hid (Q1 = Q0 + 1) := show Q1 = Q0 + 1 by omega
   have Qp1 : 0 < Q1 ∧ Q1 ≤ 16777216 + 1048576 * 13 + 1 := by omega
   clear hQe
   have c0 : w.cell? ⟨b, off + k * 16 + 1, none⟩ = some (.int .i64 Q1) := by have e := HP.out.2 (k * 16 + 1) (by omega); rw [aq q0 k 1 (by decide), ← HQ0.out] at e; rw [Nat.add_assoc]; exact e.trans (congrArg some (congrArg (Value.int .i64) HQ1.out.symm))
   go_upto_region 10 with fail
   clear c0
   obtain ⟨Q2, hQe⟩ : ∃ z : Int, Q1 + 1 = z := ⟨_, rfl⟩
   simp only [hQe]
   have HQ2 : Hid (Q2 = Q0 + 2) := show Q2 = Q0 + 2 by have e := HQ1.out; omega
   have Qp2 : 0 < Q2 ∧ Q2 ≤ 16777216 + 1048576 * 13 + 2 := by omega
   clear hQe
   have c0 : w.cell? ⟨b, off + k * 16 + 2, none⟩ = some (.int .i64 Q2) := by have e := HP.out.2 (k * 16 + 2) (by omega); rw [aq q0 k 2 (by decide), ← HQ0.out] at e; rw [Nat.add_assoc]; exact e.trans (congrArg some (congrArg (Value.int .i64) HQ2.out.symm))
   go_upto_region 13 with fail
   clear c0
   obtain ⟨Q3, hQe⟩ : ∃ z : Int, Q2 + 1 = z := ⟨_, rfl⟩
   simp only [hQe]
   have HQ3 : Hid (Q3 = Q0 + 3) := show Q3 = Q0 + 3 by have e := HQ2.out; omega
   have Qp3 : 0 < Q3 ∧ Q3 ≤ 16777216 + 1048576 * 13 + 3 := by omega
   clear hQe
   have c0 : w.cell? ⟨b, off + k * 16 + 3, none⟩ = some (.int .i64 Q3) := by have e := HP.out.2 (k * 16 + 3) (by omega); rw [aq q0 k 3 (by decide), ← HQ0.out] at e; rw [Nat.add_assoc]; exact e.trans (congrArg some (congrArg (Value.int .i64) HQ3.out.symm))
   go_upto_region 16 with fail
   clear c0
   obtain ⟨Q4, hQe⟩ : ∃ z : Int, Q3 + 1 = z := ⟨_, rfl⟩
   simp only [hQe]
   have HQ4 : Hid (Q4 = Q0 + 4) := show Q4 = Q0 + 4 by have e := HQ3.out; omega
   have Qp4 : 0 < Q4 ∧ Q4 ≤ 16777216 + 1048576 * 13 + 4 := by omega
   clear hQe
   have c0 : w.cell? ⟨b, off + k * 16 + 4, none⟩ = some (.bool (Q4 % 3 == 0)) := by have e := HP.out.2 (k * 16 + 4) (by omega); rw [aq q0 k 4 (by decide), ← HQ0.out] at e; rw [Nat.add_assoc]; exact e.trans (congrArg some (congrArg (fun z : Int => Value.bool (z % 3 == 0)) HQ4.out.symm))
   go_upto_region 19 with fail
   clear c0
   obtain ⟨Q5, hQe⟩ : ∃ z : Int, Q4 + 1 = z := ⟨_, rfl⟩
   simp only [hQe]
   have HQ5 : Hid (Q5 = Q0 + 5) := show Q5 = Q0 + 5 by have e := HQ4.out; omega
   have Qp5 : 0 < Q5 ∧ Q5 ≤ 16777216 + 1048576 * 13 + 5 := by omega
   clear hQe
   have c0 : w.cell? ⟨b, off + k * 16 + 5, none⟩ = some (.int .i64 Q5) := by have e := HP.out.2 (k * 16 + 5) (by omega); rw [aq q0 k 5 (by decide), ← HQ0.out] at e; rw [Nat.add_assoc]; exact e.trans (congrArg some (congrArg (Value.int .i64) HQ5.out.symm))
   go_upto_region 22 with fail
   clear c0
   obtain ⟨Q6, hQe⟩ : ∃ z : Int, Q5 + 1 = z := ⟨_, rfl⟩
   simp only [hQe]
   have HQ6 : Hid (Q6 = Q0 + 6) := show Q6 = Q0 + 6 by have e := HQ5.out; omega
   have Qp6 : 0 < Q6 ∧ Q6 ≤ 16777216 + 1048576 * 13 + 6 := by omega
   clear hQe
   have c0 : w.cell? ⟨b, off + k * 16 + 6, none⟩ = some (.int .i64 Q6) := by have e := HP.out.2 (k * 16 + 6) (by omega); rw [aq q0 k 6 (by decide), ← HQ0.out] at e; rw [Nat.add_assoc]; exact e.trans (congrArg some (congrArg (Value.int .i64) HQ6.out.symm))
   go_upto_region 25 with fail
   clear c0
   obtain ⟨Q7, hQe⟩ : ∃ z : Int, Q6 + 1 = z := ⟨_, rfl⟩
   simp only [hQe]
   have HQ7 : Hid (Q7 = Q0 + 7) := show Q7 = Q0 + 7 by have e := HQ6.out; omega
   have Qp7 : 0 < Q7 ∧ Q7 ≤ 16777216 + 1048576 * 13 + 7 := by omega
   clear hQe
   have c0 : w.cell? ⟨b, off + k * 16 + 7, none⟩ = some (.int .i64 Q7) := by have e := HP.out.2 (k * 16 + 7) (by omega); rw [aq q0 k 7 (by decide), ← HQ0.out] at e; rw [Nat.add_assoc]; exact e.trans (congrArg some (congrArg (Value.int .i64) HQ7.out.symm))
   go_upto_region 28 with fail
   clear c0
   obtain ⟨Q8, hQe⟩ : ∃ z : Int, Q7 + 1 = z := ⟨_, rfl⟩
   simp only [hQe]
   have HQ8 : Hid (Q8 = Q0 + 8) := show Q8 = Q0 + 8 by have e := HQ7.out; omega
   have Qp8 : 0 < Q8 ∧ Q8 ≤ 16777216 + 1048576 * 13 + 8 := by omega
   clear hQe
   have c0 : w.cell? ⟨b, off + k * 16 + 8, none⟩ = some (.int .i64 Q8) := by have e := HP.out.2 (k * 16 + 8) (by omega); rw [aq q0 k 8 (by decide), ← HQ0.out] at e; rw [Nat.add_assoc]; exact e.trans (congrArg some (congrArg (Value.int .i64) HQ8.out.symm))
   go_upto_region 31 with fail
   clear c0
   obtain ⟨Q9, hQe⟩ : ∃ z : Int, Q8 + 1 = z := ⟨_, rfl⟩
   simp only [hQe]
   have HQ9 : Hid (Q9 = Q0 + 9) := show Q9 = Q0 + 9 by have e := HQ8.out; omega
   have Qp9 : 0 < Q9 ∧ Q9 ≤ 16777216 + 1048576 * 13 + 9 := by omega
   clear hQe
   have c0 : w.cell? ⟨b, off + k * 16 + 9, none⟩ = some (.int .i64 Q9) := by have e := HP.out.2 (k * 16 + 9) (by omega); rw [aq q0 k 9 (by decide), ← HQ0.out] at e; rw [Nat.add_assoc]; exact e.trans (congrArg some (congrArg (Value.int .i64) HQ9.out.symm))
   go_upto_region 34 with fail
   clear c0
   obtain ⟨Q10, hQe⟩ : ∃ z : Int, Q9 + 1 = z := ⟨_, rfl⟩
   simp only [hQe]
   have HQ10 : Hid (Q10 = Q0 + 10) := show Q10 = Q0 + 10 by have e := HQ9.out; omega
   have Qp10 : 0 < Q10 ∧ Q10 ≤ 16777216 + 1048576 * 13 + 10 := by omega
   clear hQe
   have c0 : w.cell? ⟨b, off + k * 16 + 10, none⟩ = some (.slice none 0 0) := by have e := HP.out.2 (k * 16 + 10) (by omega); rw [aq q0 k 10 (by decide)] at e; rw [Nat.add_assoc]; exact e
   have hk0 : ¬ (Q10 < 0) := by omega
   go_wp2_with fail
   refine (ea none 0 Q10 w).mono ?_
   rintro e un ⟨rfl, rfl⟩
   clear c0
   go_upto_region 37 with fail
   clear hk0
   have c0 : w.cell? ⟨b, off + k * 16 + 11, none⟩ = some (.slice none 0 0) := by have e := HP.out.2 (k * 16 + 11) (by omega); rw [aq q0 k 11 (by decide)] at e; rw [Nat.add_assoc]; exact e
   have hk0 : ¬ (Q10 < 0) := by omega
   go_wp2_with fail
   refine (dA none 0 Q10 w).mono ?_
   rintro e un ⟨rfl, rfl⟩
   clear c0
   go_upto_region 40 with fail
   clear hk0
   have c0 : w.cell? ⟨b, off + k * 16 + 12, none⟩ = some (.bool (Q10 % 3 == 0)) := by have e := HP.out.2 (k * 16 + 12) (by omega); rw [aq q0 k 12 (by decide), ← HQ0.out] at e; rw [Nat.add_assoc]; exact e.trans (congrArg some (congrArg (fun z : Int => Value.bool (z % 3 == 0)) HQ10.out.symm))
   go_upto_region 43 with fail
   clear c0
   obtain ⟨Q11, hQe⟩ : ∃ z : Int, Q10 + 1 = z := ⟨_, rfl⟩
   simp only [hQe]
   have HQ11 : Hid (Q11 = Q0 + 11) := show Q11 = Q0 + 11 by have e := HQ10.out; omega
   have Qp11 : 0 < Q11 ∧ Q11 ≤ 16777216 + 1048576 * 13 + 11 := by omega
   clear hQe
   have c0 : w.cell? ⟨b, off + k * 16 + 13, none⟩ = some (.int .i64 Q11) := by have e := HP.out.2 (k * 16 + 13) (by omega); rw [aq q0 k 13 (by decide), ← HQ0.out] at e; rw [Nat.add_assoc]; exact e.trans (congrArg some (congrArg (Value.int .i64) HQ11.out.symm))
   go_upto_region 46 with fail
   clear c0
   obtain ⟨Q12, hQe⟩ : ∃ z : Int, Q11 + 1 = z := ⟨_, rfl⟩
   simp only [hQe]
   have HQ12 : Hid (Q12 = Q0 + 12) := show Q12 = Q0 + 12 by have e := HQ11.out; omega
   have Qp12 : 0 < Q12 ∧ Q12 ≤ 16777216 + 1048576 * 13 + 12 := by omega
   clear hQe
   have c0 : w.cell? ⟨b, off + k * 16 + 14, none⟩ = some (.slice none 0 0) := by have e := HP.out.2 (k * 16 + 14) (by omega); rw [aq q0 k 14 (by decide)] at e; rw [Nat.add_assoc]; exact e
   have hk0 : ¬ (Q12 < 0) := by omega
   go_wp2_with fail
   refine (cP none 0 Q12 w).mono ?_
   rintro e un ⟨rfl, rfl⟩
   clear c0
   go_upto_region 49 with fail
   clear hk0
   have c0 : w.cell? ⟨b, off + k * 16 + 15, none⟩ = some (.int .i64 Q12) := by have e := HP.out.2 (k * 16 + 15) (by omega); rw [aq q0 k 15 (by decide), ← HQ0.out] at e; rw [Nat.add_assoc]; exact e.trans (congrArg some (congrArg (Value.int .i64) HQ12.out.symm))
   go_wp2_with fail
   go_roundw
   case rel => exact ⟨k + 1, _, by omega, by go_num, rfl, by have e1 := HQ12.out; have e2 := HQ0.out; omega, by first | rfl | trivial⟩
   case measure => simp [intOf]; omega
  ·obtain rfl : n = k := by omega
   have hli : ¬ (n : Int) < (n : Int) := by omega
   subst hQ
   go_wp2_with fail
   go_ret
   exact ⟨rfl, rfl⟩
theorem dz (a : Option Addr) (c : Nat) (q0 : Int) (w : World) :
 Calls Tryz.prog 71 #[.slice a 0 c, .int .i64 q0] w fun e w' => e = .returned (.int .i64 q0) ∧ w = w' := by
 go_enter Tryz.func71, Tryz.ntmps71
 go_wp2_with fail
 go_loopw [1, 5] (fun q i wr => i = .int .i64 0 ∧ q = .int .i64 q0 ∧ w = wr) (fun _ i _ => 0)
 case atStart => exact ⟨rfl, rfl, by first | rfl | trivial⟩
 case round =>
  obtain ⟨rfl, rfl, rfl⟩ := hrel
  go_wp2_with fail
  go_ret
  exact ⟨rfl, rfl⟩
theorem i5 (a : Option Addr) (n c : Nat) (q0 : Int) (w : World) (hn : n ≤ 1048576) (hq : 0 < q0) (hq1 : q0 ≤ 16777216) (h : ae w a (n * 16) (dL q0)) :
 Calls Tryz.prog 71 #[.slice a n c, .int .i64 q0] w fun e w' => e = .returned (.int .i64 (q0 + 13 * (n : Int))) ∧ w = w' := by
 rcases h with h0 | ⟨b, off, rfl, hp⟩
 ·obtain rfl : n = 0 := by omega
  exact (dz a c q0 w).mono fun e w' ⟨h1, h2⟩ => ⟨by rw [h1]; simp, h2⟩
 ·exact dy b off n c q0 w hn hq hq1 hp
attribute [-go_sem] loadCells storeCells in
theorem gW (A : Array Value) (y : CfX) (n : Nat) (w : World) (h : NwM w A y n) :
 Calls Tryz.prog 23 #[.agg A, .int .i64 1] w fun e w' => e = .returned (.int .i64 (1 + (y.m : Int) * 2 + (n : Int) * 15)) ∧ Below w.heap.size w w' := by
 obtain ⟨p, d, la, lc, ca, cc, na, nk, rfl, hm, hn, S1, S2, S3, S4⟩ := h
 have B := Below.nw w (.cells #[.int .i64 y.dn, .int .i64 y.dd, .int .i64 y.li, .int .i64 y.le, .int .i64 y.pt, .int .i64 y.ag, .int .i64 y.ke, .int .i64 y.lg, .int .i64 y.s, .int .i64 y.g, .slice p y.m d, .slice la n lc, .int .i64 0, .slice ca n cc, .slice na n nk, .int .i64 0, .slice none 0 0, .slice none 0 0] 52)
 have W := Bo.new w #[.int .i64 y.dn, .int .i64 y.dd, .int .i64 y.li, .int .i64 y.le, .int .i64 y.pt, .int .i64 y.ag, .int .i64 y.ke, .int .i64 y.lg, .int .i64 y.s, .int .i64 y.g, .slice p y.m d, .slice la n lc, .int .i64 0, .slice ca n cc, .slice na n nk, .int .i64 0, .slice none 0 0, .slice none 0 0] 52
 replace S1 := S1.below B
 replace S2 := S2.below B
 replace S3 := S3.below B
 replace S4 := S4.below B
 go_enter Tryz.func23, Tryz.ntmps23
 go_upto_region 1 with fail
 generalize w.alloc (.cells #[.int .i64 y.dn, .int .i64 y.dd, .int .i64 y.li, .int .i64 y.le, .int .i64 y.pt, .int .i64 y.ag, .int .i64 y.ke, .int .i64 y.lg, .int .i64 y.s, .int .i64 y.g, .slice p y.m d, .slice la n lc, .int .i64 0, .slice ca n cc, .slice na n nk, .int .i64 0, .slice none 0 0, .slice none 0 0] 52) = v0 at *
 have hL0 : (loadCells ⟨w.heap.size, 0, none⟩ 11).run Tryz.prog v0 = .ok (cfV y p d) v0 := W.loadAt (P := Tryz.prog) 0 11 (show 0 + 11 ≤ 18 by decide)
 go_wp2_with (rw [hL0])
 refine (jq y p d v0 hm S1).mono ?_
 rintro e v1 ⟨rfl, hb⟩
 clear hL0 S1
 replace W := W.below hb
 replace S2 := S2.below hb
 replace S3 := S3.below hb
 replace S4 := S4.below hb
 replace B := B.trans (hb.mono B.size)
 clear hb
 go_upto_region 2 with fail
 obtain ⟨K1, hKe⟩ : ∃ z : Int, 1 + (y.m : Int) * 2 = z := ⟨_, rfl⟩
 simp only [hKe]
 have HK1 : Hid (K1 = 1 + (y.m : Int) * 2) := hKe.symm
 have kq1 : 0 < K1 ∧ K1 ≤ 1 + 1048576 * 2 := by omega
 have kn1 : ¬ (K1 < 0) := by omega
 clear hKe
 rw [← HK1.out] at S2 S3 S4
 have hL0 : v1.cell? ⟨w.heap.size, 11, none⟩ = some (.slice la n lc) := W.cell rfl
 go_wp2_with fail
 refine (eb la n lc K1 v1 hn (by omega) (by omega) S2).mono ?_
 rintro e vq ⟨rfl, rfl⟩
 clear hL0 S2
 (try simp only [Int.mul_one])
 go_upto_region 5 with fail
 obtain ⟨K2, hKe⟩ : ∃ z : Int, K1 + (n : Int) = z := ⟨_, rfl⟩
 simp only [hKe]
 have HK2 : Hid (K2 = K1 + (n : Int)) := hKe.symm
 have kq2 : 0 < K2 ∧ K2 ≤ 1 + 1048576 * 3 := by omega
 have kn2 : ¬ (K2 < 0) := by omega
 clear hKe
 rw [← HK2.out] at S3 S4
 have hL0 : v1.cell? ⟨w.heap.size, 13, none⟩ = some (.slice ca n cc) := W.cell rfl
 go_wp2_with fail
 refine (e9 ca n cc K2 v1 hn (by omega) (by omega) S3).mono ?_
 rintro e vq ⟨rfl, rfl⟩
 clear hL0 S3
 (try simp only [Int.mul_one])
 go_upto_region 8 with fail
 obtain ⟨K3, hKe⟩ : ∃ z : Int, K2 + (n : Int) = z := ⟨_, rfl⟩
 simp only [hKe]
 have HK3 : Hid (K3 = K2 + (n : Int)) := hKe.symm
 have kq3 : 0 < K3 ∧ K3 ≤ 1 + 1048576 * 4 := by omega
 have kn3 : ¬ (K3 < 0) := by omega
 clear hKe
 rw [← HK3.out] at S4
 have hL0 : v1.cell? ⟨w.heap.size, 14, none⟩ = some (.slice na n nk) := W.cell rfl
 go_wp2_with fail
 refine (i5 na n nk K3 v1 hn (by omega) (by omega) S4).mono ?_
 rintro e vq ⟨rfl, rfl⟩
 clear hL0 S4
 go_upto_region 11 with fail
 obtain ⟨K4, hKe⟩ : ∃ z : Int, K3 + 13 * (n : Int) = z := ⟨_, rfl⟩
 simp only [hKe]
 have HK4 : Hid (K4 = K3 + 13 * (n : Int)) := hKe.symm
 have kq4 : 0 < K4 ∧ K4 ≤ 1 + 1048576 * 17 := by omega
 have kn4 : ¬ (K4 < 0) := by omega
 clear hKe
 have hL0 : (loadCells ⟨w.heap.size, 15, none⟩ 2).run Tryz.prog v1 = .ok #[.int .i64 0, .slice none 0 0] v1 := W.loadAt (P := Tryz.prog) 15 2 (show 15 + 2 ≤ 18 by decide)
 go_wp2_with (rw [hL0])
 refine (jr 0 K4 v1 (by omega)).mono ?_
 rintro e v2 ⟨rfl, hb⟩
 clear hL0
 replace W := W.below hb
 replace B := B.trans (hb.mono B.size)
 clear hb
 go_upto_region 16 with fail
 have hL0 : v2.cell? ⟨w.heap.size, 17, none⟩ = some (.slice none 0 0) := W.cell rfl
 go_wp2_with fail
 refine (gV none 0 K4 v2).mono ?_
 rintro e vq ⟨rfl, rfl⟩
 clear hL0
 go_wp2_with fail
 go_ret
 have e5 : K4 = 1 + (y.m : Int) * 2 + (n : Int) * 15 := by have e1 := HK1.out; have e2 := HK2.out; have e3 := HK3.out; have e4 := HK4.out; omega
 exact ⟨by rw [← e5]; rfl, B⟩
end Go.Proofs.YtddijpjgkifngaaGreat
