/- Marks with what they leave: slots, a configuration, truths; looked up  -/
import Derived.Test.YtddijpjgkifngaaGreatMN39
import Derived.Test.YtddijpjgkifngaaGreatMN43
namespace Go.Proofs.YtddijpjgkifngaaGreat
open Go.RowKit
set_option linter.unusedVariables false
set_option maxRecDepth 100000
set_option maxHeartbeats 16000000
theorem dw (b off n c : Nat) (q0 : Int) (w : World) (hn : n ≤ 1048576) (hq : 0 < q0) (hq1 : q0 ≤ 1073741824) (h : Cs w b off n (bR q0)) :
 Calls Tryz.prog 70 #[.slice (some ⟨b, off, none⟩) n c, .int .i64 q0] w fun e w' => e = .returned (.int .i64 (q0 + (n : Int))) ∧ w = w' := by
 have HP : Hid (Cs w b off n (bR q0)) := h
 clear h
 go_enter Tryz.func70, Tryz.ntmps70
 go_wp2_with fail
 go_loopw [1, 5] (fun q i wr => ∃ (k : Nat) (Q : Int), k ≤ n ∧ i = .int .i64 k ∧ q = .int .i64 Q ∧ Q = q0 + (k : Int) ∧ w = wr) (fun _ i _ => n - (intOf i).toNat)
 case atStart => exact ⟨0, q0, Nat.zero_le _, rfl, rfl, by omega, by first | rfl | trivial⟩
 case round =>
  obtain ⟨k, Q, hk, rfl, rfl, hQ, rfl⟩ := hrel
  have HQ : Hid (Q = q0 + (k : Int)) := hQ
  by_cases hlt : k < n
  ·have hli : (k : Int) < (n : Int) := by omega
   have Q0 : 0 < Q := by omega
   have Q1 : Q ≤ 1073741824 + 1048576 := by omega
   have c0 : w.cell? ⟨b, off + k, none⟩ = some (.bool (Q % 3 == 0)) := by have q := HP.out.2 k hlt; rw [bR, ← hQ] at q; exact q
   have hbl := HP.out.1
   clear hQ
   go_wp2_with fail
   go_roundw
   case rel => exact ⟨k + 1, _, by omega, by go_num, rfl, by have := HQ.out; omega, by first | rfl | trivial⟩
   case measure => simp [intOf]; omega
  ·have hkn : k = n := by omega
   subst hkn
   have hli : ¬ (k : Int) < (k : Int) := by omega
   subst hQ
   go_wp2_with fail
   go_ret
   exact ⟨rfl, rfl⟩
theorem dx (a : Option Addr) (c : Nat) (q0 : Int) (w : World) :
 Calls Tryz.prog 70 #[.slice a 0 c, .int .i64 q0] w fun e w' => e = .returned (.int .i64 q0) ∧ w = w' := by
 go_enter Tryz.func70, Tryz.ntmps70
 go_wp2_with fail
 go_loopw [1, 5] (fun q i wr => i = .int .i64 0 ∧ q = .int .i64 q0 ∧ w = wr) (fun _ i _ => 0)
 case atStart => exact ⟨rfl, rfl, by first | rfl | trivial⟩
 case round =>
  obtain ⟨rfl, rfl, rfl⟩ := hrel
  go_wp2_with fail
  go_ret
  exact ⟨rfl, rfl⟩
theorem eb (a : Option Addr) (n c : Nat) (q0 : Int) (w : World) (hn : n ≤ 1048576) (hq : 0 < q0) (hq1 : q0 ≤ 1073741824) (h : ae w a (n * 1) (bR q0)) :
 Calls Tryz.prog 70 #[.slice a n c, .int .i64 q0] w fun e w' => e = .returned (.int .i64 (q0 + (n : Int) * 1)) ∧ w = w' := by
 rw [Nat.mul_one] at h
 rw [Int.mul_one]
 rcases h with h0 | ⟨b, off, rfl, hp⟩
 ·subst h0
  exact (dx a c q0 w).mono fun e w' ⟨h1, h2⟩ => ⟨by rw [h1]; simp, h2⟩
 ·exact dw b off n c q0 w hn hq hq1 hp
theorem ie (n c lo hi : Nat) (a : Option Addr) (F : Nat → Value) (q0 : Int) (w : World) (hn : n ≤ 1048576) (hq : 0 < q0) (hq1 : q0 ≤ 1073741824) (h : Rwo w lo hi 173 2 a n c F) :
 Calls Tryz.prog 117 #[.slice a n c, .int .i64 q0] w fun e w' => e = .returned (.int .i64 (q0 + (n : Int) * 2)) ∧ ae w' a (n * 2) (aQ q0) ∧ Btw lo hi w w' := by
 have hlt := fun g hg => h.lt (g := g) hg
 rcases h.1.2 with ⟨he, h0⟩ | ⟨g, cap, cur, he, _⟩
 ·simp at he
  obtain ⟨rfl, rfl, rfl⟩ := he
  exact (bQ none 0 q0 w).mono fun e w' ⟨h1, h2⟩ => ⟨by rw [h1]; simp, .inl (by omega), h2 ▸ Btw.ofBelow (Below.refl _ _)⟩
 ·simp at he
  obtain ⟨rfl, rfl⟩ := he
  have hg := hlt g rfl
  obtain ⟨h1, h2, _, h3⟩ := bD (aQ q0) h.1
  exact (cd g (c * 2) n c q0 w hn hq hq1 (by omega) h3).mono fun e w' ⟨r1, r2, r3⟩ => ⟨r1, .inr ⟨g, 0, rfl, r2.cs (by omega)⟩, ⟨r3.1, r3.2.1, r3.2.2.1, r3.2.2.2.1, fun i hi ho => r3.2.2.2.2 i hi (by omega)⟩⟩
theorem jd (s g : Int) (a : Option Addr) (n c lo hi : Nat) (F : Nat → Value) (q0 : Int) (w : World) (hn : n ≤ 1048576) (hq : 0 < q0) (hq1 : q0 ≤ 1073741824) (h : Rwo w lo hi 173 2 a n c F) :
 Calls Tryz.prog 65 #[.agg #[.int .i64 s, .int .i64 g, .slice a n c], .int .i64 q0] w fun e w' => e = .returned (.int .i64 (q0 + (n : Int) * 2)) ∧ ae w' a (n * 2) (aQ q0) ∧ Btw lo hi w w' := by
 have A0 := Below.nw w (.cells #[.int .i64 s, .int .i64 g, .slice a n c] 43)
 have C := ie n c lo hi a F q0 _ hn hq hq1 (h.below A0)
 clear h
 go_enter Tryz.func65, Tryz.ntmps65
 go_wp2_with fail
 refine C.mono ?_
 rintro e w1 ⟨rfl, hs, hg⟩
 have G := (Btw.ofBelow (lo := lo) (hi := hi) A0).trans hg
 go_wp2_with fail
 go_ret
 exact ⟨rfl, hs, G⟩
attribute [-go_sem] loadCells in
theorem jE (y : CfX) (p : Option Addr) (d : Nat) (q : Int) (l u : Nat) (w : World) (hm : y.m ≤ 1048576) (h : Rwo w l u 173 2 p y.m d (ak y.PM)) (hq : 0 < q) (hq1 : q ≤ 1048576) :
 Calls Tryz.prog 20 #[.agg (cfV y p d), .int .i64 q] w fun e w' => e = .returned (.int .i64 (q + (y.m : Int) * 2)) ∧ ae w' p (y.m * 2) (aQ q) ∧ Btw l u w w' := by
 have B := Below.nw w (.cells (cfV y p d) 45)
 have N := Bo.new w (cfV y p d) 45
 have p1 := h.below B
 clear h
 have T0 : Btw l u w _ := Btw.ofBelow B
 go_enter Tryz.func20, Tryz.ntmps20
 go_upto_region 1 with fail
 generalize w.alloc (.cells (cfV y p d) 45) = v at *
 have hL : (loadCells ⟨w.heap.size, 8, none⟩ 3).run Tryz.prog v = .ok #[.int .i64 y.s, .int .i64 y.g, .slice p y.m d] v := N.loadAt (P := Tryz.prog) 8 3 (show 8 + 3 ≤ 11 by decide)
 go_wp2_with (rw [hL])
 refine (jd y.s y.g p y.m d l u _ q v hm hq (by omega) p1).mono ?_
 rintro e v1 ⟨rfl, hs, g1⟩
 clear hL p1
 replace T0 := T0.trans g1
 clear g1 B N
 go_wp2_with fail
 go_ret
 exact ⟨rfl, hs, T0⟩
attribute [-go_sem] loadCells in
theorem jq (y : CfX) (p : Option Addr) (d : Nat) (w : World) (hm : y.m ≤ 1048576) (h : ae w p (y.m * 2) (aQ 1)) :
 Calls Tryz.prog 69 #[.agg (cfV y p d), .int .i64 1] w fun e w' => e = .returned (.int .i64 (1 + (y.m : Int) * 2)) ∧ Below w.heap.size w w' := by
 have B := Below.nw w (.cells (cfV y p d) 45)
 have N := Bo.new w (cfV y p d) 45
 have p1 := h.below B
 clear h
 have hk : ¬ (1 + (y.m : Int) * 2 < 0) := by omega
 go_enter Tryz.func69, Tryz.ntmps69
 go_upto_region 1 with fail
 generalize w.alloc (.cells (cfV y p d) 45) = v at *
 have hL : (loadCells ⟨w.heap.size, 8, none⟩ 3).run Tryz.prog v = .ok #[.int .i64 y.s, .int .i64 y.g, .slice p y.m d] v := N.loadAt (P := Tryz.prog) 8 3 (show 8 + 3 ≤ 11 by decide)
 go_wp2_with (rw [hL])
 refine (fd y.s y.g p y.m d v hm p1).mono ?_
 rintro e v1 ⟨rfl, hb⟩
 clear hL p1 N
 replace B := B.trans (hb.mono B.size)
 clear hb
 go_wp2_with fail
 go_ret
 exact ⟨rfl, B⟩
theorem gc (a : Option Addr) (c : Nat) (q0 : Int) (w : World) :
 Calls Tryz.prog 127 #[.slice a 0 c, .int .i64 q0] w fun e w' => e = .returned (.int .i64 q0) ∧ w = w' := by
 go_enter Tryz.func127, Tryz.ntmps127
 go_wp2_with fail
 go_loopw [1, 5] (fun q i wr => i = .int .i64 0 ∧ q = .int .i64 q0 ∧ w = wr) (fun _ i _ => 0)
 case atStart => exact ⟨rfl, rfl, by first | rfl | trivial⟩
 case round =>
  obtain ⟨rfl, rfl, rfl⟩ := hrel
  go_wp2_with fail
  go_ret
  exact ⟨rfl, rfl⟩
theorem gV (a : Option Addr) (c : Nat) (q0 : Int) (w : World) :
 Calls Tryz.prog 73 #[.slice a 0 c, .int .i64 q0] w fun e w' => e = .returned (.int .i64 q0) ∧ w = w' := by
 go_enter Tryz.func73, Tryz.ntmps73
 go_wp2_with fail
 go_loopw [1, 5] (fun q i wr => i = .int .i64 0 ∧ q = .int .i64 q0 ∧ w = wr) (fun _ i _ => 0)
 case atStart => exact ⟨rfl, rfl, by first | rfl | trivial⟩
 case round =>
  obtain ⟨rfl, rfl, rfl⟩ := hrel
  go_wp2_with fail
  go_ret
  exact ⟨rfl, rfl⟩
theorem dI (a : Option Addr) (c : Nat) (q0 : Int) (w : World) :
 Calls Tryz.prog 66 #[.slice a 0 c, .int .i64 q0] w fun e w' => e = .returned (.int .i64 q0) ∧ w = w' := by
 go_enter Tryz.func66, Tryz.ntmps66
 go_wp2_with fail
 go_loopw [1, 5] (fun q i wr => i = .int .i64 0 ∧ q = .int .i64 q0 ∧ w = wr) (fun _ i _ => 0)
 case atStart => exact ⟨rfl, rfl, by first | rfl | trivial⟩
 case round =>
  obtain ⟨rfl, rfl, rfl⟩ := hrel
  go_wp2_with fail
  go_ret
  exact ⟨rfl, rfl⟩
theorem jr (nx : Int) (q0 : Int) (w : World) (hq : 0 < q0) :
 Calls Tryz.prog 72 #[.agg #[.int .i64 nx, .slice none 0 0], .int .i64 q0] w fun e w' => e = .returned (.int .i64 q0) ∧ Below w.heap.size w w' := by
 have A0 := Below.nw w (.cells #[.int .i64 nx, .slice none 0 0] 49)
 have C := gc none 0 q0 (w.alloc (.cells #[.int .i64 nx, .slice none 0 0] 49))
 have hk : ¬ (q0 < 0) := by omega
 go_enter Tryz.func72, Tryz.ntmps72
 go_wp2_with fail
 refine C.mono ?_
 rintro e w1 ⟨rfl, rfl⟩
 go_wp2_with fail
 go_ret
 exact ⟨rfl, A0⟩
theorem ae.btwO {w w' : World} {a : Option Addr} {N n c l u lo hi : Nat} {F : Nat → Value} (h : ae w a N F) (hr : ∀ g, (Value.slice a n c).ownBlock = some g → lo ≤ g ∧ g < hi) (hb : Btw l u w w') (ho : hi ≤ l ∨ u ≤ lo) : ae w' a N F := by
 rcases h with h | ⟨b, off, rfl, h1, h2⟩
 ·exact .inl h
 ·have q := hr b rfl
  exact .inr ⟨b, off, rfl, Nat.lt_of_lt_of_le h1 hb.2.2.2.1, fun j hj => (hb.cell h1 (by omega)).trans (h2 j hj)⟩
theorem ib (n c lo hi : Nat) (a : Option Addr) (q0 : Int) (w : World) (hn : n ≤ 1048576) (hq : 0 < q0) (hq1 : q0 ≤ 16777216) (h : Rwo w lo hi 98 16 a n c nzF) :
 Calls Tryz.prog 66 #[.slice a n c, .int .i64 q0] w fun e w' => e = .returned (.int .i64 (q0 + 13 * (n : Int))) ∧ ae w' a (n * 16) (dL q0) ∧ Btw lo hi w w' := by
 by_cases h0 : n = 0
 ·subst h0
  exact (dI a c q0 w).mono fun e w' ⟨h1, h2⟩ => ⟨by rw [h1]; simp, .inl (by omega), h2 ▸ Btw.ofBelow (Below.refl _ _)⟩
 ·obtain ⟨g, cur, rfl, G, hs, h1, h2, hc⟩ := h.box h0
  exact (jb g n c q0 w hn hq hq1 (NzB.start q0 G hs hc)).mono fun e w' ⟨r1, r2, r3⟩ => ⟨r1, r2.src, r3.wide h1 h2⟩
def NwM (w : World) (A : Array Value) (y : CfX) (n : Nat) : Prop := ∃ p d la lc ca cc na nk, A = #[.int .i64 y.dn, .int .i64 y.dd, .int .i64 y.li, .int .i64 y.le, .int .i64 y.pt, .int .i64 y.ag, .int .i64 y.ke, .int .i64 y.lg, .int .i64 y.s, .int .i64 y.g, .slice p y.m d, .slice la n lc, .int .i64 0, .slice ca n cc, .slice na n nk, .int .i64 0, .slice none 0 0, .slice none 0 0] ∧ y.m ≤ 1048576 ∧ n ≤ 1048576 ∧ ae w p (y.m * 2) (aQ 1) ∧ ae w la (n * 1) (bR (1 + (y.m : Int) * 2)) ∧ ae w ca (n * 1) (bS (1 + (y.m : Int) * 2 + (n : Int))) ∧ ae w na (n * 16) (dL (1 + (y.m : Int) * 2 + (n : Int) + (n : Int)))
theorem NwM.below {w w' : World} {A : Array Value} {y : CfX} {n : Nat} (h : NwM w A y n) (hb : Below w.heap.size w w') : NwM w' A y n := by
 obtain ⟨p, d, la, lc, ca, cc, na, nk, e, hm, hn, h1, h2, h3, h4⟩ := h
 exact ⟨p, d, la, lc, ca, cc, na, nk, e, hm, hn, h1.below hb, h2.below hb, h3.below hb, h4.below hb⟩
attribute [-go_sem] loadCells storeCells in
theorem ig (A : Array Value) (y : CfX) (n : Nat) (LB : Nat → Bool) (lo hi : Nat) (w : World) (h : NwO w lo hi A y n LB) :
 Calls Tryz.prog 22 #[.agg A, .int .i64 1] w fun e w' => e = .returned (.int .i64 (1 + (y.m : Int) * 2 + (n : Int) * 15)) ∧ NwM w' A y n ∧ Btw lo hi w w' := by
 obtain ⟨p, d, la, lc, ca, cc, na, nk, l1, l2, l3, rfl, hm, hn, ⟨q1, q2, q3, q4, q5⟩, P1, P2, P3, P4⟩ := h
 have R1 : ∀ g, (Value.slice p y.m d).ownBlock = some g → lo ≤ g ∧ g < l1 := fun g hg => ⟨(P1.lt hg).1, (P1.lt hg).2.1⟩
 have R2 : ∀ g, (Value.slice la n lc).ownBlock = some g → l1 ≤ g ∧ g < l2 := fun g hg => ⟨(P2.lt hg).1, (P2.lt hg).2.1⟩
 have R3 : ∀ g, (Value.slice ca n cc).ownBlock = some g → l2 ≤ g ∧ g < l3 := fun g hg => ⟨(P3.lt hg).1, (P3.lt hg).2.1⟩
 have R4 : ∀ g, (Value.slice na n nk).ownBlock = some g → l3 ≤ g ∧ g < hi := fun g hg => ⟨(P4.lt hg).1, (P4.lt hg).2.1⟩
 have B := Below.nw w (.cells #[.int .i64 y.dn, .int .i64 y.dd, .int .i64 y.li, .int .i64 y.le, .int .i64 y.pt, .int .i64 y.ag, .int .i64 y.ke, .int .i64 y.lg, .int .i64 y.s, .int .i64 y.g, .slice p y.m d, .slice la n lc, .int .i64 0, .slice ca n cc, .slice na n nk, .int .i64 0, .slice none 0 0, .slice none 0 0] 52)
 have W := Bo.new w #[.int .i64 y.dn, .int .i64 y.dd, .int .i64 y.li, .int .i64 y.le, .int .i64 y.pt, .int .i64 y.ag, .int .i64 y.ke, .int .i64 y.lg, .int .i64 y.s, .int .i64 y.g, .slice p y.m d, .slice la n lc, .int .i64 0, .slice ca n cc, .slice na n nk, .int .i64 0, .slice none 0 0, .slice none 0 0] 52
 replace P1 := P1.below B
 replace P2 := P2.below B
 replace P3 := P3.below B
 replace P4 := P4.below B
 have T0 : Btw lo hi w _ := Btw.ofBelow B
 clear B
 go_enter Tryz.func22, Tryz.ntmps22
 go_upto_region 1 with fail
 generalize w.alloc (.cells #[.int .i64 y.dn, .int .i64 y.dd, .int .i64 y.li, .int .i64 y.le, .int .i64 y.pt, .int .i64 y.ag, .int .i64 y.ke, .int .i64 y.lg, .int .i64 y.s, .int .i64 y.g, .slice p y.m d, .slice la n lc, .int .i64 0, .slice ca n cc, .slice na n nk, .int .i64 0, .slice none 0 0, .slice none 0 0] 52) = v0 at *
 have hL0 : (loadCells ⟨w.heap.size, 0, none⟩ 11).run Tryz.prog v0 = .ok (cfV y p d) v0 := W.loadAt (P := Tryz.prog) 0 11 (show 0 + 11 ≤ 18 by decide)
 go_wp2_with (rw [hL0])
 refine (jE y p d 1 lo l1 v0 hm P1 (by decide) (by decide)).mono ?_
 rintro e v1 ⟨rfl, S1, hb⟩
 clear hL0 P1
 replace W := W.btw hb (by omega)
 replace P2 := P2.btw hb (by omega)
 replace P3 := P3.btw hb (by omega)
 replace P4 := P4.btw hb (by omega)
 replace T0 := T0.trans (hb.wide (by omega) (by omega))
 clear hb
 go_upto_region 2 with fail
 obtain ⟨K1, hKe⟩ : ∃ z : Int, 1 + (y.m : Int) * 2 = z := ⟨_, rfl⟩
 simp only [hKe]
 have HK1 : Hid (K1 = 1 + (y.m : Int) * 2) := hKe.symm
 have kq1 : 0 < K1 ∧ K1 ≤ 1 + 1048576 * 2 := by omega
 clear hKe
 have hL0 : v1.cell? ⟨w.heap.size, 11, none⟩ = some (.slice la n lc) := W.cell rfl
 go_wp2_with fail
 refine (dG n lc l1 l2 la _ K1 v1 hn (by omega) (by omega) P2).mono ?_
 rintro e v2 ⟨rfl, S2, hb⟩
 clear hL0 P2
 replace W := W.btw hb (by omega)
 replace P3 := P3.btw hb (by omega)
 replace P4 := P4.btw hb (by omega)
 replace S1 := S1.btwO R1 hb (by omega)
 replace T0 := T0.trans (hb.wide (by omega) (by omega))
 clear hb
 go_upto_region 3 with fail
 obtain ⟨K2, hKe⟩ : ∃ z : Int, K1 + (n : Int) = z := ⟨_, rfl⟩
 simp only [hKe]
 have HK2 : Hid (K2 = K1 + (n : Int)) := hKe.symm
 have kq2 : 0 < K2 ∧ K2 ≤ 1 + 1048576 * 3 := by omega
 clear hKe
 have hL0 : v2.cell? ⟨w.heap.size, 13, none⟩ = some (.slice ca n cc) := W.cell rfl
 go_wp2_with fail
 refine (i9 n cc l2 l3 ca _ K2 v2 hn (by omega) (by omega) P3).mono ?_
 rintro e v3 ⟨rfl, S3, hb⟩
 clear hL0 P3
 replace W := W.btw hb (by omega)
 replace P4 := P4.btw hb (by omega)
 replace S1 := S1.btwO R1 hb (by omega)
 replace S2 := S2.btwO R2 hb (by omega)
 replace T0 := T0.trans (hb.wide (by omega) (by omega))
 clear hb
 go_upto_region 4 with fail
 obtain ⟨K3, hKe⟩ : ∃ z : Int, K2 + (n : Int) = z := ⟨_, rfl⟩
 simp only [hKe]
 have HK3 : Hid (K3 = K2 + (n : Int)) := hKe.symm
 have kq3 : 0 < K3 ∧ K3 ≤ 1 + 1048576 * 4 := by omega
 clear hKe
 have hL0 : v3.cell? ⟨w.heap.size, 14, none⟩ = some (.slice na n nk) := W.cell rfl
 go_wp2_with fail
 refine (ib n nk l3 hi na K3 v3 hn (by omega) (by omega) P4).mono ?_
 rintro e v4 ⟨rfl, S4, hb⟩
 clear hL0 P4
 replace W := W.btw hb (by omega)
 replace S1 := S1.btwO R1 hb (by omega)
 replace S2 := S2.btwO R2 hb (by omega)
 replace S3 := S3.btwO R3 hb (by omega)
 replace T0 := T0.trans (hb.wide (by omega) (by omega))
 clear hb
 go_upto_region 5 with fail
 obtain ⟨K4, hKe⟩ : ∃ z : Int, K3 + 13 * (n : Int) = z := ⟨_, rfl⟩
 simp only [hKe]
 have HK4 : Hid (K4 = K3 + 13 * (n : Int)) := hKe.symm
 have kq4 : 0 < K4 ∧ K4 ≤ 1 + 1048576 * 17 := by omega
 clear hKe
 have hL0 : (loadCells ⟨w.heap.size, 15, none⟩ 2).run Tryz.prog v4 = .ok #[.int .i64 0, .slice none 0 0] v4 := W.loadAt (P := Tryz.prog) 15 2 (show 15 + 2 ≤ 18 by decide)
 go_wp2_with (rw [hL0])
 refine (ja 0 0 0 lo lo none (fun _ => .bool false) K4 v4 (by decide) (by omega) (by omega) (bE _ _ _ _ _ _)).mono ?_
 rintro e v5 ⟨rfl, -, hb⟩
 clear hL0
 have hz0 : K4 + ((0 : Nat) : Int) * 5 = K4 := by omega
 (try simp only [hz0])
 replace W := W.btw hb (by omega)
 replace S1 := S1.btwO R1 hb (by omega)
 replace S2 := S2.btwO R2 hb (by omega)
 replace S3 := S3.btwO R3 hb (by omega)
 replace S4 := S4.btwO R4 hb (by omega)
 replace T0 := T0.trans (hb.wide (by omega) (by omega))
 clear hb
 go_upto_region 6 with fail
 have hL0 : v5.cell? ⟨w.heap.size, 17, none⟩ = some (.slice none 0 0) := W.cell rfl
 go_wp2_with fail
 refine (gm 0 0 lo lo none (fun _ => .bool false) K4 v5 (by decide) (by omega) (by omega) (bE _ _ _ _ _ _)).mono ?_
 rintro e v6 ⟨rfl, -, hb⟩
 clear hL0
 have hz1 : K4 + ((0 : Nat) : Int) * 6 = K4 := by omega
 (try simp only [hz1])
 replace W := W.btw hb (by omega)
 replace S1 := S1.btwO R1 hb (by omega)
 replace S2 := S2.btwO R2 hb (by omega)
 replace S3 := S3.btwO R3 hb (by omega)
 replace S4 := S4.btwO R4 hb (by omega)
 replace T0 := T0.trans (hb.wide (by omega) (by omega))
 clear hb
 go_upto_region 7 with fail
 go_wp2_with fail
 go_ret
 have e1 : K1 = 1 + (y.m : Int) * 2 := HK1.out
 have e2 : K2 = 1 + (y.m : Int) * 2 + (n : Int) := by have q := HK2.out; omega
 have e3 : K3 = 1 + (y.m : Int) * 2 + (n : Int) + (n : Int) := by have q := HK3.out; omega
 have e5 : K4 = 1 + (y.m : Int) * 2 + (n : Int) * 15 := by have q := HK4.out; omega
 exact ⟨by rw [← e5]; rfl, ⟨p, d, la, lc, ca, cc, na, nk, rfl, hm, hn, S1, by rw [← e1]; exact S2, by rw [← e2]; exact S3, by rw [← e3]; exact S4⟩, T0⟩
end Go.Proofs.YtddijpjgkifngaaGreat
