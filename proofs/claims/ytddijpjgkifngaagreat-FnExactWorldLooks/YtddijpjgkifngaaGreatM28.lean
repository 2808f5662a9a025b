/- A world of one's own: how great it is, how it is made, how it is marked. -/
import Derived.Test.YtddijpjgkifngaaGreatM27
namespace Go.Proofs.YtddijpjgkifngaaGreat
open Go.RowKit
set_option linter.unusedVariables false
set_option maxHeartbeats 2000000 in
theorem szTableQ (ep us : Int) (a : Option Addr) (n c : Nat) (Z : Int) (w : World) (hm : n ≤ maxLen) (h0 : 0 ≤ Z) (h1 : Z ≤ 1048576) :
 Calls Tryz.prog 133 #[.agg #[.int .i64 ep, .int .i64 us, .slice a n c], .int .i64 Z] w fun e w' => ∃ L : Int, e = .returned (.int .i64 L) ∧ (0 ≤ L → L + (n : Int) ≤ Z) ∧ Below w.heap.size w w' := by
 have A0 := Below.nw w (.cells #[.int .i64 ep, .int .i64 us, .slice a n c] 137)
 by_cases h : (n : Int) ≤ Z
 ·have hneg : ¬ (Z - (n : Int) < 0) := by omega
  go_enter Tryz.func133, Tryz.ntmps133
  go_wp2_with fail
  refine (szAskS_any _ _ _ _ _ hm h0 h1).mono ?_
  rintro e w1 ⟨rfl, rfl⟩
  rw [if_pos h]
  go_wp2_with fail
  go_ret
  exact ⟨_, rfl, fun _ => by omega, A0⟩
 ·go_enter Tryz.func133, Tryz.ntmps133
  go_wp2_with fail
  refine (szAskS_any _ _ _ _ _ hm h0 h1).mono ?_
  rintro e w1 ⟨rfl, rfl⟩
  rw [if_neg (Int.not_le.2 h)]
  go_wp2_with fail
  go_ret
  exact ⟨_, rfl, fun h => absurd h (by decide), A0⟩
theorem szPeerQ (a : Option Addr) (n c : Nat) (Z : Int) (w : World) (hm : n ≤ maxLen) (h0 : 0 ≤ Z) (h1 : Z ≤ 1048576) :
 Calls Tryz.prog 134 #[.slice a n c, .int .i64 Z] w fun e w' => ∃ L : Int, e = .returned (.int .i64 L) ∧ (0 ≤ L → L + (n : Int) ≤ Z) ∧ Below w.heap.size w w' := by
 refine (szPeerS_any a n c Z w hm h0 h1).mono ?_
 rintro e w' ⟨rfl, rfl⟩
 refine ⟨_, rfl, fun h => ?_, Below.refl _ _⟩
 split at h
 ·rename_i hq; rw [if_pos hq]; omega
 ·omega
theorem szHeardQ (a : Option Addr) (n c : Nat) (Z : Int) (w : World) (hm : n ≤ maxLen) (h0 : 0 ≤ Z) (h1 : Z ≤ 1048576) :
 Calls Tryz.prog 135 #[.slice a n c, .int .i64 Z] w fun e w' => ∃ L : Int, e = .returned (.int .i64 L) ∧ (0 ≤ L → L + (n : Int) ≤ Z) ∧ Below w.heap.size w w' := by
 refine (szHeardS_any a n c Z w hm h0 h1).mono ?_
 rintro e w' ⟨rfl, rfl⟩
 refine ⟨_, rfl, fun h => ?_, Below.refl _ _⟩
 split at h
 ·rename_i hq; rw [if_pos hq]; omega
 ·omega
set_option maxRecDepth 100000 in
set_option maxHeartbeats 8000000 in
theorem szNodeQ (ni mo ep si : Int) (kn : Bool) (lo hi la te us : Int) (aa : Option Addr) (na ac : Nat) (AM : Nat → KT) (pa : Option Addr) (np pc : Nat) (QM : Nat → PT) (hs : Bool) (ls : Int) (ha : Option Addr) (nh hc : Nat) (HM : Nat → VT) (se : Int) (Z : Int) (w : World) (hna : na ≤ maxLen) (hnp : np ≤ maxLen) (hnh : nh ≤ maxLen) (h0 : 0 ≤ Z) (h1 : Z ≤ 1048576) :
 Calls Tryz.prog 79 #[.agg #[.int .i64 ni, .int .i64 mo, .int .i64 ep, .int .i64 si, .bool kn, .int .i64 lo, .int .i64 hi, .int .i64 la, .int .i64 te, .int .i64 us, .slice aa na ac, .slice pa np pc, .bool hs, .int .i64 ls, .slice ha nh hc, .int .i64 se], .int .i64 Z] w fun e w' => ∃ L : Int, e = .returned (.int .i64 L) ∧ (0 ≤ L → L + (na : Int) + (np : Int) + (nh : Int) ≤ Z) ∧ Below w.heap.size w w' := by
 have B := Below.nw w (.cells #[.int .i64 ni, .int .i64 mo, .int .i64 ep, .int .i64 si, .bool kn, .int .i64 lo, .int .i64 hi, .int .i64 la, .int .i64 te, .int .i64 us, .slice aa na ac, .slice pa np pc, .bool hs, .int .i64 ls, .slice ha nh hc, .int .i64 se] 142)
 have N := Nx16.new w (.int .i64 ni) (.int .i64 mo) (.int .i64 ep) (.int .i64 si) (.bool kn) (.int .i64 lo) (.int .i64 hi) (.int .i64 la) (.int .i64 te) (.int .i64 us) (.slice aa na ac) (.slice pa np pc) (.bool hs) (.int .i64 ls) (.slice ha nh hc) (.int .i64 se) 142
 have C1 := fun w' => szTableQ te us aa na ac Z w' hna h0 h1
 have C2 := fun (Z : Int) (h0 : 0 ≤ Z) (h1 : Z ≤ 1048576) w' => szPeerQ pa np pc Z w' hnp h0 h1
 have C3 := fun (Z : Int) (h0 : 0 ≤ Z) (h1 : Z ≤ 1048576) w' => szHeardQ ha nh hc Z w' hnh h0 h1
 have HZ : Hid (Z ≤ 1048576) := h1
 clear hna hnp hnh h0 h1
 go_enter Tryz.func79, Tryz.ntmps79
 go_upto_region 1 with fail
 generalize w.alloc (.cells #[.int .i64 ni, .int .i64 mo, .int .i64 ep, .int .i64 si, .bool kn, .int .i64 lo, .int .i64 hi, .int .i64 la, .int .i64 te, .int .i64 us, .slice aa na ac, .slice pa np pc, .bool hs, .int .i64 ls, .slice ha nh hc, .int .i64 se] 142) = v at *
 obtain ⟨n0, n1, n2, n3, n4, n5, n6, n7, n8, n9, n10, n11, n12, n13, n14, n15, n16, m0, m1, m2, m3, m4, m5, m6, m7, m8, m9, m10, m11, m12, m13, m14, m15⟩ := id N
 go_wp2_with fail
 refine (C1 _).mono ?_
 rintro e v1 ⟨L1, rfl, hL, hb⟩
 clear n0 n1 n2 n3 n4 n5 n6 n7 n8 n9 n10 n11 n12 n13 n14 n15 n16 m0 m1 m2 m3 m4 m5 m6 m7 m8 m9 m10 m11 m12 m13 m14 m15
 replace B := B.trans (hb.mono B.size)
 replace N := N.below hb
 clear hb C1
 by_cases z1 : L1 < 0
 ·clear hL
  go_wp2_with fail
  go_ret
  exact ⟨-1, rfl, fun h => absurd h (by decide), B⟩
 have F1 : Hid (L1 + (na : Int) ≤ Z) := hL (by omega)
 clear hL
 obtain ⟨n0, n1, n2, n3, n4, n5, n6, n7, n8, n9, n10, n11, n12, n13, n14, n15, n16, m0, m1, m2, m3, m4, m5, m6, m7, m8, m9, m10, m11, m12, m13, m14, m15⟩ := id N
 go_wp2_with fail
 refine (C2 _ (by omega) (by have := F1.out; have := HZ.out; omega) _).mono ?_
 rintro e v2 ⟨L2, rfl, hL, hb⟩
 clear n0 n1 n2 n3 n4 n5 n6 n7 n8 n9 n10 n11 n12 n13 n14 n15 n16 m0 m1 m2 m3 m4 m5 m6 m7 m8 m9 m10 m11 m12 m13 m14 m15
 replace B := B.trans (hb.mono B.size)
 replace N := N.below hb
 clear hb C2
 by_cases z2 : L2 < 0
 ·clear hL
  go_wp2_with fail
  go_ret
  exact ⟨-1, rfl, fun h => absurd h (by decide), B⟩
 have F2 : Hid (L2 + (np : Int) ≤ L1) := hL (by omega)
 clear hL
 obtain ⟨n0, n1, n2, n3, n4, n5, n6, n7, n8, n9, n10, n11, n12, n13, n14, n15, n16, m0, m1, m2, m3, m4, m5, m6, m7, m8, m9, m10, m11, m12, m13, m14, m15⟩ := id N
 go_wp2_with fail
 refine (C3 _ (by omega) (by have := F1.out; have := F2.out; have := HZ.out; omega) _).mono ?_
 rintro e v3 ⟨L3, rfl, hL, hb⟩
 clear n0 n1 n2 n3 n4 n5 n6 n7 n8 n9 n10 n11 n12 n13 n14 n15 n16 m0 m1 m2 m3 m4 m5 m6 m7 m8 m9 m10 m11 m12 m13 m14 m15
 replace B := B.trans (hb.mono B.size)
 replace N := N.below hb
 clear hb C3
 by_cases z3 : L3 < 0
 ·clear hL
  go_wp2_with fail
  go_ret
  exact ⟨-1, rfl, fun h => absurd h (by decide), B⟩
 have F3 : Hid (L3 + (nh : Int) ≤ L2) := hL (by omega)
 clear hL
 clear N
 go_wp2_with fail
 go_ret
 exact ⟨L3, rfl, fun _ => by have := F1.out; have := F2.out; have := F3.out; omega, B⟩
def smN (XM : Nat → NdX) : Nat → Nat
 | 0 => 0
 | k + 1 => smN XM k + ((XM k).na + (XM k).np + (XM k).nh)
theorem smN_le (XM : Nat → NdX) {k : Nat} : ∀ {n : Nat}, k ≤ n → smN XM k ≤ smN XM n
 | 0, h => by rw [Nat.le_zero.1 h]; exact Nat.le_refl _
 | n + 1, h => by
  rcases Nat.lt_succ_iff_lt_or_eq.1 (Nat.lt_succ_of_le h) with q | q
  ·exact Nat.le_trans (smN_le XM (Nat.le_of_lt_succ q)) (Nat.le_add_right _ _)
  ·rw [q]; exact Nat.le_refl _
theorem szNodeWQ (A : Array Value) (x : NdX) (Z : Int) (w : World) (h : NdW w A x) (h0 : 0 ≤ Z) (h1 : Z ≤ 1048576) :
 Calls Tryz.prog 79 #[.agg A, .int .i64 Z] w fun e w' => ∃ L : Int, e = .returned (.int .i64 L) ∧ (0 ≤ L → L + ((x.na + x.np + x.nh : Nat) : Int) ≤ Z) ∧ Below w.heap.size w w' := by
 obtain ⟨aa, ac, pa, pc, ha, hc, rfl, hl, r1, r2, r3⟩ := h
 refine (szNodeQ x.ni x.mo x.ep x.si x.kn x.lo x.hi x.la x.te x.us aa x.na ac x.AM pa x.np pc x.QM x.hs x.ls ha x.nh hc x.HM x.se Z w hl.1 hl.2.1 hl.2.2 h0 h1).mono ?_
 rintro e w' ⟨L, rfl, hL, hB⟩
 exact ⟨L, rfl, fun h => by have := hL h; omega, hB⟩
attribute [-go_sem] loadCells storeCells in
set_option maxRecDepth 100000 in
set_option maxHeartbeats 8000000 in
theorem szNodeU_some (b off n c : Nat) (XM : Nat → NdX) (AM : Nat → Array Value) (z0 : Int) (hz0 : 0 ≤ z0 ∧ z0 ≤ 1048576) (w : World) (hn : (n : Int) ≤ z0) (hc : CsN w b off n AM) (hq : ∀ i, i < n → NdW w (AM i) (XM i)) :
 Calls Tryz.prog 38 #[.slice (some ⟨b, off, none⟩) n c, .int .i64 z0] w fun e w' => ∃ L : Int, e = .returned (.int .i64 L) ∧ (0 ≤ L → L + (n : Int) + (smN XM n : Int) ≤ z0) ∧ Below w.heap.size w w' := by
 have hd : decide (z0 - (n : Int) < 0) = false := by simp; omega
 have HC : Hid (CsN w b off n AM) := hc
 have HQ : Hid (∀ i, i < n → NdW w (AM i) (XM i)) := hq
 clear hc hq
 go_enter Tryz.func38, Tryz.ntmps38
 go_wp2_with fail
 go_loopw [1, 5] (fun l i wr => ∃ (k : Nat) (Z : Int), k ≤ n ∧ i = .int .i64 k ∧ l = .int .i64 Z ∧ 0 ≤ Z ∧ Z + (n : Int) + (smN XM k : Int) ≤ z0 ∧ Below w.heap.size w wr) (fun _ i _ => n - (intOf i).toNat)
 case atStart => exact ⟨0, z0 - (n : Int), Nat.zero_le _, rfl, rfl, by omega, by show _ + ((0 : Nat) : Int) ≤ _; omega, Below.refl _ _⟩
 case round =>
  obtain ⟨k, Z, hk, rfl, rfl, Z0, Z1, B⟩ := hrel
  have HS : Hid (Z + (n : Int) + (smN XM k : Int) ≤ z0) := Z1
  clear hd
  by_cases hlt : k < n
  ·have hx := HQ.out k hlt
   have hxs := hx.size
   have hL := (HC.out.below B).load (P := Tryz.prog) hlt hxs
   have hli : (k : Int) < (n : Int) := by omega
   have CZ := szNodeWQ (AM k) (XM k) Z wr (hx.below B) Z0 (by omega)
   generalize AM k = Ak at *
   clear hx
   go_wp2_with (rw [hL])
   refine CZ.mono ?_
   rintro e w2 ⟨L, rfl, hLs, hb⟩
   clear hL CZ
   replace B := B.trans (hb.mono B.size)
   clear hb
   by_cases hneg : L < 0
   ·have hdl : decide (L < 0) = true := by simp [hneg]
    clear hLs
    go_wp2_with fail
    go_ret
    exact ⟨-1, rfl, fun h => absurd h (by decide), B⟩
   ·have hdl : decide (L < 0) = false := by simp; omega
    have l1 := hLs (by omega)
    have HN : Hid (L + (n : Int) + (smN XM (k + 1) : Int) ≤ z0) := by (show L + (n : Int) + ((smN XM k + ((XM k).na + (XM k).np + (XM k).nh) : Nat) : Int) ≤ z0; have := HS.out; omega)
    clear l1 HS hLs Z1
    go_wp2_with fail
    go_roundw
    case rel => exact ⟨k + 1, L, by omega, by go_num, rfl, by omega, HN.out, B⟩
    case measure => simp [intOf]; omega
  ·have hkn : k = n := by omega
   subst hkn
   have hli : ¬ (k : Int) < (k : Int) := by omega
   go_wp2_with fail
   go_ret
   exact ⟨Z, rfl, fun _ => HS.out, B⟩
theorem szNodeU_any (a : Option Addr) (n c : Nat) (XM : Nat → NdX) (z0 : Int) (hz0 : 0 ≤ z0 ∧ z0 ≤ 1048576) (w : World) (hm : n ≤ maxLen) (h : RwN NdW w a n XM) :
 Calls Tryz.prog 38 #[.slice a n c, .int .i64 z0] w fun e w' => ∃ L : Int, e = .returned (.int .i64 L) ∧ (0 ≤ L → L + (n : Int) + (smN XM n : Int) ≤ z0) ∧ Below w.heap.size w w' := by
 by_cases hl : z0 < (n : Int)
 ·exact (szNodeN_long a n c z0 hz0 w hm hl).mono fun e w' ⟨h1, h2⟩ => ⟨-1, h1, fun h => absurd h (by decide), h2⟩
 ·rcases h with rfl | ⟨b, off, AM, rfl, hc, hq⟩
  ·exact (szNodeN_zero a c z0 hz0 w).mono fun e w' ⟨h1, h2⟩ => ⟨z0, h1, fun _ => by show z0 + ((0 : Nat) : Int) + ((0 : Nat) : Int) ≤ z0; omega, h2⟩
  ·exact (szNodeU_some b off n c XM AM z0 hz0 w (by omega) hc hq).mono fun e w' ⟨L, h1, h2, h3⟩ => ⟨L, h1, h2, h3⟩
def shU (x : WdX) : Prop := shW x ∧ smN x.XM x.nn ≤ 1048576
theorem smN_sh {XM : Nat → NdX} {n : Nat} (h : smN XM n ≤ 1048576) : ∀ i, i < n → shX (XM i) := fun i hi => by
 have q := smN_le XM (show i + 1 ≤ n from hi)
 have r : smN XM (i + 1) = smN XM i + ((XM i).na + (XM i).np + (XM i).nh) := rfl
 unfold shX
 omega
attribute [-go_sem] loadCells storeCells in
set_option maxRecDepth 100000 in
set_option maxHeartbeats 8000000 in
theorem szWorldU (A : Array Value) (x : WdX) (w : World) (h : WdW w A x) (ht : txW x) :
 Calls Tryz.prog 8 #[.agg A, .int .i64 1048576] w fun e w' => ∃ L : Int, e = .returned (.int .i64 L) ∧ (0 ≤ L → shU x) ∧ Below w.heap.size w w' := by
 obtain ⟨p, d, la, lc, ca, cc, na, nk, fa, fc, ba, bc, rfl, hm, h1, h2, h3, h4, h5, h6⟩ := h
 obtain ⟨m1, m2, m3, m4, m5, m6⟩ := hm
 obtain ⟨t1, t2⟩ := ht
 have CC := fun (v : World) (h : Below w.heap.size w v) => szCfgW (cfV x.y p d) x.y 1048576 v ⟨p, d, rfl, m1, h1.below h⟩ (by decide) (by decide)
 have CB := fun (Z : Int) (q0 : 0 ≤ Z) (q1 : Z ≤ 1048576) (v : World) => szBoolG_any la x.nl lc Z v m2 q0 q1
 have CI := fun (Z : Int) (q0 : 0 ≤ Z) (q1 : Z ≤ 1048576) (v : World) => szIntG_any ca x.nc cc Z v m3 q0 q1
 have CN := fun (Z : Int) (q : 0 ≤ Z ∧ Z ≤ 1048576) (v : World) (h : Below w.heap.size w v) => szNodeU_any na x.nn nk x.XM Z q v m4 (h4.belowW h)
 have CF := fun (Z : Int) (q : 0 ≤ Z ∧ Z ≤ 1048576) (v : World) (h : Below w.heap.size w v) => szNet_at x.nx fa x.nf fc x.FM Z q v m5 (h5.below h) t1
 have CR := fun (Z : Int) (q : 0 ≤ Z ∧ Z ≤ 1048576) (v : World) (h : Below w.heap.size w v) => szFrameS_at ba x.nb bc x.BM Z q v m6 (h6.below h) t2
 clear h1 h2 h3 h4 h5 h6 m1 m2 m3 m4 m5 m6 t1 t2
 have A0 := Below.nw w (.cells (wdV x p d la lc ca cc na nk fa fc ba bc) 37)
 have L := Bo.new w (wdV x p d la lc ca cc na nk fa fc ba bc) 37
 have B := A0
 clear A0
 go_enter Tryz.func8, Tryz.ntmps8
 go_upto_region 1 with fail
 generalize w.alloc (.cells (wdV x p d la lc ca cc na nk fa fc ba bc) 37) = v0 at *
 have hL0 : (loadCells ⟨w.heap.size, 0, none⟩ 11).run Tryz.prog v0 = .ok (cfV x.y p d) v0 := L.loadAt (P := Tryz.prog) 0 11 (show 0 + 11 ≤ 18 by decide)
 go_wp2_with (rw [hL0])
 refine (CC v0 B).mono ?_
 rintro e v1 ⟨z1, rfl, f1, hb⟩
 clear hL0
 replace B := B.trans (hb.mono B.size)
 replace L := L.below hb
 clear hb
 by_cases hnz1 : z1 < 0
 ·have hd : decide (z1 < 0) = true := by simp [hnz1]
  clear f1
  go_wp2_with fail
  go_ret
  exact ⟨-1, rfl, fun h => absurd h (by decide), B⟩
 have hdz1 : decide (z1 < 0) = false := by simp; omega
 have hpz1 : 0 ≤ z1 := by omega
 obtain ⟨g1, u1⟩ := f1 hpz1
 clear f1
 have q1 := CB z1 hpz1 u1
 have hL0 : v1.cell? ⟨w.heap.size, 11, none⟩ = some (.slice la x.nl lc) := L.cell rfl
 go_wp2_with fail
 refine (q1 _).mono ?_
 rintro e vz ⟨rfl, rfl⟩
 clear hL0 q1
 by_cases hcz2 : (x.nl : Int) ≤ z1
 rotate_left
 ·rw [if_neg hcz2]
  go_wp2_with fail
  go_ret
  exact ⟨-1, rfl, fun h => absurd h (by decide), B⟩
 rw [if_pos hcz2]
 obtain ⟨z2, hzz2⟩ : ∃ z2 : Int, z2 = z1 - (x.nl : Int) := ⟨_, rfl⟩
 rw [← hzz2]
 have hpz2 : 0 ≤ z2 := by omega
 have uz2 : z2 ≤ 1048576 := by omega
 have gz2 : x.nl ≤ 1048576 := by omega
 have hdz2 : decide (z2 < 0) = false := by simp; omega
 clear hzz2 hcz2
 have q2 := CI z2 hpz2 uz2
 have hL0 : v1.cell? ⟨w.heap.size, 13, none⟩ = some (.slice ca x.nc cc) := L.cell rfl
 go_wp2_with fail
 refine (q2 _).mono ?_
 rintro e vz ⟨rfl, rfl⟩
 clear hL0 q2
 by_cases hcz3 : (x.nc : Int) ≤ z2
 rotate_left
 ·rw [if_neg hcz3]
  go_wp2_with fail
  go_ret
  exact ⟨-1, rfl, fun h => absurd h (by decide), B⟩
 rw [if_pos hcz3]
 obtain ⟨z3, hzz3⟩ : ∃ z3 : Int, z3 = z2 - (x.nc : Int) := ⟨_, rfl⟩
 rw [← hzz3]
 have hpz3 : 0 ≤ z3 := by omega
 have uz3 : z3 ≤ 1048576 := by omega
 have gz3 : x.nc ≤ 1048576 := by omega
 have hdz3 : decide (z3 < 0) = false := by simp; omega
 clear hzz3 hcz3
 have hL0 : v1.cell? ⟨w.heap.size, 14, none⟩ = some (.slice na x.nn nk) := L.cell rfl
 go_wp2_with fail
 refine (CN z3 ⟨hpz3, uz3⟩ v1 B).mono ?_
 rintro e v2 ⟨z4, rfl, f4, hb⟩
 clear hL0
 replace B := B.trans (hb.mono B.size)
 replace L := L.below hb
 clear hb
 by_cases hnz4 : z4 < 0
 ·have hd : decide (z4 < 0) = true := by simp [hnz4]
  clear f4
  go_wp2_with fail
  go_ret
  exact ⟨-1, rfl, fun h => absurd h (by decide), B⟩
 have hdz4 : decide (z4 < 0) = false := by simp; omega
 have hpz4 : 0 ≤ z4 := by omega
 have u4' := f4 hpz4
 have u4 : z4 ≤ 1048576 := by omega
 have g4 : x.nn ≤ 1048576 := by omega
 have j4 : smN x.XM x.nn ≤ 1048576 := by omega
 clear u4'
 clear f4
 have HJ : Hid (smN x.XM x.nn ≤ 1048576) := j4
 clear j4
 have hL0 : (loadCells ⟨w.heap.size, 15, none⟩ 2).run Tryz.prog v2 = .ok #[.int .i64 x.nx, .slice fa x.nf fc] v2 := L.loadAt (P := Tryz.prog) 15 2 (show 15 + 2 ≤ 18 by decide)
 go_wp2_with (rw [hL0])
 refine (CF z4 ⟨hpz4, u4⟩ v2 B).mono ?_
 rintro e v3 ⟨z5, rfl, f5, hb⟩
 clear hL0
 replace B := B.trans (hb.mono B.size)
 replace L := L.below hb
 clear hb
 by_cases hnz5 : z5 < 0
 ·have hd : decide (z5 < 0) = true := by simp [hnz5]
  clear f5
  go_wp2_with fail
  go_ret
  exact ⟨-1, rfl, fun h => absurd h (by decide), B⟩
 have hdz5 : decide (z5 < 0) = false := by simp; omega
 have hpz5 : 0 ≤ z5 := by omega
 obtain ⟨u5, g5, -⟩ := f5 hpz5
 clear f5
 have hL0 : v3.cell? ⟨w.heap.size, 17, none⟩ = some (.slice ba x.nb bc) := L.cell rfl
 go_wp2_with fail
 refine (CR z5 ⟨hpz5, Int.le_trans u5 u4⟩ v3 B).mono ?_
 rintro e v4 ⟨z6, rfl, f6, hb⟩
 clear hL0
 replace B := B.trans (hb.mono B.size)
 replace L := L.below hb
 clear hb
 by_cases hnz6 : z6 < 0
 ·have hd : decide (z6 < 0) = true := by simp [hnz6]
  clear f6
  go_wp2_with fail
  go_ret
  exact ⟨-1, rfl, fun h => absurd h (by decide), B⟩
 have hdz6 : decide (z6 < 0) = false := by simp; omega
 have hpz6 : 0 ≤ z6 := by omega
 obtain ⟨u6, g6, -⟩ := f6 hpz6
 clear f6
 go_wp2_with fail
 go_ret
 exact ⟨z6, rfl, fun _ => ⟨⟨g1, gz2, gz3, g4, smN_sh HJ.out, g5, g6⟩, HJ.out⟩, B⟩
def NvU (w : World) (g u n k : Nat) (XM : Nat → NdX) : Prop := ∃ (A : Array Value) (AM : Nat → Array Value) (l : Nat → Nat), Bo w g A ∧ A.size = n * 16 ∧ (∀ i, i < k → ∀ j u, (AM i)[j]? = some u → A[i * 16 + j]? = some u) ∧ g + 1 ≤ l 0 ∧ (∀ i, i < k → l i ≤ l (i + 1)) ∧ l k ≤ u ∧ ∀ i, i < k → NdO w (l i) (l (i + 1)) (AM i) (XM i)
theorem NvU.below {w w' : World} {g u n k : Nat} {XM : Nat → NdX} (h : NvU w g u n k XM) (hb : Below w.heap.size w w') : NvU w' g u n k XM := by
 obtain ⟨A, AM, l, h1, h2, h3, h5, h6, h7, h4⟩ := h
 exact ⟨A, AM, l, h1.below hb, h2, h3, h5, h6, h7, fun i hi => (h4 i hi).below hb⟩
theorem l_low {l : Nat → Nat} : ∀ {k : Nat}, (∀ i, i < k → l i ≤ l (i + 1)) → l 0 ≤ l k
 | 0, _ => Nat.le_refl _
 | k + 1, h => Nat.le_trans (l_low (fun i hi => h i (by omega))) (h k (Nat.lt_succ_self _))
theorem l_up {l : Nat → Nat} {i : Nat} : ∀ {k : Nat}, (∀ i, i < k → l i ≤ l (i + 1)) → i ≤ k → l i ≤ l k
 | 0, _, hi => by rw [Nat.le_zero.1 hi]; exact Nat.le_refl _
 | k + 1, h, hi => by
  rcases Nat.lt_succ_iff_lt_or_eq.1 (Nat.lt_succ_of_le hi) with q | q
  ·exact Nat.le_trans (l_up (fun i hi => h i (by omega)) (Nat.le_of_lt_succ q)) (h k (Nat.lt_succ_self _))
  ·rw [q]; exact Nat.le_refl _
theorem NvU.btw {w w' : World} {g u n k a b : Nat} {XM : Nat → NdX} (h : NvU w g u n k XM) (hb : Btw a b w w') (ho : b ≤ g ∨ u ≤ a ∧ g < a) : NvU w' g u n k XM := by
 obtain ⟨A, AM, l, h1, h2, h3, h5, h6, h7, h4⟩ := h
 refine ⟨A, AM, l, h1.btw hb (by omega), h2, h3, h5, h6, h7, fun i hi => (h4 i hi).btw hb ?_⟩
 have q1 := l_up (i := i) (fun j (hj : j < k) => h6 j hj) (by omega)
 have q2 := l_up (i := i + 1) (fun j (hj : j < k) => h6 j hj) (by omega)
 have q3 : l 0 ≤ l i := l_low (fun j hj => h6 j (by omega))
 omega
theorem NvU.wide {w : World} {g u u' n k : Nat} {XM : Nat → NdX} (h : NvU w g u n k XM) (hu : u ≤ u') : NvU w g u' n k XM := by
 obtain ⟨A, AM, l, h1, h2, h3, h5, h6, h7, h4⟩ := h
 exact ⟨A, AM, l, h1, h2, h3, h5, h6, Nat.le_trans h7 hu, h4⟩
theorem NvU.bo {w : World} {g u n k : Nat} {XM : Nat → NdX} (h : NvU w g u n k XM) : ∃ A, Bo w g A ∧ A.size = n * 16 := by
 obtain ⟨A, AM, l, h1, h2, _⟩ := h
 exact ⟨A, h1, h2⟩
theorem NvU.lt {w : World} {g u n k : Nat} {XM : Nat → NdX} (h : NvU w g u n k XM) : g < w.heap.size := by
 obtain ⟨A, h1, _⟩ := h.bo
 exact h1.1
theorem NvU.row {w : World} {g u n : Nat} {XM : Nat → NdX} (h : NvU w g u n n XM) : RwN NdS w (some ⟨g, 0, none⟩) n XM := by
 obtain ⟨A, AM, l, h1, h2, h3, h5, h6, h7, h4⟩ := h
 exact .inr ⟨g, 0, AM, rfl, ⟨h1.1, fun i hi j u hj => by rw [Nat.zero_add]; exact h1.cell (h3 i hi j u hj)⟩, fun i hi => (h4 i hi).src⟩
theorem NvU.put {w : World} {g u n k lo : Nat} {XM : Nat → NdX} {R : Array Value} (h : NvU w g u n k XM) (hR : NdO w lo w.heap.size R (XM k)) (hl : u ≤ lo) (hlo : lo ≤ w.heap.size) (hk : k < n) : NvU (putA w g (k * 16) R.toList) g w.heap.size n (k + 1) XM := by
 obtain ⟨A, AM, l, h1, h2, h3, h5, h6, h7, h4⟩ := h
 have hs := hR.size
 have hb : Btw g (g + 1) w (putA w g (k * 16) R.toList) := putA_btw R.toList w (k * 16) g
 refine ⟨spl A (k * 16) R.toList, fun i => if i = k then R else AM i, fun i => if i ≤ k then l i else w.heap.size, Bo.put R.toList (k * 16) h1, by rw [spl_size, h2], fun i hi j u hj => ?_, ?_, fun i hi => ?_, ?_, fun i hi => ?_⟩
 ·rw [spl_get _ _ _ _ (by simp [hs]; omega)]
  have hj : (if i = k then R else AM i)[j]? = some u := hj
  by_cases e : i = k
  ·subst e
   rw [if_pos rfl] at hj
   have hj16 : j < 16 := by have := (Array.getElem?_eq_some_iff.1 hj).1; omega
   rw [if_pos (by simp [hs]; omega), Array.getElem?_toList, show i * 16 + j - i * 16 = j by omega]
   exact hj
  ·rw [if_neg e] at hj
   have hj16 : j < 16 := by have := (Array.getElem?_eq_some_iff.1 hj).1; have := (h4 i (by omega)).size; omega
   rw [if_neg (by omega)]
   exact h3 i (by omega) j u hj
 ·show g + 1 ≤ if 0 ≤ k then l 0 else w.heap.size
  rw [if_pos (Nat.zero_le _)]
  exact h5
 ·show (if i ≤ k then l i else w.heap.size) ≤ if i + 1 ≤ k then l (i + 1) else w.heap.size
  rw [if_pos (by omega)]
  by_cases e : i = k
  ·subst e
   rw [if_neg (by omega)]
   omega
  ·rw [if_pos (by omega)]
   exact h6 i (by omega)
 ·show (if k + 1 ≤ k then l (k + 1) else w.heap.size) ≤ w.heap.size
  rw [if_neg (by omega)]
  exact Nat.le_refl _
 ·show NdO _ (if i ≤ k then l i else w.heap.size) (if i + 1 ≤ k then l (i + 1) else w.heap.size) (if i = k then R else AM i) (XM i)
  have q3 : l 0 ≤ l i := l_low (fun j hj => h6 j (by omega))
  rw [if_pos (show i ≤ k by omega)]
  by_cases e : i = k
  ·subst e
   rw [if_neg (show ¬ i + 1 ≤ i by omega), if_pos rfl]
   exact (hR.wide (by omega) (Nat.le_refl _)).btw hb (.inr (by omega))
  ·rw [if_pos (show i + 1 ≤ k by omega), if_neg e]
   exact (h4 i (by omega)).btw hb (.inr (by omega))
theorem NvU.new (w : World) (n : Nat) (XM : Nat → NdX) : NvU (w.alloc (rowObjNd n)) w.heap.size (w.heap.size + 1) n 0 XM :=
 ⟨_, fun _ => #[], fun _ => w.heap.size + 1, Bo.new w _ 98, size_madeCells _ _, fun i hi => absurd hi (Nat.not_lt_zero _), Nat.le_refl _, fun i hi => absurd hi (Nat.not_lt_zero _), Nat.le_refl _, fun i hi => absurd hi (Nat.not_lt_zero _)⟩
attribute [-go_sem] loadCells storeCells in
set_option maxRecDepth 100000 in
set_option maxHeartbeats 8000000 in
theorem toNodeU_some (b off n c : Nat) (XM : Nat → NdX) (AM : Nat → Array Value) (w : World) (hn : n ≤ 1048576) (hc : CsN w b off n AM) (hq : ∀ i, i < n → NdW w (AM i) (XM i)) (hz : ∀ i, i < n → shX (XM i)) :
 Calls Tryz.prog 49 #[.slice (some ⟨b, off, none⟩) n c] w fun e w' => e = .returned (.slice (some ⟨w.heap.size, 0, none⟩) n n) ∧ (∃ u, u ≤ w'.heap.size ∧ NvU w' w.heap.size u n n XM) ∧ Below w.heap.size w w' := by
 have hmk := mk_rowNd n hn
 have HC : Hid (CsN w b off n AM) := hc
 have HQ : Hid (∀ i, i < n → NdW w (AM i) (XM i)) := hq
 have HZ : Hid (∀ i, i < n → shX (XM i)) := hz
 clear hc hq hz
 go_enter Tryz.func49, Tryz.ntmps49
 go_wp2_with fail
 clear hmk
 go_loopw [4] (fun i wr => ∃ k : Nat, k ≤ n ∧ i = .int .i64 k ∧ (∃ u, u ≤ wr.heap.size ∧ NvU wr w.heap.size u n k XM) ∧ Below w.heap.size w wr) (fun i _ => n - (intOf i).toNat)
 case atStart => exact ⟨0, Nat.zero_le _, rfl, ⟨_, by simp, NvU.new w n XM⟩, Below.nw _ _⟩
 case round =>
  obtain ⟨k, hk, rfl, ⟨u, hu, N⟩, B⟩ := hrel
  by_cases hlt : k < n
  ·have hx := HQ.out k hlt
   have hxs := hx.size
   have hL := (HC.out.below B).load (P := Tryz.prog) hlt hxs
   have hli : (k : Int) < (n : Int) := by omega
   have CT := toNodeW (AM k) (XM k) wr (hx.below B) (HZ.out k hlt)
   generalize AM k = Ak at *
   clear hx
   go_wp2_with (rw [hL])
   refine CT.mono ?_
   rintro e w2 ⟨R, rfl, O, hb⟩
   clear hL CT
   have hz2 : wr.heap.size ≤ w2.heap.size := hb.size
   replace N := N.below hb
   replace B := B.trans (hb.mono B.size)
   clear hb
   have N2 := N.put O hu hz2 hlt
   have hz3 : w2.heap.size ≤ (putA w2 w.heap.size (k * 16) R.toList).heap.size := Nat.le_of_eq (putA_size _ _ _ _).symm
   obtain ⟨A, hA, hAs⟩ := N.bo
   have hRs := O.size
   have hst : (storeCells ⟨w.heap.size, k * 16, none⟩ R.toList 0).run Tryz.prog w2 = .ok () (putA w2 w.heap.size (k * 16) R.toList) := Bo.store (P := Tryz.prog) (b := k * 16) R.toList (k * 16) 0 hA rfl (by simp [hRs]; omega) O.one
   have B2 := putA_below (k := w.heap.size) R.toList w w2 (k * 16) B (Nat.le_refl _)
   clear hA hAs O N B hu hz2
   go_wp2_with (rw [hst])
   clear hst
   generalize putA w2 w.heap.size (k * 16) R.toList = w3 at *
   go_roundw
   case rel => exact ⟨k + 1, by omega, by go_num, ⟨_, hz3, N2⟩, B2⟩
   case measure => simp [intOf]; omega
  ·have hkn : k = n := by omega
   subst hkn
   have hli : ¬ (k : Int) < (k : Int) := by omega
   go_wp2_with fail
   go_ret
   exact ⟨rfl, ⟨u, hu, N⟩, B⟩
set_option maxHeartbeats 1000000 in
theorem toNodeU_zero (a : Option Addr) (c : Nat) (XM : Nat → NdX) (w : World) :
 Calls Tryz.prog 49 #[.slice a 0 c] w fun e w' => e = .returned (.slice (some ⟨w.heap.size, 0, none⟩) 0 0) ∧ (∃ u, u ≤ w'.heap.size ∧ NvU w' w.heap.size u 0 0 XM) ∧ Below w.heap.size w w' := by
 have hmk := mk_rowNd 0 (by omega)
 simp only [Int.ofNat_zero] at hmk
 go_enter Tryz.func49, Tryz.ntmps49
 go_wp2_with fail
 clear hmk
 go_loopw [4] (fun i wr => i = .int .i64 0 ∧ (∃ u, u ≤ wr.heap.size ∧ NvU wr w.heap.size u 0 0 XM) ∧ Below w.heap.size w wr) (fun i _ => 0)
 case atStart => exact ⟨rfl, ⟨_, by simp, NvU.new w 0 XM⟩, Below.nw _ _⟩
 case round =>
  obtain ⟨rfl, N, B⟩ := hrel
  go_wp2_with fail
  go_ret
  exact ⟨rfl, N, B⟩
theorem toNodeU_any (a : Option Addr) (n c : Nat) (XM : Nat → NdX) (w : World) (hn : n ≤ 1048576) (h : RwN NdW w a n XM) (hz : ∀ i, i < n → shX (XM i)) :
 Calls Tryz.prog 49 #[.slice a n c] w fun e w' => e = .returned (.slice (some ⟨w.heap.size, 0, none⟩) n n) ∧ (∃ u, u ≤ w'.heap.size ∧ NvU w' w.heap.size u n n XM) ∧ Below w.heap.size w w' := by
 rcases h with rfl | ⟨b, off, AM, rfl, hc, hq⟩
 ·exact toNodeU_zero a c XM w
 ·exact toNodeU_some b off n c XM AM w hn hc hq hz
theorem toNodeUW (a : Option Addr) (n c : Nat) (XM : Nat → NdX) (w : World) (hn : n ≤ 1048576) (h : RwN NdW w a n XM) (hz : ∀ i, i < n → shX (XM i)) :
 Calls Tryz.prog 49 #[.slice a n c] w fun e w' => ∃ g, e = .returned (.slice (some ⟨g, 0, none⟩) n n) ∧ ((∃ u, u ≤ w'.heap.size ∧ NvU w' g u n n XM) ∧ w.heap.size ≤ g) ∧ Below w.heap.size w w' :=
 (toNodeU_any a n c XM w hn h hz).mono fun e w' ⟨h1, h2, h3⟩ => ⟨w.heap.size, h1, ⟨h2, Nat.le_refl _⟩, h3⟩
def WdO (w : World) (l0 hi : Nat) (A : Array Value) (x : WdX) : Prop := ∃ p d la ca na fa ba l1 l2 l3 l4 l5 l6, A = wdV x p d (some ⟨la, 0, none⟩) x.nl (some ⟨ca, 0, none⟩) x.nc (some ⟨na, 0, none⟩) x.nn (some ⟨fa, 0, none⟩) x.nf (some ⟨ba, 0, none⟩) x.nb ∧ shU x ∧ (l0 ≤ l1 ∧ l1 ≤ l2 ∧ l2 ≤ l3 ∧ l3 ≤ na ∧ na < l4 ∧ l4 ≤ l5 ∧ l5 ≤ l6 ∧ l6 ≤ hi ∧ hi ≤ w.heap.size) ∧ Rwo w l0 l1 173 2 p x.y.m d (MFSlot x.y.PM) ∧ Rwo w l1 l2 4 1 (some ⟨la, 0, none⟩) x.nl x.nl (boG x.LB) ∧ Rwo w l2 l3 3 1 (some ⟨ca, 0, none⟩) x.nc x.nc (itG x.CM) ∧ NvU w na l4 x.nn x.nn x.XM ∧ Rwo w l4 l5 101 5 (some ⟨fa, 0, none⟩) x.nf x.nf (MFFlight x.FM) ∧ Rwo w l5 l6 103 6 (some ⟨ba, 0, none⟩) x.nb x.nb (MFFrame x.BM)
theorem shU.mx {x : WdX} (h : shU x) : mxW x := by
 obtain ⟨⟨s1, s2, s3, s4, _, s6, s7⟩, _⟩ := h
 unfold mxW maxLen
 omega
theorem WdO.below {w w' : World} {l0 hi : Nat} {A : Array Value} {x : WdX} (h : WdO w l0 hi A x) (hb : Below w.heap.size w w') : WdO w' l0 hi A x := by
 obtain ⟨p, d, la, ca, na, fa, ba, l1, l2, l3, l4, l5, l6, e, hs, hl, h1, h2, h3, h4, h5, h6⟩ := h
 have hz := hb.size
 exact ⟨p, d, la, ca, na, fa, ba, l1, l2, l3, l4, l5, l6, e, hs, by omega, h1.below hb, h2.below hb, h3.below hb, h4.below hb, h5.below hb, h6.below hb⟩
theorem WdO.src {w : World} {l0 hi : Nat} {A : Array Value} {x : WdX} (h : WdO w l0 hi A x) : WdS w A x := by
 obtain ⟨p, d, la, ca, na, fa, ba, l1, l2, l3, l4, l5, l6, e, hs, hl, h1, h2, h3, h4, h5, h6⟩ := h
 have e1 := h2.srcC
 have e2 := h3.srcC
 rw [Nat.mul_one] at e1 e2
 exact ⟨p, d, some ⟨la, 0, none⟩, x.nl, some ⟨ca, 0, none⟩, x.nc, some ⟨na, 0, none⟩, x.nn, some ⟨fa, 0, none⟩, x.nf, some ⟨ba, 0, none⟩, x.nb, e, hs.mx, h1.rw, e1, e2, h4.row, h5.srcC, h6.srcC⟩
theorem Rwo.wide {w : World} {lo hi lo' hi' : Nat} {T : TypeId} {sz : Nat} {a : Option Addr} {n c : Nat} {F : Nat → Value} (h : Rwo w lo hi T sz a n c F) (hl : lo' ≤ lo) (hu : hi ≤ hi') : Rwo w lo' hi' T sz a n c F := by
 refine ⟨⟨h.1.1, ?_⟩, fun g hg => Nat.lt_of_lt_of_le (h.2 g hg) hu⟩
 rcases h.1.2 with q | ⟨g, cap, cur, e, h1, h2⟩
 ·exact .inl q
 ·exact .inr ⟨g, cap, cur, e, Nat.le_trans hl h1, h2⟩
theorem NvU.gu {w : World} {g u n k : Nat} {XM : Nat → NdX} (h : NvU w g u n k XM) : g < u := by
 obtain ⟨A, AM, l, h1, h2, h3, h5, h6, h7, h4⟩ := h
 have := l_low h6
 omega
attribute [-go_sem] loadCells storeCells in
set_option maxRecDepth 100000 in
set_option maxHeartbeats 8000000 in
theorem toWorldU (A : Array Value) (x : WdX) (w : World) (h : WdW w A x) (hb0 : shU x) :
 Calls Tryz.prog 10 #[.agg A] w fun e w' => ∃ R, e = .returned (.agg R) ∧ WdO w' w.heap.size w'.heap.size R x ∧ Below w.heap.size w w' := by
 obtain ⟨p, d, la, lc, ca, cc, na, nk, fa, fc, ba, bc, rfl, hm, h1, h2, h3, h4, h5, h6⟩ := h
 have HU : Hid (shU x) := hb0
 obtain ⟨⟨s1, s2, s3, s4, s5, s6, s7⟩, -⟩ := hb0
 obtain ⟨m1, m2, m3, m4, m5, m6⟩ := hm
 have CC := fun (v : World) (h : Below w.heap.size w v) => toCfgW (cfV x.y p d) x.y v ⟨p, d, rfl, m1, h1.below h⟩ s1
 have CB := fun (v : World) (h : Below w.heap.size w v) => toBoolW la x.nl lc x.LB v s2 (h2.below h)
 have CI := fun (v : World) (h : Below w.heap.size w v) => toIntW ca x.nc cc x.CM v s3 (h3.below h)
 have CN := fun (v : World) (h : Below w.heap.size w v) => toNodeUW na x.nn nk x.XM v s4 (h4.belowW h) s5
 have CF := fun (v : World) (h : Below w.heap.size w v) => toNetW x.nx fa x.nf fc x.FM v s6 (h5.below h)
 have CR := fun (v : World) (h : Below w.heap.size w v) => toFrameW ba x.nb bc x.BM v s7 (h6.below h)
 clear h1 h2 h3 h4 h5 h6 s1 s2 s3 s4 s5 s6 s7 m1 m2 m3 m4 m5 m6
 have A0 := Below.nw w (.cells (wdV x p d la lc ca cc na nk fa fc ba bc) 37)
 have A1 := Below.nw (w.alloc (.cells (wdV x p d la lc ca cc na nk fa fc ba bc) 37)) (.cells #[.int .i64 0, .int .i64 0, .int .i64 0, .int .i64 0, .int .i64 0, .int .i64 0, .int .i64 0, .int .i64 0, .int .i64 0, .int .i64 0, .slice none 0 0, .slice none 0 0, .int .i64 0, .slice none 0 0, .slice none 0 0, .int .i64 0, .slice none 0 0, .slice none 0 0] 52)
 have A2 := Below.nw (((w.alloc (.cells (wdV x p d la lc ca cc na nk fa fc ba bc) 37))).alloc (.cells #[.int .i64 0, .int .i64 0, .int .i64 0, .int .i64 0, .int .i64 0, .int .i64 0, .int .i64 0, .int .i64 0, .int .i64 0, .int .i64 0, .slice none 0 0, .slice none 0 0, .int .i64 0, .slice none 0 0, .slice none 0 0, .int .i64 0, .slice none 0 0, .slice none 0 0] 52)) (.cells #[.int .i64 0, .int .i64 0, .int .i64 0, .int .i64 0, .int .i64 0, .int .i64 0, .int .i64 0, .int .i64 0, .int .i64 0, .int .i64 0, .slice none 0 0, .slice none 0 0, .int .i64 0, .slice none 0 0, .slice none 0 0, .int .i64 0, .slice none 0 0, .slice none 0 0] 52)
 have L := ((Bo.new w (wdV x p d la lc ca cc na nk fa fc ba bc) 37).below A1).below A2
 have R := (Bo.new (w.alloc (.cells (wdV x p d la lc ca cc na nk fa fc ba bc) 37)) #[.int .i64 0, .int .i64 0, .int .i64 0, .int .i64 0, .int .i64 0, .int .i64 0, .int .i64 0, .int .i64 0, .int .i64 0, .int .i64 0, .slice none 0 0, .slice none 0 0, .int .i64 0, .slice none 0 0, .slice none 0 0, .int .i64 0, .slice none 0 0, .slice none 0 0] 52).below A2
 have O := Bo.new (((w.alloc (.cells (wdV x p d la lc ca cc na nk fa fc ba bc) 37))).alloc (.cells #[.int .i64 0, .int .i64 0, .int .i64 0, .int .i64 0, .int .i64 0, .int .i64 0, .int .i64 0, .int .i64 0, .int .i64 0, .int .i64 0, .slice none 0 0, .slice none 0 0, .int .i64 0, .slice none 0 0, .slice none 0 0, .int .i64 0, .slice none 0 0, .slice none 0 0] 52)) #[.int .i64 0, .int .i64 0, .int .i64 0, .int .i64 0, .int .i64 0, .int .i64 0, .int .i64 0, .int .i64 0, .int .i64 0, .int .i64 0, .slice none 0 0, .slice none 0 0, .int .i64 0, .slice none 0 0, .slice none 0 0, .int .i64 0, .slice none 0 0, .slice none 0 0] 52
 have B := A0
 replace B := B.trans (A1.mono B.size)
 replace B := B.trans (A2.mono B.size)
 simp only [World.size_alloc] at R O
 clear A0 A1 A2
 go_enter Tryz.func10, Tryz.ntmps10
 go_upto_region 2 with fail
 generalize ((((w.alloc (.cells (wdV x p d la lc ca cc na nk fa fc ba bc) 37))).alloc (.cells #[.int .i64 0, .int .i64 0, .int .i64 0, .int .i64 0, .int .i64 0, .int .i64 0, .int .i64 0, .int .i64 0, .int .i64 0, .int .i64 0, .slice none 0 0, .slice none 0 0, .int .i64 0, .slice none 0 0, .slice none 0 0, .int .i64 0, .slice none 0 0, .slice none 0 0] 52))).alloc (.cells #[.int .i64 0, .int .i64 0, .int .i64 0, .int .i64 0, .int .i64 0, .int .i64 0, .int .i64 0, .int .i64 0, .int .i64 0, .int .i64 0, .slice none 0 0, .slice none 0 0, .int .i64 0, .slice none 0 0, .slice none 0 0, .int .i64 0, .slice none 0 0, .slice none 0 0] 52) = v0 at *
 have hL0 : (loadCells ⟨w.heap.size, 0, none⟩ 11).run Tryz.prog v0 = .ok (cfV x.y p d) v0 := L.loadAt (P := Tryz.prog) 0 11 (show 0 + 11 ≤ 18 by decide)
 go_wp2_with (rw [hL0])
 refine (CC v0 B).mono ?_
 rintro e v1 ⟨RC, rfl, OC, hb⟩
 clear hL0
 have q1L : w.heap.size < v0.heap.size := L.1
 have q1R : w.heap.size + 1 < v0.heap.size := R.1
 have q1O : w.heap.size + 2 < v0.heap.size := O.1
 have q1 : w.heap.size ≤ v0.heap.size := B.size
 have zv1 : v0.heap.size ≤ v1.heap.size := hb.size
 replace B := B.trans (hb.mono B.size)
 replace L := L.below hb
 replace R := R.below hb
 replace O := O.below hb
 clear hb
 obtain ⟨p2, d2, rfl, hbm, P1⟩ := OC
 have hst := Bo.store (P := Tryz.prog) (b := 0) ((cfV x.y p2 d2).toList) 0 0 O rfl (show 0 + 11 ≤ 18 by decide) (CfO.one ⟨p2, d2, rfl, hbm, P1⟩)
 have hb : Btw (w.heap.size + 2) (w.heap.size + 2 + 1) v1 _ := putA_btw ((cfV x.y p2 d2).toList) v1 0 (w.heap.size + 2)
 have B1 := putA_below (k := w.heap.size + 2) ((cfV x.y p2 d2).toList) w v1 0 B (by omega)
 have N1 : Bo (putA v1 (w.heap.size + 2) 0 ((cfV x.y p2 d2).toList)) (w.heap.size + 2) ((spl wdZ 0 (cfV x.y p2 d2).toList)) := Bo.put ((cfV x.y p2 d2).toList) 0 O
 go_upto_region 3 with (rw [hst])
 clear hst  O B
 replace L := L.btw hb (by omega)
 replace R := R.btw hb (by omega)
 replace P1 := P1.btw hb (by omega)
 have zv2 := hb.2.2.2.1
 clear hb
 generalize putA v1 (w.heap.size + 2) 0 ((cfV x.y p2 d2).toList) = v2 at *
 have B := B1
 have O := N1
 clear B1 N1
 rw [spl_cf] at O
 have hL0 : v2.cell? ⟨w.heap.size, 11, none⟩ = some (.slice la x.nl lc) := L.cell rfl
 go_wp2_with fail
 refine (CB v2 B).mono ?_
 rintro e v3 ⟨la2, rfl, P2, hb⟩
 clear hL0
 have q2L : w.heap.size < v2.heap.size := L.1
 have q2R : w.heap.size + 1 < v2.heap.size := R.1
 have q2O : w.heap.size + 2 < v2.heap.size := O.1
 have q2 : w.heap.size ≤ v2.heap.size := B.size
 have zv3 : v2.heap.size ≤ v3.heap.size := hb.size
 replace B := B.trans (hb.mono B.size)
 replace L := L.below hb
 replace R := R.below hb
 replace O := O.below hb
 replace P1 := P1.below hb
 clear hb
 have hst := Bo.store (P := Tryz.prog) (b := 11) [.slice (some ⟨la2, 0, none⟩) x.nl x.nl] 11 0 O rfl (show 11 + 1 ≤ 18 by decide) (List.forall_mem_cons.2 ⟨rfl, fun _ h => nomatch h⟩)
 have hb : Btw (w.heap.size + 2) (w.heap.size + 2 + 1) v3 (putA v3 (w.heap.size + 2) 11 [.slice (some ⟨la2, 0, none⟩) x.nl x.nl]) := putA_btw [.slice (some ⟨la2, 0, none⟩) x.nl x.nl] v3 11 (w.heap.size + 2)
 have B1 := putA_below (k := w.heap.size + 2) [.slice (some ⟨la2, 0, none⟩) x.nl x.nl] w v3 11 B (by omega)
 have N1 : Bo (putA v3 (w.heap.size + 2) 11 [.slice (some ⟨la2, 0, none⟩) x.nl x.nl]) (w.heap.size + 2) (#[.int .i64 x.y.dn, .int .i64 x.y.dd, .int .i64 x.y.li, .int .i64 x.y.le, .int .i64 x.y.pt, .int .i64 x.y.ag, .int .i64 x.y.ke, .int .i64 x.y.lg, .int .i64 x.y.s, .int .i64 x.y.g, .slice p2 x.y.m d2, .slice (some ⟨la2, 0, none⟩) x.nl x.nl, .int .i64 0, .slice none 0 0, .slice none 0 0, .int .i64 0, .slice none 0 0, .slice none 0 0]) := Bo.put [.slice (some ⟨la2, 0, none⟩) x.nl x.nl] 11 O
 go_upto_region 4 with (rw [hst])
 clear hst  O B
 replace L := L.btw hb (by omega)
 replace R := R.btw hb (by omega)
 replace P1 := P1.btw hb (by omega)
 replace P2 := P2.btw hb (by omega)
 have zv4 := hb.2.2.2.1
 clear hb
 generalize putA v3 (w.heap.size + 2) 11 [.slice (some ⟨la2, 0, none⟩) x.nl x.nl] = v4 at *
 have B := B1
 have O := N1
 clear B1 N1
 have hL0 : v4.cell? ⟨w.heap.size, 12, none⟩ = some (.int .i64 x.ti) := L.cell rfl
 have hst := Bo.store (P := Tryz.prog) (b := 12) [.int .i64 x.ti] 12 0 O rfl (show 12 + 1 ≤ 18 by decide) (List.forall_mem_cons.2 ⟨rfl, fun _ h => nomatch h⟩)
 have hb : Btw (w.heap.size + 2) (w.heap.size + 2 + 1) v4 (putA v4 (w.heap.size + 2) 12 [.int .i64 x.ti]) := putA_btw [.int .i64 x.ti] v4 12 (w.heap.size + 2)
 have B1 := putA_below (k := w.heap.size + 2) [.int .i64 x.ti] w v4 12 B (by omega)
 have N1 : Bo (putA v4 (w.heap.size + 2) 12 [.int .i64 x.ti]) (w.heap.size + 2) (#[.int .i64 x.y.dn, .int .i64 x.y.dd, .int .i64 x.y.li, .int .i64 x.y.le, .int .i64 x.y.pt, .int .i64 x.y.ag, .int .i64 x.y.ke, .int .i64 x.y.lg, .int .i64 x.y.s, .int .i64 x.y.g, .slice p2 x.y.m d2, .slice (some ⟨la2, 0, none⟩) x.nl x.nl, .int .i64 x.ti, .slice none 0 0, .slice none 0 0, .int .i64 0, .slice none 0 0, .slice none 0 0]) := Bo.put [.int .i64 x.ti] 12 O
 go_upto_region 5 with (rw [hst])
 clear hst hL0 O B
 replace L := L.btw hb (by omega)
 replace R := R.btw hb (by omega)
 replace P1 := P1.btw hb (by omega)
 replace P2 := P2.btw hb (by omega)
 have zv5 := hb.2.2.2.1
 clear hb
 generalize putA v4 (w.heap.size + 2) 12 [.int .i64 x.ti] = v5 at *
 have B := B1
 have O := N1
 clear B1 N1
 have hL0 : v5.cell? ⟨w.heap.size, 13, none⟩ = some (.slice ca x.nc cc) := L.cell rfl
 go_wp2_with fail
 refine (CI v5 B).mono ?_
 rintro e v6 ⟨ca2, rfl, P3, hb⟩
 clear hL0
 have q3L : w.heap.size < v5.heap.size := L.1
 have q3R : w.heap.size + 1 < v5.heap.size := R.1
 have q3O : w.heap.size + 2 < v5.heap.size := O.1
 have q3 : w.heap.size ≤ v5.heap.size := B.size
 have zv6 : v5.heap.size ≤ v6.heap.size := hb.size
 replace B := B.trans (hb.mono B.size)
 replace L := L.below hb
 replace R := R.below hb
 replace O := O.below hb
 replace P1 := P1.below hb
 replace P2 := P2.below hb
 clear hb
 have hst := Bo.store (P := Tryz.prog) (b := 13) [.slice (some ⟨ca2, 0, none⟩) x.nc x.nc] 13 0 O rfl (show 13 + 1 ≤ 18 by decide) (List.forall_mem_cons.2 ⟨rfl, fun _ h => nomatch h⟩)
 have hb : Btw (w.heap.size + 2) (w.heap.size + 2 + 1) v6 (putA v6 (w.heap.size + 2) 13 [.slice (some ⟨ca2, 0, none⟩) x.nc x.nc]) := putA_btw [.slice (some ⟨ca2, 0, none⟩) x.nc x.nc] v6 13 (w.heap.size + 2)
 have B1 := putA_below (k := w.heap.size + 2) [.slice (some ⟨ca2, 0, none⟩) x.nc x.nc] w v6 13 B (by omega)
 have N1 : Bo (putA v6 (w.heap.size + 2) 13 [.slice (some ⟨ca2, 0, none⟩) x.nc x.nc]) (w.heap.size + 2) (#[.int .i64 x.y.dn, .int .i64 x.y.dd, .int .i64 x.y.li, .int .i64 x.y.le, .int .i64 x.y.pt, .int .i64 x.y.ag, .int .i64 x.y.ke, .int .i64 x.y.lg, .int .i64 x.y.s, .int .i64 x.y.g, .slice p2 x.y.m d2, .slice (some ⟨la2, 0, none⟩) x.nl x.nl, .int .i64 x.ti, .slice (some ⟨ca2, 0, none⟩) x.nc x.nc, .slice none 0 0, .int .i64 0, .slice none 0 0, .slice none 0 0]) := Bo.put [.slice (some ⟨ca2, 0, none⟩) x.nc x.nc] 13 O
 go_upto_region 6 with (rw [hst])
 clear hst  O B
 replace L := L.btw hb (by omega)
 replace R := R.btw hb (by omega)
 replace P1 := P1.btw hb (by omega)
 replace P2 := P2.btw hb (by omega)
 replace P3 := P3.btw hb (by omega)
 have zv7 := hb.2.2.2.1
 clear hb
 generalize putA v6 (w.heap.size + 2) 13 [.slice (some ⟨ca2, 0, none⟩) x.nc x.nc] = v7 at *
 have B := B1
 have O := N1
 clear B1 N1
 have hL0 : v7.cell? ⟨w.heap.size, 14, none⟩ = some (.slice na x.nn nk) := L.cell rfl
 go_wp2_with fail
 refine (CN v7 B).mono ?_
 rintro e v8 ⟨na2, rfl, ⟨⟨u4, hu4, P4⟩, hg4⟩, hb⟩
 clear hL0
 have q4L : w.heap.size < v7.heap.size := L.1
 have q4R : w.heap.size + 1 < v7.heap.size := R.1
 have q4O : w.heap.size + 2 < v7.heap.size := O.1
 have q4 : w.heap.size ≤ v7.heap.size := B.size
 have zv8 : v7.heap.size ≤ v8.heap.size := hb.size
 replace B := B.trans (hb.mono B.size)
 replace L := L.below hb
 replace R := R.below hb
 replace O := O.below hb
 replace P1 := P1.below hb
 replace P2 := P2.below hb
 replace P3 := P3.below hb
 clear hb
 have hst := Bo.store (P := Tryz.prog) (b := 14) [.slice (some ⟨na2, 0, none⟩) x.nn x.nn] 14 0 O rfl (show 14 + 1 ≤ 18 by decide) (List.forall_mem_cons.2 ⟨rfl, fun _ h => nomatch h⟩)
 have hb : Btw (w.heap.size + 2) (w.heap.size + 2 + 1) v8 (putA v8 (w.heap.size + 2) 14 [.slice (some ⟨na2, 0, none⟩) x.nn x.nn]) := putA_btw [.slice (some ⟨na2, 0, none⟩) x.nn x.nn] v8 14 (w.heap.size + 2)
 have B1 := putA_below (k := w.heap.size + 2) [.slice (some ⟨na2, 0, none⟩) x.nn x.nn] w v8 14 B (by omega)
 have N1 : Bo (putA v8 (w.heap.size + 2) 14 [.slice (some ⟨na2, 0, none⟩) x.nn x.nn]) (w.heap.size + 2) (#[.int .i64 x.y.dn, .int .i64 x.y.dd, .int .i64 x.y.li, .int .i64 x.y.le, .int .i64 x.y.pt, .int .i64 x.y.ag, .int .i64 x.y.ke, .int .i64 x.y.lg, .int .i64 x.y.s, .int .i64 x.y.g, .slice p2 x.y.m d2, .slice (some ⟨la2, 0, none⟩) x.nl x.nl, .int .i64 x.ti, .slice (some ⟨ca2, 0, none⟩) x.nc x.nc, .slice (some ⟨na2, 0, none⟩) x.nn x.nn, .int .i64 0, .slice none 0 0, .slice none 0 0]) := Bo.put [.slice (some ⟨na2, 0, none⟩) x.nn x.nn] 14 O
 go_upto_region 7 with (rw [hst])
 clear hst  O B
 replace L := L.btw hb (by omega)
 replace R := R.btw hb (by omega)
 replace P1 := P1.btw hb (by omega)
 replace P2 := P2.btw hb (by omega)
 replace P3 := P3.btw hb (by omega)
 replace P4 := P4.btw hb (by omega)
 have zv9 := hb.2.2.2.1
 clear hb
 generalize putA v8 (w.heap.size + 2) 14 [.slice (some ⟨na2, 0, none⟩) x.nn x.nn] = v9 at *
 have B := B1
 have O := N1
 clear B1 N1
 have hL0 : (loadCells ⟨w.heap.size, 15, none⟩ 2).run Tryz.prog v9 = .ok #[.int .i64 x.nx, .slice fa x.nf fc] v9 := L.loadAt (P := Tryz.prog) 15 2 (show 15 + 2 ≤ 18 by decide)
 go_wp2_with (rw [hL0])
 refine (CF v9 B).mono ?_
 rintro e v10 ⟨fa2, rfl, P5, hb⟩
 clear hL0
 have q5L : w.heap.size < v9.heap.size := L.1
 have q5R : w.heap.size + 1 < v9.heap.size := R.1
 have q5O : w.heap.size + 2 < v9.heap.size := O.1
 have q5 : w.heap.size ≤ v9.heap.size := B.size
 have zv10 : v9.heap.size ≤ v10.heap.size := hb.size
 replace B := B.trans (hb.mono B.size)
 replace L := L.below hb
 replace R := R.below hb
 replace O := O.below hb
 replace P1 := P1.below hb
 replace P2 := P2.below hb
 replace P3 := P3.below hb
 replace P4 := P4.below hb
 clear hb
 have hst := Bo.store (P := Tryz.prog) (b := 15) ([.int .i64 x.nx, .slice (some ⟨fa2, 0, none⟩) x.nf x.nf]) 15 0 O rfl (show 15 + 2 ≤ 18 by decide) (List.forall_mem_cons.2 ⟨rfl, (List.forall_mem_cons.2 ⟨rfl, fun _ h => nomatch h⟩)⟩)
 have hb : Btw (w.heap.size + 2) (w.heap.size + 2 + 1) v10 _ := putA_btw ([.int .i64 x.nx, .slice (some ⟨fa2, 0, none⟩) x.nf x.nf]) v10 15 (w.heap.size + 2)
 have B1 := putA_below (k := w.heap.size + 2) ([.int .i64 x.nx, .slice (some ⟨fa2, 0, none⟩) x.nf x.nf]) w v10 15 B (by omega)
 have N1 : Bo (putA v10 (w.heap.size + 2) 15 ([.int .i64 x.nx, .slice (some ⟨fa2, 0, none⟩) x.nf x.nf])) (w.heap.size + 2) (#[.int .i64 x.y.dn, .int .i64 x.y.dd, .int .i64 x.y.li, .int .i64 x.y.le, .int .i64 x.y.pt, .int .i64 x.y.ag, .int .i64 x.y.ke, .int .i64 x.y.lg, .int .i64 x.y.s, .int .i64 x.y.g, .slice p2 x.y.m d2, .slice (some ⟨la2, 0, none⟩) x.nl x.nl, .int .i64 x.ti, .slice (some ⟨ca2, 0, none⟩) x.nc x.nc, .slice (some ⟨na2, 0, none⟩) x.nn x.nn, .int .i64 x.nx, .slice (some ⟨fa2, 0, none⟩) x.nf x.nf, .slice none 0 0]) := Bo.put ([.int .i64 x.nx, .slice (some ⟨fa2, 0, none⟩) x.nf x.nf]) 15 O
 go_upto_region 8 with (rw [hst])
 clear hst  O B
 replace L := L.btw hb (by omega)
 replace R := R.btw hb (by omega)
 replace P1 := P1.btw hb (by omega)
 replace P2 := P2.btw hb (by omega)
 replace P3 := P3.btw hb (by omega)
 replace P4 := P4.btw hb (by omega)
 replace P5 := P5.btw hb (by omega)
 have zv11 := hb.2.2.2.1
 clear hb
 generalize putA v10 (w.heap.size + 2) 15 ([.int .i64 x.nx, .slice (some ⟨fa2, 0, none⟩) x.nf x.nf]) = v11 at *
 have B := B1
 have O := N1
 clear B1 N1
 have hL0 : v11.cell? ⟨w.heap.size, 17, none⟩ = some (.slice ba x.nb bc) := L.cell rfl
 go_wp2_with fail
 refine (CR v11 B).mono ?_
 rintro e v12 ⟨ba2, rfl, P6, hb⟩
 clear hL0
 have q6L : w.heap.size < v11.heap.size := L.1
 have q6R : w.heap.size + 1 < v11.heap.size := R.1
 have q6O : w.heap.size + 2 < v11.heap.size := O.1
 have q6 : w.heap.size ≤ v11.heap.size := B.size
 have zv12 : v11.heap.size ≤ v12.heap.size := hb.size
 replace B := B.trans (hb.mono B.size)
 replace L := L.below hb
 replace R := R.below hb
 replace O := O.below hb
 replace P1 := P1.below hb
 replace P2 := P2.below hb
 replace P3 := P3.below hb
 replace P4 := P4.below hb
 replace P5 := P5.below hb
 clear hb
 have hst := Bo.store (P := Tryz.prog) (b := 17) [.slice (some ⟨ba2, 0, none⟩) x.nb x.nb] 17 0 O rfl (show 17 + 1 ≤ 18 by decide) (List.forall_mem_cons.2 ⟨rfl, fun _ h => nomatch h⟩)
 have hb : Btw (w.heap.size + 2) (w.heap.size + 2 + 1) v12 (putA v12 (w.heap.size + 2) 17 [.slice (some ⟨ba2, 0, none⟩) x.nb x.nb]) := putA_btw [.slice (some ⟨ba2, 0, none⟩) x.nb x.nb] v12 17 (w.heap.size + 2)
 have B1 := putA_below (k := w.heap.size + 2) [.slice (some ⟨ba2, 0, none⟩) x.nb x.nb] w v12 17 B (by omega)
 have N1 : Bo (putA v12 (w.heap.size + 2) 17 [.slice (some ⟨ba2, 0, none⟩) x.nb x.nb]) (w.heap.size + 2) (#[.int .i64 x.y.dn, .int .i64 x.y.dd, .int .i64 x.y.li, .int .i64 x.y.le, .int .i64 x.y.pt, .int .i64 x.y.ag, .int .i64 x.y.ke, .int .i64 x.y.lg, .int .i64 x.y.s, .int .i64 x.y.g, .slice p2 x.y.m d2, .slice (some ⟨la2, 0, none⟩) x.nl x.nl, .int .i64 x.ti, .slice (some ⟨ca2, 0, none⟩) x.nc x.nc, .slice (some ⟨na2, 0, none⟩) x.nn x.nn, .int .i64 x.nx, .slice (some ⟨fa2, 0, none⟩) x.nf x.nf, .slice (some ⟨ba2, 0, none⟩) x.nb x.nb]) := Bo.put [.slice (some ⟨ba2, 0, none⟩) x.nb x.nb] 17 O
 go_upto_region 9 with (rw [hst])
 clear hst  O B
 replace L := L.btw hb (by omega)
 replace R := R.btw hb (by omega)
 replace P1 := P1.btw hb (by omega)
 replace P2 := P2.btw hb (by omega)
 replace P3 := P3.btw hb (by omega)
 replace P4 := P4.btw hb (by omega)
 replace P5 := P5.btw hb (by omega)
 replace P6 := P6.btw hb (by omega)
 have zv13 := hb.2.2.2.1
 clear hb
 generalize putA v12 (w.heap.size + 2) 17 [.slice (some ⟨ba2, 0, none⟩) x.nb x.nb] = v13 at *
 have B := B1
 have O := N1
 clear B1 N1
 have O : Bo v13 (w.heap.size + 2) (wdV x p2 d2 (some ⟨la2, 0, none⟩) x.nl (some ⟨ca2, 0, none⟩) x.nc (some ⟨na2, 0, none⟩) x.nn (some ⟨fa2, 0, none⟩) x.nf (some ⟨ba2, 0, none⟩) x.nb) := O
 have hU : (wdV x p2 d2 (some ⟨la2, 0, none⟩) x.nl (some ⟨ca2, 0, none⟩) x.nc (some ⟨na2, 0, none⟩) x.nn (some ⟨fa2, 0, none⟩) x.nf (some ⟨ba2, 0, none⟩) x.nb).size = 18 := rfl
 have hUl : 0 + (wdV x p2 d2 (some ⟨la2, 0, none⟩) x.nl (some ⟨ca2, 0, none⟩) x.nc (some ⟨na2, 0, none⟩) x.nn (some ⟨fa2, 0, none⟩) x.nf (some ⟨ba2, 0, none⟩) x.nb).toList.length ≤ 18 := by simp [hU]
 have hL0 := O.load (P := Tryz.prog) (show ((wdV x p2 d2 (some ⟨la2, 0, none⟩) x.nl (some ⟨ca2, 0, none⟩) x.nc (some ⟨na2, 0, none⟩) x.nn (some ⟨fa2, 0, none⟩) x.nf (some ⟨ba2, 0, none⟩) x.nb) : Array Value).size = 18 from rfl)
 have hst := Bo.store (P := Tryz.prog) (b := 0) ((wdV x p2 d2 (some ⟨la2, 0, none⟩) x.nl (some ⟨ca2, 0, none⟩) x.nc (some ⟨na2, 0, none⟩) x.nn (some ⟨fa2, 0, none⟩) x.nf (some ⟨ba2, 0, none⟩) x.nb).toList) 0 0 R rfl hUl (wdV_one _ _ _ _ _ _ _ _ _ _ _ _ _)
 have hb : Btw (w.heap.size + 1) (w.heap.size + 1 + 1) v13 _ := putA_btw ((wdV x p2 d2 (some ⟨la2, 0, none⟩) x.nl (some ⟨ca2, 0, none⟩) x.nc (some ⟨na2, 0, none⟩) x.nn (some ⟨fa2, 0, none⟩) x.nf (some ⟨ba2, 0, none⟩) x.nb).toList) v13 0 (w.heap.size + 1)
 have B1 := putA_below (k := w.heap.size + 1) ((wdV x p2 d2 (some ⟨la2, 0, none⟩) x.nl (some ⟨ca2, 0, none⟩) x.nc (some ⟨na2, 0, none⟩) x.nn (some ⟨fa2, 0, none⟩) x.nf (some ⟨ba2, 0, none⟩) x.nb).toList) w v13 0 B (by omega)
 have N1 : Bo (putA v13 (w.heap.size + 1) 0 ((wdV x p2 d2 (some ⟨la2, 0, none⟩) x.nl (some ⟨ca2, 0, none⟩) x.nc (some ⟨na2, 0, none⟩) x.nn (some ⟨fa2, 0, none⟩) x.nf (some ⟨ba2, 0, none⟩) x.nb).toList)) (w.heap.size + 1) ((wdV x p2 d2 (some ⟨la2, 0, none⟩) x.nl (some ⟨ca2, 0, none⟩) x.nc (some ⟨na2, 0, none⟩) x.nn (some ⟨fa2, 0, none⟩) x.nf (some ⟨ba2, 0, none⟩) x.nb)) := R.putW (U := (wdV x p2 d2 (some ⟨la2, 0, none⟩) x.nl (some ⟨ca2, 0, none⟩) x.nc (some ⟨na2, 0, none⟩) x.nn (some ⟨fa2, 0, none⟩) x.nf (some ⟨ba2, 0, none⟩) x.nb)) hU
 go_wp2_with (first | rw [hL0] | rw [hst])
 clear hst hL0 R B
 replace L := L.btw hb (by omega)
 replace O := O.btw hb (by omega)
 replace P1 := P1.btw hb (by omega)
 replace P2 := P2.btw hb (by omega)
 replace P3 := P3.btw hb (by omega)
 replace P4 := P4.btw hb (by omega)
 replace P5 := P5.btw hb (by omega)
 replace P6 := P6.btw hb (by omega)
 have zv14 := hb.2.2.2.1
 clear hb
 generalize putA v13 (w.heap.size + 1) 0 ((wdV x p2 d2 (some ⟨la2, 0, none⟩) x.nl (some ⟨ca2, 0, none⟩) x.nc (some ⟨na2, 0, none⟩) x.nn (some ⟨fa2, 0, none⟩) x.nf (some ⟨ba2, 0, none⟩) x.nb).toList) = v14 at *
 have B := B1
 have R := N1
 clear B1 N1
 have hgu := P4.gu
 have hB0 := B.size
 have q1 := P1.wide (lo' := w.heap.size) (hi' := v1.heap.size) (by omega) (Nat.le_refl _)
 have q2 := P2.wide (lo' := v1.heap.size) (hi' := v3.heap.size) (by omega) (Nat.le_refl _)
 have q3 := P3.wide (lo' := v3.heap.size) (hi' := v6.heap.size) (by omega) (Nat.le_refl _)
 have q5 := P5.wide (lo' := u4) (hi' := v10.heap.size) (by omega) (Nat.le_refl _)
 have q6 := P6.wide (lo' := v10.heap.size) (hi' := v12.heap.size) (by omega) (Nat.le_refl _)
 have hch : w.heap.size ≤ v1.heap.size ∧ v1.heap.size ≤ v3.heap.size ∧ v3.heap.size ≤ v6.heap.size ∧ v6.heap.size ≤ na2 ∧ na2 < u4 ∧ u4 ≤ v10.heap.size ∧ v10.heap.size ≤ v12.heap.size ∧ v12.heap.size ≤ v14.heap.size ∧ v14.heap.size ≤ v14.heap.size := by omega
 have hL0 := R.load (P := Tryz.prog) hU
 exact bodyPost_ret (v := .agg (wdV x p2 d2 (some ⟨la2, 0, none⟩) x.nl (some ⟨ca2, 0, none⟩) x.nc (some ⟨na2, 0, none⟩) x.nn (some ⟨fa2, 0, none⟩) x.nf (some ⟨ba2, 0, none⟩) x.nb)) (by simp [results, Tryz.results10, go_sem]; rw [hL0]; rfl) rfl ⟨_, rfl, ⟨p2, d2, la2, ca2, na2, fa2, ba2, v1.heap.size, v3.heap.size, v6.heap.size, u4, v10.heap.size, v12.heap.size, rfl, HU.out, hch, q1, q2, q3, P4, q5, q6⟩, B⟩
def mkBoU (q : Int) (c : Nat) : Value := .bool ((q + (c : Int)) % 3 == 0)
set_option maxHeartbeats 1000000 in
theorem markBoolU_row (b N n c : Nat) (q0 : Int) (w : World) (hn : n ≤ 1048576) (hq : 0 < q0) (hq1 : q0 ≤ 1073741824) (hN : n ≤ N) (h : RowF w b 4 N 0 (mkBoU q0)) :
 Calls Tryz.prog 21 #[.slice (some ⟨b, 0, none⟩) n c, .int .i64 q0] w fun e w' => e = .returned (.int .i64 (q0 + (n : Int))) ∧ RowF w' b 4 N n (mkBoU q0) ∧ But b w w' := by
 go_enter Tryz.func21, Tryz.ntmps21
 go_wp2_with fail
 go_loopw [1, 5] (fun q i wr => ∃ (k : Nat) (Q : Int), k ≤ n ∧ i = .int .i64 k ∧ q = .int .i64 Q ∧ Q = q0 + (k : Int) ∧ RowF wr b 4 N k (mkBoU q0) ∧ But b w wr) (fun _ i _ => n - (intOf i).toNat)
 case atStart => exact ⟨0, q0, Nat.zero_le _, rfl, rfl, by omega, h, But.refl _ _⟩
 case round =>
  obtain ⟨k, Q, hk, rfl, rfl, hQ, row, hB⟩ := hrel
  clear h
  have HQ : Hid (Q = q0 + (k : Int)) := hQ
  by_cases hlt : k < n
  ·have hli : (k : Int) < (n : Int) := by omega
   have Q0 : 0 < Q := by omega
   have Q1 : Q ≤ 1073741824 + 1048576 := by omega
   clear hQ
   obtain ⟨⟨v1, e1⟩, f1⟩ := row.facts k (by omega)
   have l1 := row.lt
   go_wp2_with fail
   go_roundw
   case rel => exact ⟨k + 1, _, by omega, by go_num, rfl, by have := HQ.out; omega, row.put (k + 1) rfl (by rw [mkBoU, ← HQ.out]), hB.setCell _ _⟩
   case measure => simp [intOf]; omega
  ·have hkn : k = n := by omega
   subst hkn
   have hli : ¬ (k : Int) < (k : Int) := by omega
   subst hQ
   go_wp2_with fail
   go_ret
   exact ⟨rfl, row, hB⟩
set_option maxHeartbeats 400000 in
theorem markBoolU_zero (a : Option Addr) (c : Nat) (q0 : Int) (w : World) :
 Calls Tryz.prog 21 #[.slice a 0 c, .int .i64 q0] w fun e w' => e = .returned (.int .i64 q0) ∧ w = w' := by
 go_enter Tryz.func21, Tryz.ntmps21
 go_wp2_with fail
 go_loopw [1, 5] (fun q i wr => i = .int .i64 0 ∧ q = .int .i64 q0 ∧ w = wr) (fun _ i _ => 0)
 case atStart => exact ⟨rfl, rfl, by first | rfl | trivial⟩
 case round =>
  obtain ⟨rfl, rfl, rfl⟩ := hrel
  go_wp2_with fail
  go_ret
  exact ⟨rfl, rfl⟩
theorem markBool_O (n c lo hi : Nat) (a : Option Addr) (F : Nat → Value) (q0 : Int) (w : World) (hn : n ≤ 1048576) (hq : 0 < q0) (hq1 : q0 ≤ 1073741824) (h : Rwo w lo hi 4 1 a n c F) :
 Calls Tryz.prog 21 #[.slice a n c, .int .i64 q0] w fun e w' => e = .returned (.int .i64 (q0 + (n : Int) * 1)) ∧ SrcC w' a (n * 1) (mkBoU q0) ∧ Btw lo hi w w' := by
 have hlt := fun g hg => h.lt (g := g) hg
 rcases h.1.2 with ⟨he, h0⟩ | ⟨g, cap, cur, he, _⟩
 ·simp at he
  obtain ⟨rfl, rfl, rfl⟩ := he
  exact (markBoolU_zero none 0 q0 w).mono fun e w' ⟨h1, h2⟩ => ⟨by rw [h1]; simp, .inl (by omega), h2 ▸ Btw.ofBelow (Below.refl _ _)⟩
 ·simp at he
  obtain ⟨rfl, rfl⟩ := he
  have hg := hlt g rfl
  obtain ⟨h1, h2, _, h3⟩ := ownF_row (mkBoU q0) h.1
  exact (markBoolU_row g (c * 1) n c q0 w hn hq hq1 (by omega) h3).mono fun e w' ⟨r1, r2, r3⟩ => ⟨by rw [r1]; simp, .inr ⟨g, 0, rfl, by rw [Nat.mul_one]; exact r2.cs (by omega)⟩, ⟨r3.1, r3.2.1, r3.2.2.1, r3.2.2.2.1, fun i hi ho => r3.2.2.2.2 i hi (by omega)⟩⟩
theorem markInt_O (n c lo hi : Nat) (a : Option Addr) (F : Nat → Value) (q0 : Int) (w : World) (hn : n ≤ 1048576) (hq : 0 < q0) (hq1 : q0 ≤ 1073741824) (h : Rwo w lo hi 3 1 a n c F) :
 Calls Tryz.prog 29 #[.slice a n c, .int .i64 q0] w fun e w' => e = .returned (.int .i64 (q0 + (n : Int) * 1)) ∧ SrcC w' a (n * 1) (mkInt q0) ∧ Btw lo hi w w' := by
 have hlt := fun g hg => h.lt (g := g) hg
 rcases h.1.2 with ⟨he, h0⟩ | ⟨g, cap, cur, he, _⟩
 ·simp at he
  obtain ⟨rfl, rfl, rfl⟩ := he
  exact (markIntS_zero none 0 q0 w).mono fun e w' ⟨h1, h2⟩ => ⟨by rw [h1]; simp, .inl (by omega), h2 ▸ Btw.ofBelow (Below.refl _ _)⟩
 ·simp at he
  obtain ⟨rfl, rfl⟩ := he
  have hg := hlt g rfl
  obtain ⟨h1, h2, _, h3⟩ := ownF_row (mkInt q0) h.1
  exact (markIntS_row g (c * 1) n c q0 w hn hq hq1 (by omega) h3).mono fun e w' ⟨r1, r2, r3⟩ => ⟨by rw [r1]; simp, .inr ⟨g, 0, rfl, by rw [Nat.mul_one]; exact r2.cs (by omega)⟩, ⟨r3.1, r3.2.1, r3.2.2.1, r3.2.2.2.1, fun i hi ho => r3.2.2.2.2 i hi (by omega)⟩⟩
def mkFlightQ (q0 : Int) (c : Nat) : Value := if c % 5 = 3 then .string (txt (q0 + (c : Int))) else .int .i64 (q0 + (c : Int))
theorem mkFlightQ_i {q0 : Int} {k j : Nat} {x : Int} (hj : j < 5) (hs : j ≠ 3) (h : x = q0 + ((k * 5 + j : Nat) : Int)) : mkFlightQ q0 (k * 5 + j) = .int .i64 x := by
 have e : (k * 5 + j) % 5 = j := by omega
 rw [mkFlightQ, e, if_neg (by omega), h]
theorem mkFlightQ_s {q0 : Int} {k j : Nat} {x : Int} (hj : j < 5) (hs : j = 3) (h : x = q0 + ((k * 5 + j : Nat) : Int)) : mkFlightQ q0 (k * 5 + j) = .string (txt x) := by
 have e : (k * 5 + j) % 5 = j := by omega
 rw [mkFlightQ, e, if_pos (by omega), h]
set_option maxHeartbeats 8000000 in
theorem markFlightS_rowQ (b N n c : Nat) (q0 : Int) (w : World) (hn : n ≤ 1048576) (hq : 0 < q0) (hq1 : q0 ≤ 1073741824) (hN : n * 5 ≤ N) (h : RowF w b 101 N 0 (mkFlightQ q0)) :
 Calls Tryz.prog 121 #[.slice (some ⟨b, 0, none⟩) n c, .int .i64 q0] w fun e w' => e = .returned (.int .i64 (q0 + (n : Int) * 5)) ∧ RowF w' b 101 N (n * 5) (mkFlightQ q0) ∧ But b w w' := by
 go_enter Tryz.func121, Tryz.ntmps121
 go_wp2_with fail
 go_loopw [1, 5] (fun q i wr => ∃ (k : Nat) (Q : Int), k ≤ n ∧ i = .int .i64 k ∧ q = .int .i64 Q ∧ Q = q0 + (k : Int) * 5 ∧ RowF wr b 101 N (k * 5) (mkFlightQ q0) ∧ But b w wr) (fun _ i _ => n - (intOf i).toNat)
 case atStart => exact ⟨0, q0, Nat.zero_le _, rfl, rfl, by omega, h.eqm (by omega), But.refl _ _⟩
 case round =>
  obtain ⟨k, Q, hk, rfl, rfl, hQ, row, hB⟩ := hrel
  clear h
  have HQ : Hid (Q = q0 + (k : Int) * 5) := hQ
  by_cases hlt : k < n
  ·have hli : (k : Int) < (n : Int) := by omega
   have Q0 : 0 < Q := by omega
   have Q1 : Q ≤ 1073741824 + 1048576 * 5 := by omega
   clear hQ
   have hlr := row.lt
   obtain ⟨⟨v0, e0⟩, f0⟩ := row.facts (k * 5) (by omega)
   obtain ⟨⟨v1, e1⟩, f1⟩ := row.facts (k * 5 + 1) (by omega)
   obtain ⟨⟨v2, e2⟩, f2⟩ := row.facts (k * 5 + 2) (by omega)
   obtain ⟨⟨v3, e3⟩, f3⟩ := row.facts (k * 5 + 3) (by omega)
   obtain ⟨⟨v4, e4⟩, f4⟩ := row.facts (k * 5 + 4) (by omega)
   go_wp2_with fail
   refine (markText_any _ _ (by omega) (by omega)).mono ?_
   rintro e w' ⟨rfl, hb⟩
   have row' := RowF.below' hb (RowF.put (RowF.put (RowF.put row (k * 5 + 1) (by omega) (mkFlightQ_i (k := k) (j := 0) (by decide) (by decide) (by have := HQ.out; omega))) (k * 5 + 2) (by omega) (mkFlightQ_i (k := k) (j := 1) (by decide) (by decide) (by have := HQ.out; omega))) (k * 5 + 3) (by omega) (mkFlightQ_i (k := k) (j := 2) (by decide) (by decide) (by have := HQ.out; omega)))
   have hB' : But b w w' := But.trans (((hB.setCell _ _).setCell _ _).setCell _ _) (But.of_below hb)
   clear e0 f0 e1 f1 e2 f2 e3 f3 e4 f4 hb row hB hlr
   have row := row'
   have hB := hB'
   clear row' hB'
   have hlr := row.lt
   obtain ⟨⟨v0, e0⟩, f0⟩ := row.facts (k * 5) (by omega)
   obtain ⟨⟨v1, e1⟩, f1⟩ := row.facts (k * 5 + 1) (by omega)
   obtain ⟨⟨v2, e2⟩, f2⟩ := row.facts (k * 5 + 2) (by omega)
   obtain ⟨⟨v3, e3⟩, f3⟩ := row.facts (k * 5 + 3) (by omega)
   obtain ⟨⟨v4, e4⟩, f4⟩ := row.facts (k * 5 + 4) (by omega)
   go_wp2_with fail
   go_roundw
   case rel => exact ⟨k + 1, _, by omega, by go_num, rfl, by have := HQ.out; omega, (RowF.put (RowF.put row (k * 5 + 4) (by omega) (mkFlightQ_s (k := k) (j := 3) (by decide) (by decide) (by have := HQ.out; omega))) ((k + 1) * 5) (by omega) (mkFlightQ_i (k := k) (j := 4) (by decide) (by decide) (by have := HQ.out; omega))), ((hB.setCell _ _).setCell _ _)⟩
   case measure => simp [intOf]; omega
  ·have hkn : k = n := by omega
   subst hkn
   have hli : ¬ (k : Int) < (k : Int) := by omega
   subst hQ
   go_wp2_with fail
   go_ret
   exact ⟨rfl, row, hB⟩
set_option maxHeartbeats 400000 in
theorem markFlightS_zeroQ (a : Option Addr) (c : Nat) (q0 : Int) (w : World) :
 Calls Tryz.prog 121 #[.slice a 0 c, .int .i64 q0] w fun e w' => e = .returned (.int .i64 q0) ∧ w = w' := by
 go_enter Tryz.func121, Tryz.ntmps121
 go_wp2_with fail
 go_loopw [1, 5] (fun q i wr => i = .int .i64 0 ∧ q = .int .i64 q0 ∧ w = wr) (fun _ i _ => 0)
 case atStart => exact ⟨rfl, rfl, by first | rfl | trivial⟩
 case round =>
  obtain ⟨rfl, rfl, rfl⟩ := hrel
  go_wp2_with fail
  go_ret
  exact ⟨rfl, rfl⟩
theorem markFlight_O (n c lo hi : Nat) (a : Option Addr) (F : Nat → Value) (q0 : Int) (w : World) (hn : n ≤ 1048576) (hq : 0 < q0) (hq1 : q0 ≤ 1073741824) (h : Rwo w lo hi 101 5 a n c F) :
 Calls Tryz.prog 121 #[.slice a n c, .int .i64 q0] w fun e w' => e = .returned (.int .i64 (q0 + (n : Int) * 5)) ∧ SrcC w' a (n * 5) (mkFlightQ q0) ∧ Btw lo hi w w' := by
 have hlt := fun g hg => h.lt (g := g) hg
 rcases h.1.2 with ⟨he, h0⟩ | ⟨g, cap, cur, he, _⟩
 ·simp at he
  obtain ⟨rfl, rfl, rfl⟩ := he
  exact (markFlightS_zeroQ none 0 q0 w).mono fun e w' ⟨h1, h2⟩ => ⟨by rw [h1]; simp, .inl (by omega), h2 ▸ Btw.ofBelow (Below.refl _ _)⟩
 ·simp at he
  obtain ⟨rfl, rfl⟩ := he
  have hg := hlt g rfl
  obtain ⟨h1, h2, _, h3⟩ := ownF_row (mkFlightQ q0) h.1
  exact (markFlightS_rowQ g (c * 5) n c q0 w hn hq hq1 (Nat.mul_le_mul_right _ h2) h3).mono fun e w' ⟨r1, r2, r3⟩ => ⟨by rw [r1], .inr ⟨g, 0, rfl, r2.cs (Nat.mul_le_mul_right _ h2)⟩, ⟨r3.1, r3.2.1, r3.2.2.1, r3.2.2.2.1, fun i hi ho => r3.2.2.2.2 i hi (by omega)⟩⟩
set_option maxHeartbeats 8000000 in
theorem markFrameU_row (b N n c : Nat) (q0 : Int) (w : World) (hn : n ≤ 1048576) (hq : 0 < q0) (hq1 : q0 ≤ 1073741824) (hN : n * 6 ≤ N) (h : RowF w b 103 N 0 (mkFrameQ q0)) :
 Calls Tryz.prog 68 #[.slice (some ⟨b, 0, none⟩) n c, .int .i64 q0] w fun e w' => e = .returned (.int .i64 (q0 + (n : Int) * 6)) ∧ RowF w' b 103 N (n * 6) (mkFrameQ q0) ∧ But b w w' := by
 go_enter Tryz.func68, Tryz.ntmps68
 go_wp2_with fail
 go_loopw [1, 5] (fun q i wr => ∃ (k : Nat) (Q : Int), k ≤ n ∧ i = .int .i64 k ∧ q = .int .i64 Q ∧ Q = q0 + (k : Int) * 6 ∧ RowF wr b 103 N (k * 6) (mkFrameQ q0) ∧ But b w wr) (fun _ i _ => n - (intOf i).toNat)
 case atStart => exact ⟨0, q0, Nat.zero_le _, rfl, rfl, by omega, h.eqm (by omega), But.refl _ _⟩
 case round =>
  obtain ⟨k, Q, hk, rfl, rfl, hQ, row, hB⟩ := hrel
  clear h
  have HQ : Hid (Q = q0 + (k : Int) * 6) := hQ
  by_cases hlt : k < n
  ·have hli : (k : Int) < (n : Int) := by omega
   have Q0 : 0 < Q := by omega
   have Q1 : Q ≤ 1073741824 + 1048576 * 6 := by omega
   clear hQ
   have hlr := row.lt
   obtain ⟨⟨v0, e0⟩, f0⟩ := row.facts (k * 6) (by omega)
   obtain ⟨⟨v1, e1⟩, f1⟩ := row.facts (k * 6 + 1) (by omega)
   obtain ⟨⟨v2, e2⟩, f2⟩ := row.facts (k * 6 + 2) (by omega)
   obtain ⟨⟨v3, e3⟩, f3⟩ := row.facts (k * 6 + 3) (by omega)
   obtain ⟨⟨v4, e4⟩, f4⟩ := row.facts (k * 6 + 4) (by omega)
   obtain ⟨⟨v5, e5⟩, f5⟩ := row.facts (k * 6 + 5) (by omega)
   go_wp2_with fail
   refine (markText_any _ _ (by omega) (by omega)).mono ?_
   rintro e w' ⟨rfl, hb⟩
   have row' := RowF.below' hb (RowF.put (RowF.put (RowF.put (RowF.put (RowF.put row (k * 6 + 1) (by omega) (mkFrameQ_i (k := k) (j := 0) (by decide) (by decide) (by have := HQ.out; omega))) (k * 6 + 2) (by omega) (mkFrameQ_i (k := k) (j := 1) (by decide) (by decide) (by have := HQ.out; omega))) (k * 6 + 3) (by omega) (mkFrameQ_i (k := k) (j := 2) (by decide) (by decide) (by have := HQ.out; omega))) (k * 6 + 4) (by omega) (mkFrameQ_i (k := k) (j := 3) (by decide) (by decide) (by have := HQ.out; omega))) (k * 6 + 5) (by omega) (mkFrameQ_i (k := k) (j := 4) (by decide) (by decide) (by have := HQ.out; omega)))
   have hB' : But b w w' := But.trans (((((hB.setCell _ _).setCell _ _).setCell _ _).setCell _ _).setCell _ _) (But.of_below hb)
   clear e0 f0 e1 f1 e2 f2 e3 f3 e4 f4 e5 f5 hb row hB hlr
   have row := row'
   have hB := hB'
   clear row' hB'
   have hlr := row.lt
   obtain ⟨⟨v0, e0⟩, f0⟩ := row.facts (k * 6) (by omega)
   obtain ⟨⟨v1, e1⟩, f1⟩ := row.facts (k * 6 + 1) (by omega)
   obtain ⟨⟨v2, e2⟩, f2⟩ := row.facts (k * 6 + 2) (by omega)
   obtain ⟨⟨v3, e3⟩, f3⟩ := row.facts (k * 6 + 3) (by omega)
   obtain ⟨⟨v4, e4⟩, f4⟩ := row.facts (k * 6 + 4) (by omega)
   obtain ⟨⟨v5, e5⟩, f5⟩ := row.facts (k * 6 + 5) (by omega)
   go_wp2_with fail
   go_roundw
   case rel => exact ⟨k + 1, _, by omega, by go_num, rfl, by have := HQ.out; omega, (RowF.put row ((k + 1) * 6) (by omega) (mkFrameQ_s (k := k) (j := 5) (by decide) (by decide) (by have := HQ.out; omega))), (hB.setCell _ _)⟩
   case measure => simp [intOf]; omega
  ·have hkn : k = n := by omega
   subst hkn
   have hli : ¬ (k : Int) < (k : Int) := by omega
   subst hQ
   go_wp2_with fail
   go_ret
   exact ⟨rfl, row, hB⟩
theorem markFrame_O (n c lo hi : Nat) (a : Option Addr) (F : Nat → Value) (q0 : Int) (w : World) (hn : n ≤ 1048576) (hq : 0 < q0) (hq1 : q0 ≤ 1073741824) (h : Rwo w lo hi 103 6 a n c F) :
 Calls Tryz.prog 68 #[.slice a n c, .int .i64 q0] w fun e w' => e = .returned (.int .i64 (q0 + (n : Int) * 6)) ∧ SrcC w' a (n * 6) (mkFrameQ q0) ∧ Btw lo hi w w' := by
 have hlt := fun g hg => h.lt (g := g) hg
 rcases h.1.2 with ⟨he, h0⟩ | ⟨g, cap, cur, he, _⟩
 ·simp at he
  obtain ⟨rfl, rfl, rfl⟩ := he
  exact (markFrameS_zeroQ none 0 q0 w).mono fun e w' ⟨h1, h2⟩ => ⟨by rw [h1]; simp, .inl (by omega), h2 ▸ Btw.ofBelow (Below.refl _ _)⟩
 ·simp at he
  obtain ⟨rfl, rfl⟩ := he
  have hg := hlt g rfl
  obtain ⟨h1, h2, _, h3⟩ := ownF_row (mkFrameQ q0) h.1
  exact (markFrameU_row g (c * 6) n c q0 w hn hq hq1 (Nat.mul_le_mul_right _ h2) h3).mono fun e w' ⟨r1, r2, r3⟩ => ⟨by rw [r1], .inr ⟨g, 0, rfl, r2.cs (Nat.mul_le_mul_right _ h2)⟩, ⟨r3.1, r3.2.1, r3.2.2.1, r3.2.2.2.1, fun i hi ho => r3.2.2.2.2 i hi (by omega)⟩⟩
set_option maxHeartbeats 2000000 in
theorem markNet_O (nx : Int) (n c lo hi : Nat) (a : Option Addr) (F : Nat → Value) (q0 : Int) (w : World) (hn : n ≤ 1048576) (hq : 0 < q0) (hq1 : q0 ≤ 1073741824) (h : Rwo w lo hi 101 5 a n c F) :
 Calls Tryz.prog 67 #[.agg #[.int .i64 nx, .slice a n c], .int .i64 q0] w fun e w' => e = .returned (.int .i64 (q0 + (n : Int) * 5)) ∧ SrcC w' a (n * 5) (mkFlightQ q0) ∧ Btw lo hi w w' := by
 have A0 := Below.nw w (.cells #[.int .i64 nx, .slice a n c] 49)
 have C := markFlight_O n c lo hi a F q0 _ hn hq hq1 (h.below A0)
 clear h
 go_enter Tryz.func67, Tryz.ntmps67
 go_wp2_with fail
 refine C.mono ?_
 rintro e w1 ⟨rfl, R1, hb⟩
 go_wp2_with fail
 go_ret
 exact ⟨rfl, R1, (Btw.ofBelow A0).trans hb⟩
def MkR (w : World) (g n k : Nat) (AM : Nat → Array Value) (s10 s11 s14 : Value) : Prop := ∃ A, Bo w g A ∧ A.size = n * 16 ∧ (∀ i, k < i → i < n → ∀ j u, (AM i)[j]? = some u → j < 16 → A[i * 16 + j]? = some u) ∧ A[k * 16 + 10]? = some s10 ∧ A[k * 16 + 11]? = some s11 ∧ A[k * 16 + 14]? = some s14
theorem MkR.run {P : Program} {w : World} {g n k : Nat} {AM : Nat → Array Value} {s10 s11 s14 : Value} (h : MkR w g n k AM s10 s11 s14) (hk : k < n) (j : Nat) (hj : j < 16) (u : Value) (hu : u.oneCell' = true) : (storeCells ⟨g, k * 16 + j, none⟩ [u] 0).run P w = .ok () (putA w g (k * 16 + j) [u]) := by
 obtain ⟨A, h1, h2, _⟩ := h
 exact Bo.store (P := P) (b := k * 16 + j) [u] (k * 16 + j) 0 h1 rfl (by rw [h2]; simp; omega) (List.forall_mem_cons.2 ⟨hu, fun _ h => nomatch h⟩)
theorem MkR.put {w : World} {g n k : Nat} {AM : Nat → Array Value} {s10 s11 s14 : Value} (h : MkR w g n k AM s10 s11 s14) (hk : k < n) (j : Nat) (hj : j < 16 ∧ j ≠ 10 ∧ j ≠ 11 ∧ j ≠ 14) (u : Value) : MkR (putA w g (k * 16 + j) [u]) g n k AM s10 s11 s14 := by
 obtain ⟨A, h1, h2, h3, h4, h5, h6⟩ := h
 have hz : k * 16 + j + [u].length ≤ A.size := by rw [h2]; simp; omega
 refine ⟨spl A (k * 16 + j) [u], Bo.put [u] (k * 16 + j) h1, by rw [spl_size, h2], fun i hi hn x v hx hx16 => ?_, ?_, ?_, ?_⟩
 ·rw [spl_get _ _ _ _ hz, if_neg (by simp; omega)]
  exact h3 i hi hn x v hx hx16
 ·rw [spl_get _ _ _ _ hz, if_neg (by simp; omega)]; exact h4
 ·rw [spl_get _ _ _ _ hz, if_neg (by simp; omega)]; exact h5
 ·rw [spl_get _ _ _ _ hz, if_neg (by simp; omega)]; exact h6
theorem MkR.btw {w w' : World} {g n k lo hi : Nat} {AM : Nat → Array Value} {s10 s11 s14 : Value} (h : MkR w g n k AM s10 s11 s14) (hb : Btw lo hi w w') (ho : g < lo ∨ hi ≤ g) : MkR w' g n k AM s10 s11 s14 := by
 obtain ⟨A, h1, h2⟩ := h
 exact ⟨A, h1.btw hb ho, h2⟩
theorem MkR.c10 {w : World} {g n k : Nat} {AM : Nat → Array Value} {s10 s11 s14 : Value} (h : MkR w g n k AM s10 s11 s14) : w.cell? ⟨g, k * 16 + 10, none⟩ = some s10 := by
 obtain ⟨A, h1, _, _, h4, _⟩ := h
 exact h1.cell h4
theorem MkR.c11 {w : World} {g n k : Nat} {AM : Nat → Array Value} {s10 s11 s14 : Value} (h : MkR w g n k AM s10 s11 s14) : w.cell? ⟨g, k * 16 + 11, none⟩ = some s11 := by
 obtain ⟨A, h1, _, _, _, h5, _⟩ := h
 exact h1.cell h5
theorem MkR.c14 {w : World} {g n k : Nat} {AM : Nat → Array Value} {s10 s11 s14 : Value} (h : MkR w g n k AM s10 s11 s14) : w.cell? ⟨g, k * 16 + 14, none⟩ = some s14 := by
 obtain ⟨A, h1, _, _, _, _, h6⟩ := h
 exact h1.cell h6
def MkB (w : World) (g n k : Nat) (AM : Nat → Array Value) : Prop := ∃ A, Bo w g A ∧ A.size = n * 16 ∧ ∀ i, k ≤ i → i < n → ∀ j u, (AM i)[j]? = some u → j < 16 → A[i * 16 + j]? = some u
theorem MkB.open {w : World} {g n k : Nat} {AM : Nat → Array Value} (h : MkB w g n k AM) (hk : k < n) {s10 s11 s14 : Value} (e10 : (AM k)[10]? = some s10) (e11 : (AM k)[11]? = some s11) (e14 : (AM k)[14]? = some s14) : MkR w g n k AM s10 s11 s14 := by
 obtain ⟨A, h1, h2, h3⟩ := h
 exact ⟨A, h1, h2, fun i hi hn j u hj h16 => h3 i (by omega) hn j u hj h16, h3 k (Nat.le_refl _) hk 10 _ e10 (by decide), h3 k (Nat.le_refl _) hk 11 _ e11 (by decide), h3 k (Nat.le_refl _) hk 14 _ e14 (by decide)⟩
theorem MkR.shut {w : World} {g n k : Nat} {AM : Nat → Array Value} {s10 s11 s14 : Value} (h : MkR w g n k AM s10 s11 s14) : MkB w g n (k + 1) AM := by
 obtain ⟨A, h1, h2, h3, _⟩ := h
 exact ⟨A, h1, h2, fun i hi hn j u hj h16 => h3 i (by omega) hn j u hj h16⟩
theorem Btw.wide {lo hi lo' hi' : Nat} {w w' : World} (h : Btw lo hi w w') (hl : lo' ≤ lo) (hu : hi ≤ hi') : Btw lo' hi' w w' :=
 ⟨h.1, h.2.1, h.2.2.1, h.2.2.2.1, fun i hi2 ho => h.2.2.2.2 i hi2 (by omega)⟩
theorem Btw.refl (lo hi : Nat) (w : World) : Btw lo hi w w := ⟨rfl, rfl, rfl, Nat.le_refl _, fun _ _ _ => rfl⟩
def LkN (w : World) (l : Nat → Nat) (k n : Nat) (AM : Nat → Array Value) (XM : Nat → NdX) : Prop := ∀ i, k < i → i < n → l i ≤ l (i + 1) ∧ l (k + 1) ≤ l i ∧ NdO w (l i) (l (i + 1)) (AM i) (XM i)
theorem LkN.btwL {w w' : World} {l : Nat → Nat} {k n lo hi : Nat} {AM : Nat → Array Value} {XM : Nat → NdX} (h : LkN w l k n AM XM) (hb : Btw lo hi w w') (ho : hi ≤ l (k + 1) ∨ hi ≤ l (k + 1)) : LkN w' l k n AM XM :=
 fun i hk hn => ⟨(h i hk hn).1, (h i hk hn).2.1, (h i hk hn).2.2.btw hb (.inr (by have := (h i hk hn).2.1; omega))⟩
attribute [-go_sem] loadCells storeCells in
set_option maxRecDepth 100000 in
set_option maxHeartbeats 8000000 in
theorem markNodeU (g u n c : Nat) (XM : Nat → NdX) (q0 : Int) (w : World) (hn : n ≤ 1048576) (hsm : smN XM n ≤ 1048576) (hq : 0 < q0) (hq1 : q0 ≤ 16777216) (h : NvU w g u n n XM) :
 Calls Tryz.prog 66 #[.slice (some ⟨g, 0, none⟩) n c, .int .i64 q0] w fun e w' => ∃ Q : Int, e = .returned (.int .i64 Q) ∧ (0 < Q ∧ Q ≤ q0 + (n : Int) * 13 + (smN XM n : Int) * 5) ∧ Btw g u w w' := by
 obtain ⟨A, AM, l, h1, h2, h3, h5, h6, h7, h4⟩ := h
 have MB0 : MkB w g n 0 AM := ⟨A, h1, h2, fun i _ hi j u hj _ => h3 i hi j u hj⟩
 have HL : Hid ((∀ i, i < n → l i ≤ l (i + 1)) ∧ l n ≤ u ∧ g + 1 ≤ l 0) := ⟨h6, h7, h5⟩
 have HA : Hid (∀ i, i < n → NdO w (l i) (l (i + 1)) (AM i) (XM i)) := h4
 have HS : Hid (∀ i, i < n → smN XM (i + 1) = smN XM i + ((XM i).na + (XM i).np + (XM i).nh) ∧ smN XM (i + 1) ≤ 1048576) := fun i hi => ⟨rfl, Nat.le_trans (smN_le XM hi) hsm⟩
 clear h1 h2 h3 h5 h6 h7 h4
 go_enter Tryz.func66, Tryz.ntmps66
 go_wp2_with fail
 go_loopw [1, 5] (fun q i wr => ∃ (k : Nat) (Q : Int), k ≤ n ∧ i = .int .i64 k ∧ q = .int .i64 Q ∧ 0 < Q ∧ Q ≤ q0 + (k : Int) * 13 + (smN XM k : Int) * 5 ∧ MkB wr g n k AM ∧ (∀ i, k ≤ i → i < n → NdO wr (l i) (l (i + 1)) (AM i) (XM i)) ∧ Btw g u w wr) (fun _ i _ => n - (intOf i).toNat)
 case atStart => exact ⟨0, q0, Nat.zero_le _, rfl, rfl, hq, by show q0 ≤ q0 + ((0 : Nat) : Int) * 13 + ((0 : Nat) : Int) * 5; omega, MB0, fun i _ hi => HA.out i hi, Btw.refl _ _ _⟩
 case round =>
  clear MB0
  obtain ⟨k, Q0, hk, rfl, rfl, Qp0, Qm, MB, LA, T0⟩ := hrel
  by_cases hlt : k < n
  ·have hli : (k : Int) < (n : Int) := by omega
   obtain ⟨hs1, hs2⟩ := HS.out k hlt
   obtain ⟨hl1, hl2, hl3⟩ := HL.out
   have hlk := hl1 k hlt
   have hl0 : l 0 ≤ l k := l_low (fun i hi => hl1 i (by omega))
   have hlu : l (k + 1) ≤ l n := l_up (i := k + 1) hl1 hlt
   have LK : LkN wr l k n AM XM := fun i hi hn => ⟨hl1 i hn, by
    have q : ∀ d, k + 1 + d ≤ n → l (k + 1) ≤ l (k + 1 + d) := fun d => by
     induction d with
     | zero => exact fun _ => Nat.le_refl _
     | succ d ih => exact fun hd => Nat.le_trans (ih (by omega)) (hl1 _ (by omega))
    have q2 := q (i - (k + 1)) (by omega)
    rw [show k + 1 + (i - (k + 1)) = i by omega] at q2
    exact q2, LA i (by omega) hn⟩
   obtain ⟨aa, ac, pa, pc, ha, hc, hAk, hbd, p1, p2, p3⟩ := LA k (Nat.le_refl _) hlt
   have MR : MkR wr g n k AM (.slice aa (XM k).na ac) (.slice pa (XM k).np pc) (.slice ha (XM k).nh hc) := MB.open hlt (by rw [hAk]; rfl) (by rw [hAk]; rfl) (by rw [hAk]; rfl)
   have n21 := p2.ne p1 (by decide)
   have n31 := p3.ne p1 (by decide)
   have n32 := p3.ne p2 (by decide)
   have HX : Hid (smN XM (k + 1) = smN XM k + ((XM k).na + (XM k).np + (XM k).nh)) := hs1
   have hna := hbd.1
   have hnp := hbd.2.1
   have hnh := hbd.2.2
   have hsk : smN XM k ≤ 1048576 := by omega
   have HQM : Hid (Q0 ≤ q0 + (k : Int) * 13 + (smN XM k : Int) * 5) := Qm
   have Qb : Q0 ≤ 16777216 + 1048576 * 13 + 1048576 * 5 := by omega
   clear MB LA hAk hbd hl1 hs1 hs2 hsk Qm
   have hst : (storeCells ⟨g, k * 16, none⟩ [.int .i64 Q0] 0).run Tryz.prog wr = .ok () (putA wr g (k * 16) [.int .i64 Q0]) := MR.run (P := Tryz.prog) hlt 0 (by decide) (.int .i64 Q0) rfl
   have M2 : MkR (putA wr g (k * 16) [.int .i64 Q0]) g n k AM (.slice aa (XM k).na ac) (.slice pa (XM k).np pc) (.slice ha (XM k).nh hc) := MR.put hlt 0 (by decide) (.int .i64 Q0)
   have hb : Btw g (g + 1) wr (putA wr g (k * 16) [.int .i64 Q0]) := putA_btw [.int .i64 Q0] wr (k * 16) g
   go_upto_region 6 with (rw [hst])
   clear hst MR
   have MR := M2
   clear M2
   replace p1 := p1.btw hb (.inr (by omega))
   replace p2 := p2.btw hb (.inr (by omega))
   replace p3 := p3.btw hb (.inr (by omega))
   replace LK := LK.btwL hb (.inr (by omega))
   replace T0 := T0.trans (hb.wide (Nat.le_refl _) (by omega))
   clear hb
   generalize putA wr g (k * 16) [.int .i64 Q0] = u0 at *
   obtain ⟨Q1, hQe⟩ : ∃ z : Int, Q0 + 1 = z := ⟨_, rfl⟩
   simp only [hQe]
   have Qp1 : 0 < Q1 ∧ Q1 ≤ Q0 + 1 := by omega
   clear hQe
   have hst : (storeCells ⟨g, k * 16 + 1, none⟩ [.int .i64 Q1] 0).run Tryz.prog u0 = .ok () (putA u0 g (k * 16 + 1) [.int .i64 Q1]) := MR.run (P := Tryz.prog) hlt 1 (by decide) (.int .i64 Q1) rfl
   have M2 : MkR (putA u0 g (k * 16 + 1) [.int .i64 Q1]) g n k AM (.slice aa (XM k).na ac) (.slice pa (XM k).np pc) (.slice ha (XM k).nh hc) := MR.put hlt 1 (by decide) (.int .i64 Q1)
   have hb : Btw g (g + 1) u0 (putA u0 g (k * 16 + 1) [.int .i64 Q1]) := putA_btw [.int .i64 Q1] u0 (k * 16 + 1) g
   go_upto_region 8 with (rw [hst])
   clear hst MR
   have MR := M2
   clear M2
   replace p1 := p1.btw hb (.inr (by omega))
   replace p2 := p2.btw hb (.inr (by omega))
   replace p3 := p3.btw hb (.inr (by omega))
   replace LK := LK.btwL hb (.inr (by omega))
   replace T0 := T0.trans (hb.wide (Nat.le_refl _) (by omega))
   clear hb
   generalize putA u0 g (k * 16 + 1) [.int .i64 Q1] = u1 at *
   obtain ⟨Q2, hQe⟩ : ∃ z : Int, Q1 + 1 = z := ⟨_, rfl⟩
   simp only [hQe]
   have Qp2 : 0 < Q2 ∧ Q2 ≤ Q1 + 1 := by omega
   clear hQe
   have hst : (storeCells ⟨g, k * 16 + 2, none⟩ [.int .i64 Q2] 0).run Tryz.prog u1 = .ok () (putA u1 g (k * 16 + 2) [.int .i64 Q2]) := MR.run (P := Tryz.prog) hlt 2 (by decide) (.int .i64 Q2) rfl
   have M2 : MkR (putA u1 g (k * 16 + 2) [.int .i64 Q2]) g n k AM (.slice aa (XM k).na ac) (.slice pa (XM k).np pc) (.slice ha (XM k).nh hc) := MR.put hlt 2 (by decide) (.int .i64 Q2)
   have hb : Btw g (g + 1) u1 (putA u1 g (k * 16 + 2) [.int .i64 Q2]) := putA_btw [.int .i64 Q2] u1 (k * 16 + 2) g
   go_upto_region 10 with (rw [hst])
   clear hst MR
   have MR := M2
   clear M2
   replace p1 := p1.btw hb (.inr (by omega))
   replace p2 := p2.btw hb (.inr (by omega))
   replace p3 := p3.btw hb (.inr (by omega))
   replace LK := LK.btwL hb (.inr (by omega))
   replace T0 := T0.trans (hb.wide (Nat.le_refl _) (by omega))
   clear hb
   generalize putA u1 g (k * 16 + 2) [.int .i64 Q2] = u2 at *
   obtain ⟨Q3, hQe⟩ : ∃ z : Int, Q2 + 1 = z := ⟨_, rfl⟩
   simp only [hQe]
   have Qp3 : 0 < Q3 ∧ Q3 ≤ Q2 + 1 := by omega
   clear hQe
   have hst : (storeCells ⟨g, k * 16 + 3, none⟩ [.int .i64 Q3] 0).run Tryz.prog u2 = .ok () (putA u2 g (k * 16 + 3) [.int .i64 Q3]) := MR.run (P := Tryz.prog) hlt 3 (by decide) (.int .i64 Q3) rfl
   have M2 : MkR (putA u2 g (k * 16 + 3) [.int .i64 Q3]) g n k AM (.slice aa (XM k).na ac) (.slice pa (XM k).np pc) (.slice ha (XM k).nh hc) := MR.put hlt 3 (by decide) (.int .i64 Q3)
   have hb : Btw g (g + 1) u2 (putA u2 g (k * 16 + 3) [.int .i64 Q3]) := putA_btw [.int .i64 Q3] u2 (k * 16 + 3) g
   go_upto_region 12 with (rw [hst])
   clear hst MR
   have MR := M2
   clear M2
   replace p1 := p1.btw hb (.inr (by omega))
   replace p2 := p2.btw hb (.inr (by omega))
   replace p3 := p3.btw hb (.inr (by omega))
   replace LK := LK.btwL hb (.inr (by omega))
   replace T0 := T0.trans (hb.wide (Nat.le_refl _) (by omega))
   clear hb
   generalize putA u2 g (k * 16 + 3) [.int .i64 Q3] = u3 at *
   obtain ⟨Q4, hQe⟩ : ∃ z : Int, Q3 + 1 = z := ⟨_, rfl⟩
   simp only [hQe]
   have Qp4 : 0 < Q4 ∧ Q4 ≤ Q3 + 1 := by omega
   clear hQe
   have hst : (storeCells ⟨g, k * 16 + 4, none⟩ [.bool (Q4 % 3 == 0)] 0).run Tryz.prog u3 = .ok () (putA u3 g (k * 16 + 4) [.bool (Q4 % 3 == 0)]) := MR.run (P := Tryz.prog) hlt 4 (by decide) (.bool (Q4 % 3 == 0)) rfl
   have M2 : MkR (putA u3 g (k * 16 + 4) [.bool (Q4 % 3 == 0)]) g n k AM (.slice aa (XM k).na ac) (.slice pa (XM k).np pc) (.slice ha (XM k).nh hc) := MR.put hlt 4 (by decide) (.bool (Q4 % 3 == 0))
   have hb : Btw g (g + 1) u3 (putA u3 g (k * 16 + 4) [.bool (Q4 % 3 == 0)]) := putA_btw [.bool (Q4 % 3 == 0)] u3 (k * 16 + 4) g
   go_upto_region 14 with (rw [hst])
   clear hst MR
   have MR := M2
   clear M2
   replace p1 := p1.btw hb (.inr (by omega))
   replace p2 := p2.btw hb (.inr (by omega))
   replace p3 := p3.btw hb (.inr (by omega))
   replace LK := LK.btwL hb (.inr (by omega))
   replace T0 := T0.trans (hb.wide (Nat.le_refl _) (by omega))
   clear hb
   generalize putA u3 g (k * 16 + 4) [.bool (Q4 % 3 == 0)] = u4 at *
   obtain ⟨Q5, hQe⟩ : ∃ z : Int, Q4 + 1 = z := ⟨_, rfl⟩
   simp only [hQe]
   have Qp5 : 0 < Q5 ∧ Q5 ≤ Q4 + 1 := by omega
   clear hQe
   have hst : (storeCells ⟨g, k * 16 + 5, none⟩ [.int .i64 Q5] 0).run Tryz.prog u4 = .ok () (putA u4 g (k * 16 + 5) [.int .i64 Q5]) := MR.run (P := Tryz.prog) hlt 5 (by decide) (.int .i64 Q5) rfl
   have M2 : MkR (putA u4 g (k * 16 + 5) [.int .i64 Q5]) g n k AM (.slice aa (XM k).na ac) (.slice pa (XM k).np pc) (.slice ha (XM k).nh hc) := MR.put hlt 5 (by decide) (.int .i64 Q5)
   have hb : Btw g (g + 1) u4 (putA u4 g (k * 16 + 5) [.int .i64 Q5]) := putA_btw [.int .i64 Q5] u4 (k * 16 + 5) g
   go_upto_region 16 with (rw [hst])
   clear hst MR
   have MR := M2
   clear M2
   replace p1 := p1.btw hb (.inr (by omega))
   replace p2 := p2.btw hb (.inr (by omega))
   replace p3 := p3.btw hb (.inr (by omega))
   replace LK := LK.btwL hb (.inr (by omega))
   replace T0 := T0.trans (hb.wide (Nat.le_refl _) (by omega))
   clear hb
   generalize putA u4 g (k * 16 + 5) [.int .i64 Q5] = u5 at *
   obtain ⟨Q6, hQe⟩ : ∃ z : Int, Q5 + 1 = z := ⟨_, rfl⟩
   simp only [hQe]
   have Qp6 : 0 < Q6 ∧ Q6 ≤ Q5 + 1 := by omega
   clear hQe
   have hst : (storeCells ⟨g, k * 16 + 6, none⟩ [.int .i64 Q6] 0).run Tryz.prog u5 = .ok () (putA u5 g (k * 16 + 6) [.int .i64 Q6]) := MR.run (P := Tryz.prog) hlt 6 (by decide) (.int .i64 Q6) rfl
   have M2 : MkR (putA u5 g (k * 16 + 6) [.int .i64 Q6]) g n k AM (.slice aa (XM k).na ac) (.slice pa (XM k).np pc) (.slice ha (XM k).nh hc) := MR.put hlt 6 (by decide) (.int .i64 Q6)
   have hb : Btw g (g + 1) u5 (putA u5 g (k * 16 + 6) [.int .i64 Q6]) := putA_btw [.int .i64 Q6] u5 (k * 16 + 6) g
   go_upto_region 18 with (rw [hst])
   clear hst MR
   have MR := M2
   clear M2
   replace p1 := p1.btw hb (.inr (by omega))
   replace p2 := p2.btw hb (.inr (by omega))
   replace p3 := p3.btw hb (.inr (by omega))
   replace LK := LK.btwL hb (.inr (by omega))
   replace T0 := T0.trans (hb.wide (Nat.le_refl _) (by omega))
   clear hb
   generalize putA u5 g (k * 16 + 6) [.int .i64 Q6] = u6 at *
   obtain ⟨Q7, hQe⟩ : ∃ z : Int, Q6 + 1 = z := ⟨_, rfl⟩
   simp only [hQe]
   have Qp7 : 0 < Q7 ∧ Q7 ≤ Q6 + 1 := by omega
   clear hQe
   have hst : (storeCells ⟨g, k * 16 + 7, none⟩ [.int .i64 Q7] 0).run Tryz.prog u6 = .ok () (putA u6 g (k * 16 + 7) [.int .i64 Q7]) := MR.run (P := Tryz.prog) hlt 7 (by decide) (.int .i64 Q7) rfl
   have M2 : MkR (putA u6 g (k * 16 + 7) [.int .i64 Q7]) g n k AM (.slice aa (XM k).na ac) (.slice pa (XM k).np pc) (.slice ha (XM k).nh hc) := MR.put hlt 7 (by decide) (.int .i64 Q7)
   have hb : Btw g (g + 1) u6 (putA u6 g (k * 16 + 7) [.int .i64 Q7]) := putA_btw [.int .i64 Q7] u6 (k * 16 + 7) g
   go_upto_region 20 with (rw [hst])
   clear hst MR
   have MR := M2
   clear M2
   replace p1 := p1.btw hb (.inr (by omega))
   replace p2 := p2.btw hb (.inr (by omega))
   replace p3 := p3.btw hb (.inr (by omega))
   replace LK := LK.btwL hb (.inr (by omega))
   replace T0 := T0.trans (hb.wide (Nat.le_refl _) (by omega))
   clear hb
   generalize putA u6 g (k * 16 + 7) [.int .i64 Q7] = u7 at *
   obtain ⟨Q8, hQe⟩ : ∃ z : Int, Q7 + 1 = z := ⟨_, rfl⟩
   simp only [hQe]
   have Qp8 : 0 < Q8 ∧ Q8 ≤ Q7 + 1 := by omega
   clear hQe
   have hst : (storeCells ⟨g, k * 16 + 8, none⟩ [.int .i64 Q8] 0).run Tryz.prog u7 = .ok () (putA u7 g (k * 16 + 8) [.int .i64 Q8]) := MR.run (P := Tryz.prog) hlt 8 (by decide) (.int .i64 Q8) rfl
   have M2 : MkR (putA u7 g (k * 16 + 8) [.int .i64 Q8]) g n k AM (.slice aa (XM k).na ac) (.slice pa (XM k).np pc) (.slice ha (XM k).nh hc) := MR.put hlt 8 (by decide) (.int .i64 Q8)
   have hb : Btw g (g + 1) u7 (putA u7 g (k * 16 + 8) [.int .i64 Q8]) := putA_btw [.int .i64 Q8] u7 (k * 16 + 8) g
   go_upto_region 22 with (rw [hst])
   clear hst MR
   have MR := M2
   clear M2
   replace p1 := p1.btw hb (.inr (by omega))
   replace p2 := p2.btw hb (.inr (by omega))
   replace p3 := p3.btw hb (.inr (by omega))
   replace LK := LK.btwL hb (.inr (by omega))
   replace T0 := T0.trans (hb.wide (Nat.le_refl _) (by omega))
   clear hb
   generalize putA u7 g (k * 16 + 8) [.int .i64 Q8] = u8 at *
   obtain ⟨Q9, hQe⟩ : ∃ z : Int, Q8 + 1 = z := ⟨_, rfl⟩
   simp only [hQe]
   have Qp9 : 0 < Q9 ∧ Q9 ≤ Q8 + 1 := by omega
   clear hQe
   have hst : (storeCells ⟨g, k * 16 + 9, none⟩ [.int .i64 Q9] 0).run Tryz.prog u8 = .ok () (putA u8 g (k * 16 + 9) [.int .i64 Q9]) := MR.run (P := Tryz.prog) hlt 9 (by decide) (.int .i64 Q9) rfl
   have M2 : MkR (putA u8 g (k * 16 + 9) [.int .i64 Q9]) g n k AM (.slice aa (XM k).na ac) (.slice pa (XM k).np pc) (.slice ha (XM k).nh hc) := MR.put hlt 9 (by decide) (.int .i64 Q9)
   have hb : Btw g (g + 1) u8 (putA u8 g (k * 16 + 9) [.int .i64 Q9]) := putA_btw [.int .i64 Q9] u8 (k * 16 + 9) g
   go_upto_region 24 with (rw [hst])
   clear hst MR
   have MR := M2
   clear M2
   replace p1 := p1.btw hb (.inr (by omega))
   replace p2 := p2.btw hb (.inr (by omega))
   replace p3 := p3.btw hb (.inr (by omega))
   replace LK := LK.btwL hb (.inr (by omega))
   replace T0 := T0.trans (hb.wide (Nat.le_refl _) (by omega))
   clear hb
   generalize putA u8 g (k * 16 + 9) [.int .i64 Q9] = u9 at *
   obtain ⟨Q10, hQe⟩ : ∃ z : Int, Q9 + 1 = z := ⟨_, rfl⟩
   simp only [hQe]
   have Qp10 : 0 < Q10 ∧ Q10 ≤ Q9 + 1 := by omega
   clear hQe
   have hc10 : u9.cell? ⟨g, k * 16 + 10, none⟩ = some (.slice aa (XM k).na ac) := MR.c10
   go_wp2_with fail
   refine (markAskS_ownZ aa (XM k).na ac (l k) Q10 _ u9 (by omega) (by omega) (by omega) p1.1).mono ?_
   rintro e u10 ⟨rfl, -, hg⟩
   have hb : Btw (l k) (l (k + 1)) u9 u10 := Btw.ofGrown hg fun g' e => ⟨(p1.lt e).1, (p1.lt e).2.1⟩
   replace p2 := p2.kept hg n21
   replace p3 := p3.kept hg n31
   replace LK := LK.btwL hb (.inl (Nat.le_refl _))
   replace MR := MR.btw hb (.inl (by omega))
   replace T0 := T0.trans (hb.wide (by omega) (by omega))
   clear hb hg hc10 p1
   go_upto_region 25 with fail
   obtain ⟨Q11, hQe⟩ : ∃ z : Int, Q10 + ((XM k).na : Int) * 4 = z := ⟨_, rfl⟩
   simp only [hQe]
   have Qp11 : 0 < Q11 ∧ Q11 ≤ Q10 + ((XM k).na : Int) * 5 := by omega
   clear hQe
   have hc11 : u10.cell? ⟨g, k * 16 + 11, none⟩ = some (.slice pa (XM k).np pc) := MR.c11
   go_wp2_with fail
   refine (markPeerS_own pa (XM k).np pc (l k) Q11 _ u10 (by omega) (by omega) (by omega) p2.1).mono ?_
   rintro e u11 ⟨rfl, -, hg⟩
   have hb : Btw (l k) (l (k + 1)) u10 u11 := Btw.ofGrown hg fun g' e => ⟨(p2.lt e).1, (p2.lt e).2.1⟩
   replace p3 := p3.kept hg n32
   replace LK := LK.btwL hb (.inl (Nat.le_refl _))
   replace MR := MR.btw hb (.inl (by omega))
   replace T0 := T0.trans (hb.wide (by omega) (by omega))
   clear hb hg hc11 p2
   go_upto_region 26 with fail
   obtain ⟨Q12, hQe⟩ : ∃ z : Int, Q11 + ((XM k).np : Int) * 5 = z := ⟨_, rfl⟩
   simp only [hQe]
   have Qp12 : 0 < Q12 ∧ Q12 ≤ Q11 + ((XM k).np : Int) * 5 := by omega
   clear hQe
   have hst : (storeCells ⟨g, k * 16 + 12, none⟩ [.bool (Q12 % 3 == 0)] 0).run Tryz.prog u11 = .ok () (putA u11 g (k * 16 + 12) [.bool (Q12 % 3 == 0)]) := MR.run (P := Tryz.prog) hlt 12 (by decide) (.bool (Q12 % 3 == 0)) rfl
   have M2 : MkR (putA u11 g (k * 16 + 12) [.bool (Q12 % 3 == 0)]) g n k AM (.slice aa (XM k).na ac) (.slice pa (XM k).np pc) (.slice ha (XM k).nh hc) := MR.put hlt 12 (by decide) (.bool (Q12 % 3 == 0))
   have hb : Btw g (g + 1) u11 (putA u11 g (k * 16 + 12) [.bool (Q12 % 3 == 0)]) := putA_btw [.bool (Q12 % 3 == 0)] u11 (k * 16 + 12) g
   go_upto_region 28 with (rw [hst])
   clear hst MR
   have MR := M2
   clear M2
   replace p3 := p3.btw hb (.inr (by omega))
   replace LK := LK.btwL hb (.inr (by omega))
   replace T0 := T0.trans (hb.wide (Nat.le_refl _) (by omega))
   clear hb
   generalize putA u11 g (k * 16 + 12) [.bool (Q12 % 3 == 0)] = u12 at *
   obtain ⟨Q13, hQe⟩ : ∃ z : Int, Q12 + 1 = z := ⟨_, rfl⟩
   simp only [hQe]
   have Qp13 : 0 < Q13 ∧ Q13 ≤ Q12 + 1 := by omega
   clear hQe
   have hst : (storeCells ⟨g, k * 16 + 13, none⟩ [.int .i64 Q13] 0).run Tryz.prog u12 = .ok () (putA u12 g (k * 16 + 13) [.int .i64 Q13]) := MR.run (P := Tryz.prog) hlt 13 (by decide) (.int .i64 Q13) rfl
   have M2 : MkR (putA u12 g (k * 16 + 13) [.int .i64 Q13]) g n k AM (.slice aa (XM k).na ac) (.slice pa (XM k).np pc) (.slice ha (XM k).nh hc) := MR.put hlt 13 (by decide) (.int .i64 Q13)
   have hb : Btw g (g + 1) u12 (putA u12 g (k * 16 + 13) [.int .i64 Q13]) := putA_btw [.int .i64 Q13] u12 (k * 16 + 13) g
   go_upto_region 30 with (rw [hst])
   clear hst MR
   have MR := M2
   clear M2
   replace p3 := p3.btw hb (.inr (by omega))
   replace LK := LK.btwL hb (.inr (by omega))
   replace T0 := T0.trans (hb.wide (Nat.le_refl _) (by omega))
   clear hb
   generalize putA u12 g (k * 16 + 13) [.int .i64 Q13] = u13 at *
   obtain ⟨Q14, hQe⟩ : ∃ z : Int, Q13 + 1 = z := ⟨_, rfl⟩
   simp only [hQe]
   have Qp14 : 0 < Q14 ∧ Q14 ≤ Q13 + 1 := by omega
   clear hQe
   have hc14 : u13.cell? ⟨g, k * 16 + 14, none⟩ = some (.slice ha (XM k).nh hc) := MR.c14
   go_wp2_with fail
   refine (markHeardS_own ha (XM k).nh hc (l k) Q14 _ u13 (by omega) (by omega) (by omega) p3.1).mono ?_
   rintro e u14 ⟨rfl, -, hg⟩
   have hb : Btw (l k) (l (k + 1)) u13 u14 := Btw.ofGrown hg fun g' e => ⟨(p3.lt e).1, (p3.lt e).2.1⟩
   replace LK := LK.btwL hb (.inl (Nat.le_refl _))
   replace MR := MR.btw hb (.inl (by omega))
   replace T0 := T0.trans (hb.wide (by omega) (by omega))
   clear hb hg hc14 p3
   go_upto_region 31 with fail
   obtain ⟨Q15, hQe⟩ : ∃ z : Int, Q14 + ((XM k).nh : Int) * 2 = z := ⟨_, rfl⟩
   simp only [hQe]
   have Qp15 : 0 < Q15 ∧ Q15 ≤ Q14 + ((XM k).nh : Int) * 5 := by omega
   clear hQe
   have hst : (storeCells ⟨g, k * 16 + 15, none⟩ [.int .i64 Q15] 0).run Tryz.prog u14 = .ok () (putA u14 g (k * 16 + 15) [.int .i64 Q15]) := MR.run (P := Tryz.prog) hlt 15 (by decide) (.int .i64 Q15) rfl
   have M2 : MkR (putA u14 g (k * 16 + 15) [.int .i64 Q15]) g n k AM (.slice aa (XM k).na ac) (.slice pa (XM k).np pc) (.slice ha (XM k).nh hc) := MR.put hlt 15 (by decide) (.int .i64 Q15)
   have hb : Btw g (g + 1) u14 (putA u14 g (k * 16 + 15) [.int .i64 Q15]) := putA_btw [.int .i64 Q15] u14 (k * 16 + 15) g
   go_wp2_with (rw [hst])
   clear hst MR
   have MR := M2
   clear M2
   replace LK := LK.btwL hb (.inr (by omega))
   replace T0 := T0.trans (hb.wide (Nat.le_refl _) (by omega))
   clear hb
   generalize putA u14 g (k * 16 + 15) [.int .i64 Q15] = u15 at *
   have HQL : Hid (Q15 + 1 ≤ q0 + ((k + 1 : Nat) : Int) * 13 + (smN XM (k + 1) : Int) * 5) := by (show Q15 + 1 ≤ q0 + ((k + 1 : Nat) : Int) * 13 + (smN XM (k + 1) : Int) * 5; rw [HX.out]; have := HQM.out; omega)
   go_roundw
   case rel => exact ⟨k + 1, _, by omega, by go_num, rfl, by omega, HQL.out, MR.shut, fun i hi hn => (LK i (by omega) hn).2.2, T0⟩
   case measure => simp [intOf]; omega
  ·have hkn : k = n := by omega
   subst hkn
   have hli : ¬ (k : Int) < (k : Int) := by omega
   clear MB LA HA HL HS
   go_wp2_with fail
   go_ret
   exact ⟨Q0, rfl, ⟨Qp0, Qm⟩, T0⟩
attribute [-go_sem] loadCells storeCells in
set_option maxRecDepth 100000 in
set_option maxHeartbeats 8000000 in
theorem markWorldU (A : Array Value) (x : WdX) (l0 hi : Nat) (w : World) (h : WdO w l0 hi A x) :
 Calls Tryz.prog 22 #[.agg A, .int .i64 1] w fun e w' => ∃ Q : Int, e = .returned (.int .i64 Q) ∧ 0 < Q ∧ Btw l0 hi w w' := by
 obtain ⟨p, d, la, ca, na, fa, ba, l1, l2, l3, l4, l5, l6, rfl, ⟨⟨s1, s2, s3, s4, -, s6, s7⟩, s8⟩, hl, P1, P2, P3, P4, P5, P6⟩ := h
 have B := Below.nw w (.cells (wdV x p d (some ⟨la, 0, none⟩) x.nl (some ⟨ca, 0, none⟩) x.nc (some ⟨na, 0, none⟩) x.nn (some ⟨fa, 0, none⟩) x.nf (some ⟨ba, 0, none⟩) x.nb) 52)
 have L := Bo.new w (wdV x p d (some ⟨la, 0, none⟩) x.nl (some ⟨ca, 0, none⟩) x.nc (some ⟨na, 0, none⟩) x.nn (some ⟨fa, 0, none⟩) x.nf (some ⟨ba, 0, none⟩) x.nb) 52
 have hz6 : l6 ≤ hi := by omega
 have hz7 : hi ≤ w.heap.size := by omega
 replace P1 := P1.below B
 replace P2 := P2.below B
 replace P3 := P3.below B
 replace P4 := P4.below B
 replace P5 := P5.below B
 replace P6 := P6.below B
 have T0 : Btw l0 l6 w _ := Btw.ofBelow B
 clear B
 go_enter Tryz.func22, Tryz.ntmps22
 go_upto_region 1 with fail
 generalize w.alloc (.cells (wdV x p d (some ⟨la, 0, none⟩) x.nl (some ⟨ca, 0, none⟩) x.nc (some ⟨na, 0, none⟩) x.nn (some ⟨fa, 0, none⟩) x.nf (some ⟨ba, 0, none⟩) x.nb) 52) = v0 at *
 have hL0 : (loadCells ⟨w.heap.size, 0, none⟩ 11).run Tryz.prog v0 = .ok (cfV x.y p d) v0 := L.loadAt (P := Tryz.prog) 0 11 (show 0 + 11 ≤ 18 by decide)
 go_wp2_with (rw [hL0])
 refine (markCfgX (cfV x.y p d) x.y 1 l0 l1 v0 ⟨p, d, rfl, s1, P1⟩ (by decide) (by decide)).mono ?_
 rintro e v1 ⟨rfl, -, hb⟩
 clear hL0 P1
 replace L := L.btw hb (by omega)
 replace P2 := P2.btw hb (by omega)
 replace P3 := P3.btw hb (by omega)
 replace P4 := P4.btw hb (by omega)
 replace P5 := P5.btw hb (by omega)
 replace P6 := P6.btw hb (by omega)
 replace T0 := T0.trans (hb.wide (by omega) (by omega))
 clear hb
 go_upto_region 2 with fail
 obtain ⟨K1, hKe⟩ : ∃ z : Int, 1 + (x.y.m : Int) * 2 = z := ⟨_, rfl⟩
 simp only [hKe]
 have kq1 : 0 < K1 ∧ K1 ≤ 1 + (x.y.m : Int) * 2 := by omega
 clear hKe
 have hL0 : v1.cell? ⟨w.heap.size, 11, none⟩ = some (.slice (some ⟨la, 0, none⟩) x.nl x.nl) := L.cell rfl
 go_wp2_with fail
 refine (markBool_O x.nl x.nl l1 l2 _ _ K1 v1 s2 (by omega) (by omega) P2).mono ?_
 rintro e v2 ⟨rfl, -, hb⟩
 clear hL0 P2
 replace L := L.btw hb (by omega)
 replace P3 := P3.btw hb (by omega)
 replace P4 := P4.btw hb (by omega)
 replace P5 := P5.btw hb (by omega)
 replace P6 := P6.btw hb (by omega)
 replace T0 := T0.trans (hb.wide (by omega) (by omega))
 clear hb
 go_upto_region 3 with fail
 obtain ⟨K2, hKe⟩ : ∃ z : Int, K1 + (x.nl : Int) = z := ⟨_, rfl⟩
 simp only [hKe]
 have kq2 : 0 < K2 ∧ K2 ≤ K1 + (x.nl : Int) := by omega
 clear hKe
 have hL0 : v2.cell? ⟨w.heap.size, 13, none⟩ = some (.slice (some ⟨ca, 0, none⟩) x.nc x.nc) := L.cell rfl
 go_wp2_with fail
 refine (markInt_O x.nc x.nc l2 l3 _ _ K2 v2 s3 (by omega) (by omega) P3).mono ?_
 rintro e v3 ⟨rfl, -, hb⟩
 clear hL0 P3
 replace L := L.btw hb (by omega)
 replace P4 := P4.btw hb (by omega)
 replace P5 := P5.btw hb (by omega)
 replace P6 := P6.btw hb (by omega)
 replace T0 := T0.trans (hb.wide (by omega) (by omega))
 clear hb
 go_upto_region 4 with fail
 obtain ⟨K3, hKe⟩ : ∃ z : Int, K2 + (x.nc : Int) = z := ⟨_, rfl⟩
 simp only [hKe]
 have kq3 : 0 < K3 ∧ K3 ≤ K2 + (x.nc : Int) := by omega
 clear hKe
 have hL0 : v3.cell? ⟨w.heap.size, 14, none⟩ = some (.slice (some ⟨na, 0, none⟩) x.nn x.nn) := L.cell rfl
 go_wp2_with fail
 refine (markNodeU na l4 x.nn x.nn x.XM K3 v3 s4 s8 (by omega) (by omega) P4).mono ?_
 rintro e v4 ⟨K4, rfl, kq, hb⟩
 clear hL0 P4
 replace L := L.btw hb (by omega)
 replace P5 := P5.btw hb (by omega)
 replace P6 := P6.btw hb (by omega)
 replace T0 := T0.trans (hb.wide (by omega) (by omega))
 clear hb
 have hL0 : (loadCells ⟨w.heap.size, 15, none⟩ 2).run Tryz.prog v4 = .ok #[.int .i64 x.nx, .slice (some ⟨fa, 0, none⟩) x.nf x.nf] v4 := L.loadAt (P := Tryz.prog) 15 2 (show 15 + 2 ≤ 18 by decide)
 go_wp2_with (rw [hL0])
 refine (markNet_O x.nx x.nf x.nf l4 l5 _ _ K4 v4 s6 (by omega) (by omega) P5).mono ?_
 rintro e v5 ⟨rfl, -, hb⟩
 clear hL0 P5
 replace L := L.btw hb (by omega)
 replace P6 := P6.btw hb (by omega)
 replace T0 := T0.trans (hb.wide (by omega) (by omega))
 clear hb
 go_upto_region 6 with fail
 obtain ⟨K5, hKe⟩ : ∃ z : Int, K4 + (x.nf : Int) * 5 = z := ⟨_, rfl⟩
 simp only [hKe]
 have kq5 : 0 < K5 ∧ K5 ≤ K4 + (x.nf : Int) * 5 := by omega
 clear hKe
 have hL0 : v5.cell? ⟨w.heap.size, 17, none⟩ = some (.slice (some ⟨ba, 0, none⟩) x.nb x.nb) := L.cell rfl
 go_wp2_with fail
 refine (markFrame_O x.nb x.nb l5 l6 _ _ K5 v5 s7 (by omega) (by omega) P6).mono ?_
 rintro e v6 ⟨rfl, -, hb⟩
 clear hL0 P6
 replace L := L.btw hb (by omega)
 replace T0 := T0.trans (hb.wide (by omega) (by omega))
 clear hb
 go_upto_region 7 with fail
 obtain ⟨K6, hKe⟩ : ∃ z : Int, K5 + (x.nb : Int) * 6 = z := ⟨_, rfl⟩
 simp only [hKe]
 have kq6 : 0 < K6 ∧ K6 ≤ K5 + (x.nb : Int) * 6 := by omega
 clear hKe
 go_wp2_with fail
 go_ret
 exact ⟨K6, rfl, by omega, T0.wide (Nat.le_refl _) hz6⟩
end Go.Proofs.YtddijpjgkifngaaGreat
