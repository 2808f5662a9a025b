/- The contract of spec.TableOk. Contracts of Waits. -/
import Derived.Deep.DeepCutAuto
import Derived.WalkSmall
import Derived.Test.YtddijpjgkifngaaGreatMN0
import Derived.Test.YtddijpjgkifngaaGreatMN5
namespace Go.Proofs.YtddijpjgkifngaaGreat
open Go.RowKit
set_option linter.unusedVariables false
set_option maxRecDepth 100000
set_option maxHeartbeats 16000000
theorem iu (ep us : Int) (a : Option Addr) (n c : Nat) (M : Nat → KT) (w : World) (h : epB ep = false) :
 Calls Tryz.prog 89 #[.agg #[.int .i64 ep, .int .i64 us, .slice a n c]] w fun e w' => e = .returned (.bool (aw ep us M n)) ∧ Below w.heap.size w w' := by
 have HB : Hid (aw ep us M n = false) := iO h
 have A0 := Below.nw w (.cells #[.int .i64 ep, .int .i64 us, .slice a n c] 92)
 go_enter Tryz.func89, Tryz.ntmps89
 go_wp2_with fail
 refine (al _ _ _ _).mono ?_
 rintro e w' ⟨rfl, rfl⟩
 rw [show decide (0 ≤ ep ∧ ep ≤ 100000) = _ from h]
 go_wp2_with fail
 go_ret
 exact ⟨ab HB.out.symm, A0⟩
theorem iv (ep us : Int) (a : Option Addr) (n c : Nat) (M : Nat → KT) (w : World) (h : epB ep = true) (h1 : usB us = false) :
 Calls Tryz.prog 89 #[.agg #[.int .i64 ep, .int .i64 us, .slice a n c]] w fun e w' => e = .returned (.bool (aw ep us M n)) ∧ Below w.heap.size w w' := by
 have HB : Hid (aw ep us M n = false) := iP h1
 have A0 := Below.nw w (.cells #[.int .i64 ep, .int .i64 us, .slice a n c] 92)
 go_enter Tryz.func89, Tryz.ntmps89
 go_wp2_with fail
 refine (al _ _ _ _).mono ?_
 rintro e w' ⟨rfl, rfl⟩
 rw [show decide (0 ≤ ep ∧ ep ≤ 100000) = _ from h]
 go_wp2_with fail
 refine (al _ _ _ _).mono ?_
 rintro e w' ⟨rfl, rfl⟩
 rw [show decide (0 ≤ us ∧ us ≤ 1000) = _ from h1]
 go_wp2_with fail
 go_ret
 exact ⟨ab HB.out.symm, A0⟩
theorem ft (ep us : Int) (a : Option Addr) (n c : Nat) (M : Nat → KT) (w : World) (hm : n ≤ maxLen) (h : epB ep = true) (h1 : usB us = true) (hl : ¬ n ≤ 16) :
 Calls Tryz.prog 89 #[.agg #[.int .i64 ep, .int .i64 us, .slice a n c]] w fun e w' => e = .returned (.bool (aw ep us M n)) ∧ Below w.heap.size w w' := by
 unfold maxLen at hm
 have HB : Hid (aw ep us M n = false) := eG hl
 have hi : (16 : Int) < (n : Int) := by omega
 have A0 := Below.nw w (.cells #[.int .i64 ep, .int .i64 us, .slice a n c] 92)
 go_enter Tryz.func89, Tryz.ntmps89
 go_wp2_with fail
 refine (al _ _ _ _).mono ?_
 rintro e w' ⟨rfl, rfl⟩
 rw [show decide (0 ≤ ep ∧ ep ≤ 100000) = _ from h]
 go_wp2_with fail
 refine (al _ _ _ _).mono ?_
 rintro e w' ⟨rfl, rfl⟩
 rw [show decide (0 ≤ us ∧ us ≤ 1000) = _ from h1]
 go_wp2_with fail
 go_ret
 exact ⟨ab HB.out.symm, A0⟩
theorem fw (ep us : Int) (a : Option Addr) (c : Nat) (M : Nat → KT) (w : World) (h : epB ep = true) (h1 : usB us = true) :
 Calls Tryz.prog 89 #[.agg #[.int .i64 ep, .int .i64 us, .slice a 0 c]] w fun e w' => e = .returned (.bool (aw ep us M 0)) ∧ Below w.heap.size w w' := by
 have HB : Hid (aw ep us M 0 = true) := dg h h1 (by omega) rfl
 have A0 := Below.nw w (.cells #[.int .i64 ep, .int .i64 us, .slice a 0 c] 92)
 go_enter Tryz.func89, Tryz.ntmps89
 go_wp2_with fail
 refine (al _ _ _ _).mono ?_
 rintro e w' ⟨rfl, rfl⟩
 rw [show decide (0 ≤ ep ∧ ep ≤ 100000) = _ from h]
 go_wp2_with fail
 refine (al _ _ _ _).mono ?_
 rintro e w' ⟨rfl, rfl⟩
 rw [show decide (0 ≤ us ∧ us ≤ 1000) = _ from h1]
 go_wp2_with fail
 go_loopw [3] (fun i wr => i = .int .i64 0 ∧ w.alloc (.cells #[.int .i64 ep, .int .i64 us, .slice a 0 c] 92) = wr) (fun i _ => 0)
 case atStart => exact ⟨rfl, by first | rfl | trivial⟩
 case round =>
  obtain ⟨rfl, rfl⟩ := hrel
  go_wp2_with fail
  go_ret
  exact ⟨ab HB.out.symm, A0⟩
theorem fu (ep us : Int) (b off n c : Nat) (M : Nat → KT) (w : World) (h : epB ep = true) (h1 : usB us = true) (hn : n ≤ 16) (hf : Cs w b off (n * 4) (aA M)) :
 Calls Tryz.prog 89 #[.agg #[.int .i64 ep, .int .i64 us, .slice (some ⟨b, off, none⟩) n c]] w fun e w' => e = .returned (.bool (aw ep us M n)) ∧ Below w.heap.size w w' := by
 have HE : Hid (epB ep = true) := h
 have HU : Hid (usB us = true) := h1
 have hi : ¬ (16 : Int) < (n : Int) := by omega
 have A0 := Below.nw w (.cells #[.int .i64 ep, .int .i64 us, .slice (some ⟨b, off, none⟩) n c] 92)
 have N := IB3.new w ep us (some ⟨b, off, none⟩) n c 92
 have HF := hf.below A0 hf.1
 have hb0 := HF.1
 clear hf
 go_enter Tryz.func89, Tryz.ntmps89
 go_wp2_with fail
 refine (al _ _ _ _).mono ?_
 rintro e w' ⟨rfl, rfl⟩
 rw [show decide (0 ≤ ep ∧ ep ≤ 100000) = _ from h]
 go_wp2_with fail
 refine (al _ _ _ _).mono ?_
 rintro e w' ⟨rfl, rfl⟩
 rw [show decide (0 ≤ us ∧ us ≤ 1000) = _ from h1]
 go_wp2_with fail
 clear h h1 hi
 generalize w.alloc (.cells #[.int .i64 ep, .int .i64 us, .slice (some ⟨b, off, none⟩) n c] 92) = w0 at *
 go_loopw [3] (fun i wr => ∃ k : Nat, k ≤ n ∧ i = .int .i64 k ∧ tOk ep us M k = true ∧ Below w0.heap.size w0 wr) (fun i _ => n - (intOf i).toNat)
 case atStart => exact ⟨0, Nat.zero_le _, rfl, rfl, Below.refl _ _⟩
 case round =>
  obtain ⟨k, hk, rfl, hok, hB⟩ := hrel
  have HOK : Hid (tOk ep us M k = true) := hok
  clear hok
  have hBw := A0.trans (hB.mono A0.size)
  by_cases hlt : k < n
  ·obtain ⟨x0, x1, x2, x3, hM⟩ := bW M k
   obtain ⟨c0, c1, c2, c3⟩ := (HF.below hB hb0).elAsk hlt hM
   obtain ⟨n9, n0, n1, n2⟩ := id (N.below hB)
   have hli : (k : Int) < (n : Int) := by omega
   have HM : Hid (M k = (x0, x1, x2, x3)) := hM
   have HEL : Hid (elB ep us M k = (npB x0 && decide (npE x0 = ep) && decide (npK x0 < us) && bP M k && akB x1 x2 x3)) := by rw [Hid, elB, hM]
   have hbr : b < wr.heap.size := Nat.lt_of_lt_of_le hb0 hB.size

   clear hM
   have A1 := Below.nw wr (.cells #[.int .i64 x0, .int .i64 x1, .int .i64 x2, .int .i64 x3] 160)
   have K := Bk4.new wr x0 x1 x2 x3 160
   have B1 := hBw.trans (A1.mono hBw.size)
   have B0 := hB.trans (A1.mono hB.size)
   have HNO : Hid (elB ep us M k = false → aw ep us M n = false) := fun h => gD (iw h n hlt)
   go_upto_region 7 with fail
   clear c0 c1 c2 c3 n9 n0 n1 n2
   have N1 := N.below B0
   have HF1 := HF.below B0 hb0
   generalize hbk : wr.heap.size = bk at *
   generalize wr.alloc (.cells #[.int .i64 x0, .int .i64 x1, .int .i64 x2, .int .i64 x3] 160) = w1 at *
   clear A1
   obtain ⟨n9, n0, n1, n2⟩ := id N1
   obtain ⟨k9, k0, k1, k2, k3⟩ := id K
   go_wp2_with fail
   refine (cj _ _).mono ?_
   rintro e w' ⟨rfl, rfl⟩
   cases g1 : npB x0
   ·have HB := HNO.out (by rw [HEL.out, g1]; rfl)
    have HB' : Hid (aw ep us M n = false) := HB
    clear HB
    go_wp2_with fail
    refine wp_region_held_drew (S := (fun w' => w'.cell? ⟨w.heap.size, 0, none⟩ = some (.int .i64 ep) ∧ w'.cell? ⟨w.heap.size, 1, none⟩ = some (.int .i64 us) ∧ w'.cell? ⟨w.heap.size, 2, none⟩ = some (.slice (some ⟨b, off, none⟩) n c) ∧ w'.cell? ⟨bk, 0, none⟩ = some (.int .i64 x0))) (by kernel_rfl) ?_ (fun hHeld => ?_)
    ·first | exact ⟨n0, n1, n2, k0⟩ | (simp (maxDischargeDepth := 6) [go_sem, *]; done)
    refine zT2 0 ?_
    refine zTk 2 ?_
    refine zTn 3 ?_
    refine zTn 4 ?_
    refine zTn 5 ?_
    refine zTn 6 ?_
    refine zT2 7 ?_
    refine zTn 9 ?_
    refine zTn 10 ?_
    refine zTn 11 ?_
    refine zTn 12 ?_
    refine zT2 13 ?_
    refine zTn 15 ?_
    refine zTn 16 ?_
    refine zTn 17 ?_
    refine zTn 18 ?_
    refine zTn 19 ?_
    refine zTn 20 ?_
    refine zTn 21 ?_
    refine zTn 22 ?_
    refine zTn 23 ?_
    refine zTn 24 ?_
    refine zTn 25 ?_
    refine zTn 26 ?_
    refine zTn 27 ?_
    refine zTn 28 ?_
    refine zTk 29 ?_
    refine wpAnyH_done (by kernel_rfl) ?_ _
    go_wp2_with fail
    go_ret
    exact ⟨ab HB'.out.symm, Below.drew B1⟩
   ·cases g2 : decide (npE x0 = ep)
    ·have HB' : Hid (aw ep us M n = false) := HNO.out (by rw [HEL.out, g2]; simp)
     have G2 : (npE x0 != ep) = true := bne_iff_ne.2 (of_decide_eq_false g2)
     go_wp2_with fail
     refine wp_region_held_drew (S := (fun w' => w'.cell? ⟨w.heap.size, 0, none⟩ = some (.int .i64 ep) ∧ w'.cell? ⟨w.heap.size, 1, none⟩ = some (.int .i64 us) ∧ w'.cell? ⟨w.heap.size, 2, none⟩ = some (.slice (some ⟨b, off, none⟩) n c) ∧ w'.cell? ⟨bk, 0, none⟩ = some (.int .i64 x0))) (by kernel_rfl) ?_ (fun hHeld => ?_)
     ·first | exact ⟨n0, n1, n2, k0⟩ | (simp (maxDischargeDepth := 6) [go_sem, *]; done)
     refine zT4 0 ?_
     refine zT2 4 ?_
     refine zTk 6 ?_
     (try simp only [G2])
     refine zT2 7 ?_
     refine zTn 9 ?_
     refine zTn 10 ?_
     refine zTn 11 ?_
     refine zTn 12 ?_
     refine zT2 13 ?_
     refine zTn 15 ?_
     refine zTn 16 ?_
     refine zTn 17 ?_
     refine zTn 18 ?_
     refine zTn 19 ?_
     refine zTn 20 ?_
     refine zTn 21 ?_
     refine zTn 22 ?_
     refine zTn 23 ?_
     refine zTn 24 ?_
     refine zTn 25 ?_
     refine zTn 26 ?_
     refine zTn 27 ?_
     refine zTn 28 ?_
     refine zTk 29 ?_
     refine wpAnyH_done (by kernel_rfl) ?_ _
     go_wp2_with fail
     go_ret
     exact ⟨ab HB'.out.symm, Below.drew B1⟩
    ·have G2 : (npE x0 != ep) = false := by rw [of_decide_eq_true g2]; exact bne_self_eq_false _
     have g2' := of_decide_eq_true g2
     cases g3 : decide (npK x0 < us)
     ·have HB' : Hid (aw ep us M n = false) := HNO.out (by rw [HEL.out, g3]; simp)
      have G3 : decide (us ≤ npK x0) = true := by have := of_decide_eq_false g3; simp; omega
      go_wp2_with fail
      refine wp_region_held_drew (S := (fun w' => w'.cell? ⟨w.heap.size, 0, none⟩ = some (.int .i64 ep) ∧ w'.cell? ⟨w.heap.size, 1, none⟩ = some (.int .i64 us) ∧ w'.cell? ⟨w.heap.size, 2, none⟩ = some (.slice (some ⟨b, off, none⟩) n c) ∧ w'.cell? ⟨bk, 0, none⟩ = some (.int .i64 x0))) (by kernel_rfl) ?_ (fun hHeld => ?_)
      ·first | exact ⟨n0, n1, n2, k0⟩ | (simp (maxDischargeDepth := 6) [go_sem, *]; done)
      refine zT4 0 ?_
      refine zT2 4 ?_
      refine zTk 6 ?_
      (try simp only [G2])
      refine zT4 7 ?_
      refine zT2 11 ?_
      (try simp only [G3])
      refine zT2 13 ?_
      refine zTn 15 ?_
      refine zTn 16 ?_
      refine zTn 17 ?_
      refine zTn 18 ?_
      refine zTn 19 ?_
      refine zTn 20 ?_
      refine zTn 21 ?_
      refine zTn 22 ?_
      refine zTn 23 ?_
      refine zTn 24 ?_
      refine zTn 25 ?_
      refine zTn 26 ?_
      refine zTn 27 ?_
      refine zTn 28 ?_
      refine zTk 29 ?_
      refine wpAnyH_done (by kernel_rfl) ?_ _
      go_wp2_with fail
      go_ret
      exact ⟨ab HB'.out.symm, Below.drew B1⟩
     ·have G3 : decide (us ≤ npK x0) = false := by have := of_decide_eq_true g3; simp; omega
      have HLS : Hid (bP M k = true → akB x1 x2 x3 = false → aw ep us M n = false) := fun _ h => HNO.out (by rw [HEL.out, h, Bool.and_false])
      have HOK1 : Hid (bP M k = true → akB x1 x2 x3 = true → tOk ep us M (k + 1) = true) := fun h h' => by rw [tOk, HOK.out, HEL.out, g1, g2, g3, h, h']; rfl
      have HBL : Hid (bP M k = false → aw ep us M n = false) := fun h => HNO.out (by rw [HEL.out, h]; simp)
      clear HNO HEL HOK
      cases k with
      | zero =>
       have HL : Hid (bP M 0 = true) := rfl
       have G16 : decide ((0 : Int) < 0) = false := by decide
       go_wp2_with fail
       refine wp_region_held_drew (S := (fun w' => w'.cell? ⟨w.heap.size, 0, none⟩ = some (.int .i64 ep) ∧ w'.cell? ⟨w.heap.size, 1, none⟩ = some (.int .i64 us) ∧ w'.cell? ⟨w.heap.size, 2, none⟩ = some (.slice (some ⟨b, off, none⟩) n c) ∧ w'.cell? ⟨bk, 0, none⟩ = some (.int .i64 x0))) (by kernel_rfl) ?_ (fun hHeld => ?_)
       ·first | exact ⟨n0, n1, n2, k0⟩ | (simp (maxDischargeDepth := 6) [go_sem, *]; done)
       refine zT4 0 ?_
       refine zT2 4 ?_
       refine zTk 6 ?_
       (try simp only [G2])
       refine zT4 7 ?_
       refine zT2 11 ?_
       (try simp only [G3])
       refine zT4 13 ?_
       (try simp only [G16])
       refine zTk 17 ?_
       refine zTn 18 ?_
       refine zTn 19 ?_
       refine zTn 20 ?_
       refine zTn 21 ?_
       refine zTn 22 ?_
       refine zTn 23 ?_
       refine zTn 24 ?_
       refine zTn 25 ?_
       refine zTn 26 ?_
       refine zTn 27 ?_
       refine zT2 28 ?_
       refine wpAnyH_done (by kernel_rfl) ?_ _
       go_upto_region 10 with fail
       replace B0 := Below.drew B0
       replace B1 := Below.drew B1
       (try clear d0 d1 d2 d3)
       cases h5 : aO x1
       ·have HB' : Hid (aw ep us M n = false) := HLS.out HL.out (by rw [akB, h5]; rfl)
        go_wp2_with fail
        refine (an _ _).mono ?_
        rintro e w' ⟨rfl, rfl⟩
        rw [h5]
        go_wp2_with fail
        go_ret
        exact ⟨ab HB'.out.symm, B1⟩
       ·cases h6 : tmB x2
        ·have HB' : Hid (aw ep us M n = false) := HLS.out HL.out (by rw [akB, h6]; simp)
         go_wp2_with fail
         refine (an _ _).mono ?_
         rintro e w' ⟨rfl, rfl⟩
         rw [h5]
         go_wp2_with fail
         refine (aR _ _).mono ?_
         rintro e w' ⟨rfl, rfl⟩
         rw [h6]
         go_wp2_with fail
         go_ret
         exact ⟨ab HB'.out.symm, B1⟩
        ·cases h7 : trB x3
         ·have HB' : Hid (aw ep us M n = false) := HLS.out HL.out (by rw [akB, h7]; simp)
          unfold trB at h7
          go_wp2_with fail
          refine (an _ _).mono ?_
          rintro e w' ⟨rfl, rfl⟩
          rw [h5]
          go_wp2_with fail
          refine (aR _ _).mono ?_
          rintro e w' ⟨rfl, rfl⟩
          rw [h6]
          go_wp2_with fail
          refine (al _ _ _ _).mono ?_
          rintro e w' ⟨rfl, rfl⟩
          rw [h7]
          go_wp2_with fail
          go_ret
          exact ⟨ab HB'.out.symm, B1⟩
         ·have HG : Hid (tOk ep us M (0 + 1) = true) := HOK1.out HL.out (by rw [akB, h5, h6, h7]; rfl)
          unfold trB at h7
          go_wp2_with fail
          refine (an _ _).mono ?_
          rintro e w' ⟨rfl, rfl⟩
          rw [h5]
          go_wp2_with fail
          refine (aR _ _).mono ?_
          rintro e w' ⟨rfl, rfl⟩
          rw [h6]
          go_wp2_with fail
          refine (al _ _ _ _).mono ?_
          rintro e w' ⟨rfl, rfl⟩
          rw [h7]
          go_wp2_with fail
          go_roundw
          case rel => exact ⟨0 + 1, by omega, by go_num, HG.out, B0⟩
          case measure => simp [intOf]; omega
      | succ k' =>
       obtain ⟨y0, y1, y2, y3, hy⟩ := bW M k'
       obtain ⟨d0, d1, d2, d3⟩ := HF1.elAsk (by omega : k' < n) hy
       have hwk : IntKind.i64.wrap (((k' + 1 : Nat) : Int) - 1) = (k' : Int) := by rw [show (((k' + 1 : Nat) : Int) - 1) = (k' : Int) by omega]; exact Go.IntWalk.i64_in _ ⟨by omega, by omega⟩
       have G16 : decide ((0 : Int) < ((k' + 1 : Nat) : Int)) = true := decide_eq_true (by omega)
       have G16b : decide ((0 : Int) < (k' : Int) + 1) = true := decide_eq_true (by omega)
       have hkn' : (k' : Int) < (n : Int) := by omega
       have hwk2 : IntKind.i64.wrap (k' : Int) = (k' : Int) := Go.IntWalk.i64_in _ ⟨by omega, by omega⟩
       have HY : Hid (bP M (k' + 1) = decide (y0 < x0)) := by rw [Hid, bP, hy, HM.out]
       clear hy
       by_cases g4 : x0 ≤ y0
       ·have HB' : Hid (aw ep us M n = false) := HBL.out (by rw [HY.out]; simp; omega)
        have G27 : decide (x0 ≤ y0) = true := decide_eq_true g4
        go_wp2_with fail
        refine wp_region_held_drew (S := (fun w' => w'.cell? ⟨w.heap.size, 0, none⟩ = some (.int .i64 ep) ∧ w'.cell? ⟨w.heap.size, 1, none⟩ = some (.int .i64 us) ∧ w'.cell? ⟨w.heap.size, 2, none⟩ = some (.slice (some ⟨b, off, none⟩) n c) ∧ w'.cell? ⟨bk, 0, none⟩ = some (.int .i64 x0) ∧ w'.cell? ⟨b, off + k' * 4, none⟩ = some (.int .i64 y0))) (by kernel_rfl) ?_ (fun hHeld => ?_)
        ·first | exact ⟨n0, n1, n2, k0, d0⟩ | (simp (maxDischargeDepth := 6) [go_sem, *]; done)
        refine zT4 0 ?_
        refine zT2 4 ?_
        refine zTk 6 ?_
        (try simp only [G2])
        refine zT4 7 ?_
        refine zT2 11 ?_
        (try simp only [G3])
        refine zT4 13 ?_
        (try simp only [G16])
        (try simp only [G16b])
        refine zT4 17 ?_
        refine zTk 21 ?_
        (try simp only [hwk])
        (try simp only [hwk2])
        refine zT4 22 ?_
        refine zT2 26 ?_
        (try simp only [G27])
        refine zT2 28 ?_
        refine wpAnyH_done (by kernel_rfl) ?_ _
        go_wp2_with fail
        go_ret
        exact ⟨ab HB'.out.symm, Below.drew B1⟩
       ·have HL : Hid (bP M (k' + 1) = true) := by rw [Hid, HY.out]; simp; omega
        have G27 : decide (x0 ≤ y0) = false := decide_eq_false g4
        go_wp2_with fail
        refine wp_region_held_drew (S := (fun w' => w'.cell? ⟨w.heap.size, 0, none⟩ = some (.int .i64 ep) ∧ w'.cell? ⟨w.heap.size, 1, none⟩ = some (.int .i64 us) ∧ w'.cell? ⟨w.heap.size, 2, none⟩ = some (.slice (some ⟨b, off, none⟩) n c) ∧ w'.cell? ⟨bk, 0, none⟩ = some (.int .i64 x0) ∧ w'.cell? ⟨b, off + k' * 4, none⟩ = some (.int .i64 y0))) (by kernel_rfl) ?_ (fun hHeld => ?_)
        ·first | exact ⟨n0, n1, n2, k0, d0⟩ | (simp (maxDischargeDepth := 6) [go_sem, *]; done)
        refine zT4 0 ?_
        refine zT2 4 ?_
        refine zTk 6 ?_
        (try simp only [G2])
        refine zT4 7 ?_
        refine zT2 11 ?_
        (try simp only [G3])
        refine zT4 13 ?_
        (try simp only [G16])
        (try simp only [G16b])
        refine zT4 17 ?_
        refine zTk 21 ?_
        (try simp only [hwk])
        (try simp only [hwk2])
        refine zT4 22 ?_
        refine zT2 26 ?_
        (try simp only [G27])
        refine zT2 28 ?_
        refine wpAnyH_done (by kernel_rfl) ?_ _
        go_upto_region 10 with fail
        replace B0 := Below.drew B0
        replace B1 := Below.drew B1
        (try clear d0 d1 d2 d3)
        cases h5 : aO x1
        ·have HB' : Hid (aw ep us M n = false) := HLS.out HL.out (by rw [akB, h5]; rfl)
         go_wp2_with fail
         refine (an _ _).mono ?_
         rintro e w' ⟨rfl, rfl⟩
         rw [h5]
         go_wp2_with fail
         go_ret
         exact ⟨ab HB'.out.symm, B1⟩
        ·cases h6 : tmB x2
         ·have HB' : Hid (aw ep us M n = false) := HLS.out HL.out (by rw [akB, h6]; simp)
          go_wp2_with fail
          refine (an _ _).mono ?_
          rintro e w' ⟨rfl, rfl⟩
          rw [h5]
          go_wp2_with fail
          refine (aR _ _).mono ?_
          rintro e w' ⟨rfl, rfl⟩
          rw [h6]
          go_wp2_with fail
          go_ret
          exact ⟨ab HB'.out.symm, B1⟩
         ·cases h7 : trB x3
          ·have HB' : Hid (aw ep us M n = false) := HLS.out HL.out (by rw [akB, h7]; simp)
           unfold trB at h7
           go_wp2_with fail
           refine (an _ _).mono ?_
           rintro e w' ⟨rfl, rfl⟩
           rw [h5]
           go_wp2_with fail
           refine (aR _ _).mono ?_
           rintro e w' ⟨rfl, rfl⟩
           rw [h6]
           go_wp2_with fail
           refine (al _ _ _ _).mono ?_
           rintro e w' ⟨rfl, rfl⟩
           rw [h7]
           go_wp2_with fail
           go_ret
           exact ⟨ab HB'.out.symm, B1⟩
          ·have HG : Hid (tOk ep us M ((k' + 1) + 1) = true) := HOK1.out HL.out (by rw [akB, h5, h6, h7]; rfl)
           unfold trB at h7
           go_wp2_with fail
           refine (an _ _).mono ?_
           rintro e w' ⟨rfl, rfl⟩
           rw [h5]
           go_wp2_with fail
           refine (aR _ _).mono ?_
           rintro e w' ⟨rfl, rfl⟩
           rw [h6]
           go_wp2_with fail
           refine (al _ _ _ _).mono ?_
           rintro e w' ⟨rfl, rfl⟩
           rw [h7]
           go_wp2_with fail
           go_roundw
           case rel => exact ⟨(k' + 1) + 1, by omega, by go_num, HG.out, B0⟩
           case measure => simp [intOf]; omega
  ·have hkn : k = n := by omega
   subst hkn
   have hli : ¬ (k : Int) < (k : Int) := by omega
   have HB : Hid (aw ep us M k = true) := dg HE.out HU.out hn HOK.out
   obtain ⟨n9, n0, n1, n2⟩ := id (N.below hB)
   go_wp2_with fail
   go_ret
   exact ⟨ab HB.out.symm, hBw⟩
theorem bU (ep us : Int) (a : Option Addr) (n c : Nat) (M : Nat → KT) (w : World) (hm : n ≤ maxLen) (hf : ae w a (n * 4) (aA M)) :
 Calls Tryz.prog 89 #[.agg #[.int .i64 ep, .int .i64 us, .slice a n c]] w fun e w' => e = .returned (.bool (aw ep us M n)) ∧ Below w.heap.size w w' := by
 cases h : epB ep
 ·exact iu ep us a n c M w h
 ·cases h1 : usB us
  ·exact iv ep us a n c M w h h1
  ·by_cases hl : n ≤ 16
   ·rcases hf with h0 | ⟨b, off, rfl, hf⟩
    ·have hn0 : n = 0 := by omega
     subst hn0
     exact fw ep us a c M w h h1
    ·exact fu ep us b off n c M w h h1 hl hf
   ·exact ft ep us a n c M w hm h h1 hl
def wtN (x : Int) (M : Nat → KT) : Nat → Nat
 | 0 => 0
 | k + 1 => wtN x M k + (if (M k).2.1 = x then 1 else 0)
theorem jV {x : Int} {M : Nat → KT} : ∀ k, wtN x M k ≤ k
 | 0 => Nat.le_refl _
 | k + 1 => by
  have := jV (x := x) (M := M) k
  rw [wtN]
  split <;> omega
def wtI (ep us : Int) (M : Nat → KT) (n : Nat) (x : Int) : Int := bif aw ep us M n then (wtN x M n : Int) else 0
theorem jT {ep us : Int} {M : Nat → KT} {n : Nat} (h : aw ep us M n = true) : n ≤ 16 := by
 rw [aw] at h
 simp only [Bool.and_eq_true, decide_eq_true_eq] at h
 exact h.1.2
theorem dW (ep us : Int) (a : Option Addr) (c : Nat) (M : Nat → KT) (x : Int) (w : World) :
 Calls Tryz.prog 94 #[.agg #[.int .i64 ep, .int .i64 us, .slice a 0 c], .int .i64 x] w fun e w' => e = .returned (.int .i64 (wtI ep us M 0 x)) ∧ Below w.heap.size w w' := by
 have HI : Hid (wtI ep us M 0 x = 0) := by rw [Hid, wtI]; cases aw ep us M 0 <;> rfl
 have A0 := Below.nw w (.cells #[.int .i64 ep, .int .i64 us, .slice a 0 c] 92)
 go_enter Tryz.func94, Tryz.ntmps94
 go_wp2_with fail
 go_loopw [5, 6] (fun q i wr => q = .int .i64 0 ∧ i = .int .i64 0 ∧ w.alloc (.cells #[.int .i64 ep, .int .i64 us, .slice a 0 c] 92) = wr) (fun _ i _ => 0)
 case atStart => exact ⟨rfl, rfl, by first | rfl | trivial⟩
 case round =>
  obtain ⟨rfl, rfl, rfl⟩ := hrel
  go_wp2_with fail
  go_ret
  exact ⟨congrArg (fun z => Ending.returned (Value.int .i64 z)) HI.out.symm, A0⟩
theorem eu (ep us : Int) (b off n c : Nat) (M : Nat → KT) (x : Int) (w : World) (hm : n ≤ maxLen) (h0 : 0 < n) (hf : Cs w b off (n * 4) (aA M)) (ht : aw ep us M n = false) :
 Calls Tryz.prog 94 #[.agg #[.int .i64 ep, .int .i64 us, .slice (some ⟨b, off, none⟩) n c], .int .i64 x] w fun e w' => e = .returned (.int .i64 (wtI ep us M n x)) ∧ Below w.heap.size w w' := by
 have HI : Hid (wtI ep us M n x = 0) := by rw [Hid, wtI, ht]; rfl
 have A0 := Below.nw w (.cells #[.int .i64 ep, .int .i64 us, .slice (some ⟨b, off, none⟩) n c] 92)
 have N := IB3.new w ep us (some ⟨b, off, none⟩) n c 92
 have C := bU ep us (some ⟨b, off, none⟩) n c M _ hm (.inr ⟨_, _, rfl, hf.below A0 hf.1⟩)
 rw [ht] at C
 have hli : (0 : Int) < (n : Int) := by omega
 clear hf ht
 go_enter Tryz.func94, Tryz.ntmps94
 go_wp2_with fail
 generalize w.alloc (.cells #[.int .i64 ep, .int .i64 us, .slice (some ⟨b, off, none⟩) n c] 92) = w0 at *
 go_loopw [5, 6] (fun q i wr => q = .int .i64 0 ∧ i = .int .i64 0 ∧ w0 = wr) (fun _ i _ => 0)
 case atStart => exact ⟨rfl, rfl, by first | rfl | trivial⟩
 case round =>
  obtain ⟨rfl, rfl, rfl⟩ := hrel
  have n9 : _ ∧ _ := N
  go_wp2_with fail
  refine C.mono ?_
  rintro e w1 ⟨rfl, hb⟩
  have B := A0.trans (hb.mono A0.size)
  go_wp2_with fail
  go_ret
  exact ⟨congrArg (fun z => Ending.returned (Value.int .i64 z)) HI.out.symm, B⟩
theorem dV (ep us : Int) (b off n c : Nat) (M : Nat → KT) (x : Int) (w : World) (hm : n ≤ maxLen) (hf : Cs w b off (n * 4) (aA M)) (ht : aw ep us M n = true) :
 Calls Tryz.prog 94 #[.agg #[.int .i64 ep, .int .i64 us, .slice (some ⟨b, off, none⟩) n c], .int .i64 x] w fun e w' => e = .returned (.int .i64 (wtI ep us M n x)) ∧ Below w.heap.size w w' := by
 have HI : Hid (wtI ep us M n x = (wtN x M n : Int)) := by rw [Hid, wtI, ht]; rfl
 have hn := jT ht
 have A0 := Below.nw w (.cells #[.int .i64 ep, .int .i64 us, .slice (some ⟨b, off, none⟩) n c] 92)
 have N := IB3.new w ep us (some ⟨b, off, none⟩) n c 92
 have HF := hf.below A0 hf.1
 have hb0 := HF.1
 have HC : Hid (∀ w' : World, Cs w' b off (n * 4) (aA M) → Calls Tryz.prog 89 #[.agg #[.int .i64 ep, .int .i64 us, .slice (some ⟨b, off, none⟩) n c]] w' fun e w'' => e = .returned (.bool true) ∧ Below w'.heap.size w' w'') := fun w' h => by have := bU ep us (some ⟨b, off, none⟩) n c M w' hm (.inr ⟨_, _, rfl, h⟩); rw [ht] at this; exact this
 clear hf ht
 go_enter Tryz.func94, Tryz.ntmps94
 go_wp2_with fail
 generalize w.alloc (.cells #[.int .i64 ep, .int .i64 us, .slice (some ⟨b, off, none⟩) n c] 92) = w0 at *
 go_loopw [5, 6] (fun q i wr => ∃ k : Nat, k ≤ n ∧ i = .int .i64 k ∧ q = .int .i64 (wtN x M k) ∧ Below w0.heap.size w0 wr) (fun _ i _ => n - (intOf i).toNat)
 case atStart => exact ⟨0, Nat.zero_le _, rfl, rfl, Below.refl _ _⟩
 case round =>
  obtain ⟨k, hk, rfl, rfl, hB⟩ := hrel
  have hwl := jV (x := x) (M := M) k
  by_cases hlt : k < n
  ·have hli : (k : Int) < (n : Int) := by omega
   obtain ⟨n9, n0, n1, n2⟩ := id (N.below hB)
   go_wp2_with fail
   refine (HC.out _ (HF.below hB hb0)).mono ?_
   rintro e w1 ⟨rfl, hb⟩
   clear n9 n0 n1 n2
   have B := hB.trans (hb.mono hB.size)
   clear hb hB
   obtain ⟨x0, x1, x2, x3, hM⟩ := bW M k
   obtain ⟨c0, c1, c2, c3⟩ := (HF.below B hb0).elAsk hlt hM
   obtain ⟨n9, n0, n1, n2⟩ := id (N.below B)
   have hbr : b < w1.heap.size := Nat.lt_of_lt_of_le hb0 B.size
   have HW : Hid (wtN x M (k + 1) = wtN x M k + (if x1 = x then 1 else 0)) := by rw [Hid, wtN, hM]
   clear hM
   generalize wtN x M k = q at *
   by_cases hx : x1 = x
   ·go_wp2_with fail
    go_roundw
    case rel => exact ⟨k + 1, by omega, by go_num, by rw [HW.out, if_pos hx]; simp, B⟩
    case measure => simp [intOf]; omega
   ·go_wp2_with fail
    go_roundw
    case rel => exact ⟨k + 1, by omega, by go_num, by rw [HW.out, if_neg hx]; simp, B⟩
    case measure => simp [intOf]; omega
  ·have hkn : k = n := by omega
   subst hkn
   have hli : ¬ (k : Int) < (k : Int) := by omega
   obtain ⟨n9, n0, n1, n2⟩ := id (N.below hB)
   go_wp2_with fail
   go_ret
   exact ⟨congrArg (fun z => Ending.returned (Value.int .i64 z)) HI.out.symm, A0.trans (hB.mono A0.size)⟩
theorem et (ep us : Int) (a : Option Addr) (n c : Nat) (M : Nat → KT) (x : Int) (w : World) (hm : n ≤ maxLen) (hf : ae w a (n * 4) (aA M)) :
 Calls Tryz.prog 94 #[.agg #[.int .i64 ep, .int .i64 us, .slice a n c], .int .i64 x] w fun e w' => e = .returned (.int .i64 (wtI ep us M n x)) ∧ Below w.heap.size w w' := by
 by_cases h0 : n = 0
 ·subst h0; exact dW ep us a c M x w
 ·rcases hf with h | ⟨b, off, rfl, hf⟩
  ·omega
  ·cases ht : aw ep us M n
   ·exact eu ep us b off n c M x w hm (by omega) hf ht
   ·exact dV ep us b off n c M x w hm hf ht
end Go.Proofs.YtddijpjgkifngaaGreat
