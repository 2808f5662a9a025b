/- The contract of spec.PeersOk. -/
import Derived.Test.YtddijpjgkifngaaGreatMN0
import Derived.Test.YtddijpjgkifngaaGreatMN3
namespace Go.Proofs.YtddijpjgkifngaaGreat
open Go.RowKit
set_option linter.unusedVariables false
set_option maxRecDepth 100000
set_option maxHeartbeats 16000000
theorem cG (a : Option Addr) (n c : Nat) (M : Nat → PT) (w : World) (hn : n ≤ maxLen) (hl : ¬ n ≤ 8) :
 Calls Tryz.prog 90 #[.slice a n c] w fun e w' => e = .returned (.bool (oks M n)) ∧ Below w.heap.size w w' := by
 unfold maxLen at hn
 have HB : Hid (oks M n = false) := jP hl
 have hi : (8 : Int) < (n : Int) := by omega
 go_enter Tryz.func90, Tryz.ntmps90
 go_wp2_with fail
 go_ret
 exact ⟨ab HB.out.symm, Below.refl _ _⟩
theorem cI (a : Option Addr) (c : Nat) (M : Nat → PT) (w : World) :
 Calls Tryz.prog 90 #[.slice a 0 c] w fun e w' => e = .returned (.bool (oks M 0)) ∧ Below w.heap.size w w' := by
 go_enter Tryz.func90, Tryz.ntmps90
 go_wp2_with fail
 go_loopw [3] (fun i wr => i = .int .i64 0 ∧ w = wr) (fun i _ => 0)
 case atStart => exact ⟨rfl, by first | rfl | trivial⟩
 case round =>
  obtain ⟨rfl, rfl⟩ := hrel
  go_wp2_with fail
  go_ret
  exact ⟨rfl, Below.refl _ _⟩
theorem cH (b off n c : Nat) (M : Nat → PT) (w : World) (hn : n ≤ 8) (hf : Cs w b off (n * 5) (ay M)) :
 Calls Tryz.prog 90 #[.slice (some ⟨b, off, none⟩) n c] w fun e w' => e = .returned (.bool (oks M n)) ∧ Below w.heap.size w w' := by
 have hi : ¬ (8 : Int) < (n : Int) := by omega
 go_enter Tryz.func90, Tryz.ntmps90
 go_wp2_with fail
 clear hi
 go_loopw [3] (fun i wr => ∃ k : Nat, k ≤ n ∧ i = .int .i64 k ∧ oks M k = true ∧ Below w.heap.size w wr) (fun i _ => n - (intOf i).toNat)
 case atStart => exact ⟨0, Nat.zero_le _, rfl, rfl, Below.refl _ _⟩
 case round =>
  obtain ⟨k, hk, rfl, hok, hB⟩ := hrel
  have HOK : Hid (oks M k = true) := hok
  clear hok
  by_cases hlt : k < n
  ·obtain ⟨x0, x1, x2, x3, x4, hM⟩ := bz M k
   have HF := hf.below hB hf.1
   obtain ⟨c0, c1, c2, c3, c4⟩ := HF.elPeer hlt hM
   have hli : (k : Int) < (n : Int) := by omega
   have HEL : Hid (elP M k = ((aO x0 && okI x1 x2 && okT x3) && decide (prv M k < x0))) := by rw [Hid, elP, hM]; rfl
   have HNO : Hid (elP M k = false → oks M n = false) := fun h => im h n hlt
   have hbr : b < wr.heap.size := Nat.lt_of_lt_of_le hf.1 hB.size
   have HM : Hid (M k = (x0, x1, x2, x3, x4)) := hM
   clear hM
   have A1 := Below.nw wr (.cells #[.int .i64 x0, .int .i64 x1, .int .i64 x2, .int .i64 x3, .bool x4] 157)
   have KB := Bx5.new wr (.int .i64 x0) (.int .i64 x1) (.int .i64 x2) (.int .i64 x3) (.bool x4) 157
   have B1 := hB.trans (A1.mono hB.size)
   have HF1 := HF.below A1 hbr
   have hbr1 := HF1.1
   go_upto_region 7 with fail
   clear c0 c1 c2 c3 c4 HF
   generalize hbk : wr.heap.size = bk at *
   generalize wr.alloc (.cells #[.int .i64 x0, .int .i64 x1, .int .i64 x2, .int .i64 x3, .bool x4] 157) = w1 at *
   clear A1
   obtain ⟨k9, k0, k1, k2, k3, k4, f0, f1, f2, f3, f4⟩ := id KB
   cases h1 : aO x0
   ·have HB' : Hid (oks M n = false) := HNO.out (by rw [HEL.out, h1]; rfl)
    go_wp2_with fail
    refine wp_region_held_drew (S := (fun w' => w'.cell? ⟨bk, 0, none⟩ = some (.int .i64 x0) ∧ w'.cell? ⟨bk, 1, none⟩ = some (.int .i64 x1) ∧ w'.cell? ⟨bk, 2, none⟩ = some (.int .i64 x2) ∧ w'.cell? ⟨bk, 3, none⟩ = some (.int .i64 x3))) (by kernel_rfl) ?_ (fun hHeld => ?_)
    ·first | exact ⟨k0, k1, k2, k3⟩ | (simp (maxDischargeDepth := 6) [go_sem, *]; done)
    replace B1 := Below.drew B1
    replace KB := KB.drew
    clear k9 k0 k1 k2 k3 k4 f0 f1 f2 f3 f4
    generalize w1.drew = w1d at *
    obtain ⟨k9, k0, k1, k2, k3, k4, f0, f1, f2, f3, f4⟩ := id KB
    refine zT2 0 ?_
    refine zQ 2 fun K hK => ?_
    go_simp
    refine (an _ _).mono ?_; rintro e w' ⟨rfl, rfl⟩; rw [h1]
    (try go_wp2_with fail)
    refine hK.out _ _ ?_ (fun hHeld => ?_)
    ·first | exact ⟨k0, k1, k2, k3⟩ | (simp (maxDischargeDepth := 6) [go_sem, *]; done)
    clear hK K
    (try simp only [zA])
    refine zT2 3 ?_
    refine zTn 5 ?_
    refine zTn 6 ?_
    refine zTn 7 ?_
    refine zTn 8 ?_
    refine zT2 9 ?_
    refine zTn 11 ?_
    refine zTn 12 ?_
    refine zTn 13 ?_
    refine zTn 14 ?_
    refine zT2 15 ?_
    refine zTn 17 ?_
    refine zTn 18 ?_
    refine zTn 19 ?_
    refine zTn 20 ?_
    refine zTn 21 ?_
    refine zTn 22 ?_
    refine zTn 23 ?_
    refine zTn 24 ?_
    refine zTn 25 ?_
    refine zTn 26 ?_
    refine zTn 27 ?_
    refine zTn 28 ?_
    refine zTn 29 ?_
    refine zTk 30 ?_
    refine wpAnyH_done (by kernel_rfl) ?_ _
    go_wp2_with fail
    go_ret
    exact ⟨ab HB'.out.symm, B1⟩
   ·cases h2 : okI x1 x2
    ·have HB' : Hid (oks M n = false) := HNO.out (by rw [HEL.out, h2]; simp)
     go_wp2_with fail
     refine wp_region_held_drew (S := (fun w' => w'.cell? ⟨bk, 0, none⟩ = some (.int .i64 x0) ∧ w'.cell? ⟨bk, 1, none⟩ = some (.int .i64 x1) ∧ w'.cell? ⟨bk, 2, none⟩ = some (.int .i64 x2) ∧ w'.cell? ⟨bk, 3, none⟩ = some (.int .i64 x3))) (by kernel_rfl) ?_ (fun hHeld => ?_)
     ·first | exact ⟨k0, k1, k2, k3⟩ | (simp (maxDischargeDepth := 6) [go_sem, *]; done)
     replace B1 := Below.drew B1
     replace KB := KB.drew
     clear k9 k0 k1 k2 k3 k4 f0 f1 f2 f3 f4
     generalize w1.drew = w1d at *
     obtain ⟨k9, k0, k1, k2, k3, k4, f0, f1, f2, f3, f4⟩ := id KB
     refine zT2 0 ?_
     refine zQ 2 fun K hK => ?_
     go_simp
     refine (an _ _).mono ?_; rintro e w' ⟨rfl, rfl⟩; rw [h1]
     (try go_wp2_with fail)
     refine hK.out _ _ ?_ (fun hHeld => ?_)
     ·first | exact ⟨k0, k1, k2, k3⟩ | (simp (maxDischargeDepth := 6) [go_sem, *]; done)
     clear hK K
     (try simp only [zA])
     refine zT4 3 ?_
     refine zQ 7 fun K hK => ?_
     go_simp
     refine (aN _ _ _).mono ?_; rintro e w2 ⟨rfl, hb⟩; rw [h2]; (replace B1 := B1.trans (hb.mono B1.size)); clear k9 k0 k1 k2 k3 k4 f0 f1 f2 f3 f4; (replace KB := KB.below hb); obtain ⟨k9, k0, k1, k2, k3, k4, f0, f1, f2, f3, f4⟩ := id KB; clear hb
     (try go_wp2_with fail)
     refine hK.out _ _ ?_ (fun hHeld => ?_)
     ·first | exact ⟨k0, k1, k2, k3⟩ | (simp (maxDischargeDepth := 6) [go_sem, *]; done)
     clear hK K
     (try simp only [zA])
     refine zT2 8 ?_
     refine zTk 10 ?_
     refine zTn 11 ?_
     refine zTn 12 ?_
     refine zTn 13 ?_
     refine zTn 14 ?_
     refine zT2 15 ?_
     refine zTn 17 ?_
     refine zTn 18 ?_
     refine zTn 19 ?_
     refine zTn 20 ?_
     refine zTn 21 ?_
     refine zTn 22 ?_
     refine zTn 23 ?_
     refine zTn 24 ?_
     refine zTn 25 ?_
     refine zTn 26 ?_
     refine zTn 27 ?_
     refine zTn 28 ?_
     refine zTn 29 ?_
     refine zTk 30 ?_
     refine wpAnyH_done (by kernel_rfl) ?_ _
     go_wp2_with fail
     go_ret
     exact ⟨ab HB'.out.symm, B1⟩
    ·cases h3 : okT x3
     ·have HB' : Hid (oks M n = false) := HNO.out (by rw [HEL.out, h3]; simp)
      go_wp2_with fail
      refine wp_region_held_drew (S := (fun w' => w'.cell? ⟨bk, 0, none⟩ = some (.int .i64 x0) ∧ w'.cell? ⟨bk, 1, none⟩ = some (.int .i64 x1) ∧ w'.cell? ⟨bk, 2, none⟩ = some (.int .i64 x2) ∧ w'.cell? ⟨bk, 3, none⟩ = some (.int .i64 x3))) (by kernel_rfl) ?_ (fun hHeld => ?_)
      ·first | exact ⟨k0, k1, k2, k3⟩ | (simp (maxDischargeDepth := 6) [go_sem, *]; done)
      replace B1 := Below.drew B1
      replace KB := KB.drew
      clear k9 k0 k1 k2 k3 k4 f0 f1 f2 f3 f4
      generalize w1.drew = w1d at *
      obtain ⟨k9, k0, k1, k2, k3, k4, f0, f1, f2, f3, f4⟩ := id KB
      refine zT2 0 ?_
      refine zQ 2 fun K hK => ?_
      go_simp
      refine (an _ _).mono ?_; rintro e w' ⟨rfl, rfl⟩; rw [h1]
      (try go_wp2_with fail)
      refine hK.out _ _ ?_ (fun hHeld => ?_)
      ·first | exact ⟨k0, k1, k2, k3⟩ | (simp (maxDischargeDepth := 6) [go_sem, *]; done)
      clear hK K
      (try simp only [zA])
      refine zT4 3 ?_
      refine zQ 7 fun K hK => ?_
      go_simp
      refine (aN _ _ _).mono ?_; rintro e w2 ⟨rfl, hb⟩; rw [h2]; (replace B1 := B1.trans (hb.mono B1.size)); clear k9 k0 k1 k2 k3 k4 f0 f1 f2 f3 f4; (replace KB := KB.below hb); obtain ⟨k9, k0, k1, k2, k3, k4, f0, f1, f2, f3, f4⟩ := id KB; clear hb
      (try go_wp2_with fail)
      refine hK.out _ _ ?_ (fun hHeld => ?_)
      ·first | exact ⟨k0, k1, k2, k3⟩ | (simp (maxDischargeDepth := 6) [go_sem, *]; done)
      clear hK K
      (try simp only [zA])
      refine zT4 8 ?_
      refine zTk 12 ?_
      refine zQ 13 fun K hK => ?_
      go_simp
      refine (aE _ _).mono ?_; rintro e w' ⟨rfl, rfl⟩; rw [h3]
      (try go_wp2_with fail)
      refine hK.out _ _ ?_ (fun hHeld => ?_)
      ·first | exact ⟨k0, k1, k2, k3⟩ | (simp (maxDischargeDepth := 6) [go_sem, *]; done)
      clear hK K
      (try simp only [zA])
      refine zT2 14 ?_
      refine zTk 16 ?_
      refine zTn 17 ?_
      refine zTn 18 ?_
      refine zTn 19 ?_
      refine zTn 20 ?_
      refine zTn 21 ?_
      refine zTn 22 ?_
      refine zTn 23 ?_
      refine zTn 24 ?_
      refine zTn 25 ?_
      refine zTn 26 ?_
      refine zTn 27 ?_
      refine zTn 28 ?_
      refine zTn 29 ?_
      refine zTk 30 ?_
      refine wpAnyH_done (by kernel_rfl) ?_ _
      go_wp2_with fail
      go_ret
      exact ⟨ab HB'.out.symm, B1⟩
     ·have HST : Hid (decide (prv M k < x0) = true → oks M (k + 1) = true) := fun h => gp HOK.out (by rw [HEL.out, h1, h2, h3, h]; rfl)
      have HBL : Hid (decide (prv M k < x0) = false → oks M n = false) := fun h => HNO.out (by rw [HEL.out, h]; simp)
      clear HNO HEL HOK
      cases k with
      | zero =>
       have HL : Hid (oks M (0 + 1) = true) := HST.out (decide_eq_true (by have := ij h1; simp only [prv]; omega))
       have G16 : decide ((0 : Int) < 0) = false := by decide
       go_wp2_with fail
       refine wp_region_held_drew (S := (fun w' => w'.cell? ⟨bk, 0, none⟩ = some (.int .i64 x0) ∧ w'.cell? ⟨bk, 1, none⟩ = some (.int .i64 x1) ∧ w'.cell? ⟨bk, 2, none⟩ = some (.int .i64 x2) ∧ w'.cell? ⟨bk, 3, none⟩ = some (.int .i64 x3))) (by kernel_rfl) ?_ (fun hHeld => ?_)
       ·first | exact ⟨k0, k1, k2, k3⟩ | (simp (maxDischargeDepth := 6) [go_sem, *]; done)
       replace B1 := Below.drew B1
       replace KB := KB.drew
       clear k9 k0 k1 k2 k3 k4 f0 f1 f2 f3 f4
       generalize w1.drew = w1d at *
       obtain ⟨k9, k0, k1, k2, k3, k4, f0, f1, f2, f3, f4⟩ := id KB
       refine zT2 0 ?_
       refine zQ 2 fun K hK => ?_
       go_simp
       refine (an _ _).mono ?_; rintro e w' ⟨rfl, rfl⟩; rw [h1]
       (try go_wp2_with fail)
       refine hK.out _ _ ?_ (fun hHeld => ?_)
       ·first | exact ⟨k0, k1, k2, k3⟩ | (simp (maxDischargeDepth := 6) [go_sem, *]; done)
       clear hK K
       (try simp only [zA])
       refine zT4 3 ?_
       refine zQ 7 fun K hK => ?_
       go_simp
       refine (aN _ _ _).mono ?_; rintro e w2 ⟨rfl, hb⟩; rw [h2]; (replace B1 := B1.trans (hb.mono B1.size)); clear k9 k0 k1 k2 k3 k4 f0 f1 f2 f3 f4; (replace KB := KB.below hb); obtain ⟨k9, k0, k1, k2, k3, k4, f0, f1, f2, f3, f4⟩ := id KB; clear hb
       (try go_wp2_with fail)
       refine hK.out _ _ ?_ (fun hHeld => ?_)
       ·first | exact ⟨k0, k1, k2, k3⟩ | (simp (maxDischargeDepth := 6) [go_sem, *]; done)
       clear hK K
       (try simp only [zA])
       refine zT4 8 ?_
       refine zTk 12 ?_
       refine zQ 13 fun K hK => ?_
       go_simp
       refine (aE _ _).mono ?_; rintro e w' ⟨rfl, rfl⟩; rw [h3]
       (try go_wp2_with fail)
       refine hK.out _ _ ?_ (fun hHeld => ?_)
       ·first | exact ⟨k0, k1, k2, k3⟩ | (simp (maxDischargeDepth := 6) [go_sem, *]; done)
       clear hK K
       (try simp only [zA])
       refine zT4 14 ?_
       refine zTk 18 ?_
       (try simp only [G16])
       refine zTk 19 ?_
       refine zTn 20 ?_
       refine zTn 21 ?_
       refine zTn 22 ?_
       refine zTn 23 ?_
       refine zTn 24 ?_
       refine zTn 25 ?_
       refine zTn 26 ?_
       refine zTn 27 ?_
       refine zTn 28 ?_
       refine zT2 29 ?_
       refine wpAnyH_done (by kernel_rfl) ?_ _
       go_wp2_with fail
       go_roundw
       case rel => exact ⟨0 + 1, by omega, by go_num, HL.out, B1⟩
       case measure => simp [intOf]; omega
      | succ k' =>
       obtain ⟨y0, y1, y2, y3, y4, hy⟩ := bz M k'
       obtain ⟨d0, d1, d2, d3, d4⟩ := HF1.elPeer (by omega : k' < n) hy
       have hwk : IntKind.i64.wrap (((k' + 1 : Nat) : Int) - 1) = (k' : Int) := by rw [show (((k' + 1 : Nat) : Int) - 1) = (k' : Int) by omega]; exact Go.IntWalk.i64_in _ ⟨by omega, by omega⟩
       have G16 : decide ((0 : Int) < ((k' + 1 : Nat) : Int)) = true := decide_eq_true (by omega)
       have G16b : decide ((0 : Int) < (k' : Int) + 1) = true := decide_eq_true (by omega)
       have hkn' : (k' : Int) < (n : Int) := by omega
       have hwk2 : IntKind.i64.wrap (k' : Int) = (k' : Int) := Go.IntWalk.i64_in _ ⟨by omega, by omega⟩
       have HY : Hid (prv M (k' + 1) = y0) := by rw [Hid, prv, hy]
       clear hy d1 d2 d3 d4
       by_cases g4 : x0 ≤ y0
       ·have HB' : Hid (oks M n = false) := HBL.out (decide_eq_false (by rw [HY.out]; omega))
        have G27 : decide (x0 ≤ y0) = true := decide_eq_true g4
        go_wp2_with fail
        refine wp_region_held_drew (S := (fun w' => w'.cell? ⟨bk, 0, none⟩ = some (.int .i64 x0) ∧ w'.cell? ⟨bk, 1, none⟩ = some (.int .i64 x1) ∧ w'.cell? ⟨bk, 2, none⟩ = some (.int .i64 x2) ∧ w'.cell? ⟨bk, 3, none⟩ = some (.int .i64 x3) ∧ w'.cell? ⟨b, off + k' * 5, none⟩ = some (.int .i64 y0))) (by kernel_rfl) ?_ (fun hHeld => ?_)
        ·first | exact ⟨k0, k1, k2, k3, d0⟩ | (simp (maxDischargeDepth := 6) [go_sem, *]; done)
        replace B1 := Below.drew B1
        replace KB := KB.drew
        clear k9 k0 k1 k2 k3 k4 f0 f1 f2 f3 f4
        replace d0 : w1.drew.cell? ⟨b, off + k' * 5, none⟩ = some (.int .i64 y0) := d0
        have hbw : b < w1.drew.heap.size := hbr1
        generalize w1.drew = w1d at *
        obtain ⟨k9, k0, k1, k2, k3, k4, f0, f1, f2, f3, f4⟩ := id KB
        refine zT2 0 ?_
        refine zQ 2 fun K hK => ?_
        go_simp
        refine (an _ _).mono ?_; rintro e w' ⟨rfl, rfl⟩; rw [h1]
        (try go_wp2_with fail)
        refine hK.out _ _ ?_ (fun hHeld => ?_)
        ·first | exact ⟨k0, k1, k2, k3, d0⟩ | (simp (maxDischargeDepth := 6) [go_sem, *]; done)
        clear hK K
        (try simp only [zA])
        refine zT4 3 ?_
        refine zQ 7 fun K hK => ?_
        go_simp
        refine (aN _ _ _).mono ?_; rintro e w2 ⟨rfl, hb⟩; rw [h2]; (replace B1 := B1.trans (hb.mono B1.size)); clear k9 k0 k1 k2 k3 k4 f0 f1 f2 f3 f4; (replace KB := KB.below hb); (replace d0 := (hb.cell (p := ⟨b, off + k' * 5, none⟩) hbw).trans d0); obtain ⟨k9, k0, k1, k2, k3, k4, f0, f1, f2, f3, f4⟩ := id KB; clear hb
        (try go_wp2_with fail)
        refine hK.out _ _ ?_ (fun hHeld => ?_)
        ·first | exact ⟨k0, k1, k2, k3, d0⟩ | (simp (maxDischargeDepth := 6) [go_sem, *]; done)
        clear hK K
        (try simp only [zA])
        refine zT4 8 ?_
        refine zTk 12 ?_
        refine zQ 13 fun K hK => ?_
        go_simp
        refine (aE _ _).mono ?_; rintro e w' ⟨rfl, rfl⟩; rw [h3]
        (try go_wp2_with fail)
        refine hK.out _ _ ?_ (fun hHeld => ?_)
        ·first | exact ⟨k0, k1, k2, k3, d0⟩ | (simp (maxDischargeDepth := 6) [go_sem, *]; done)
        clear hK K
        (try simp only [zA])
        refine zT4 14 ?_
        refine zTk 18 ?_
        (try simp only [G16])
        (try simp only [G16b])
        refine zT8 19 ?_
        refine zT2 27 ?_
        (try simp only [G27])
        refine zT2 29 ?_
        refine wpAnyH_done (by kernel_rfl) ?_ _
        go_wp2_with fail
        go_ret
        exact ⟨ab HB'.out.symm, B1⟩
       ·have HL : Hid (oks M (k' + 1 + 1) = true) := HST.out (decide_eq_true (by rw [HY.out]; omega))
        have G27 : decide (x0 ≤ y0) = false := decide_eq_false g4
        go_wp2_with fail
        refine wp_region_held_drew (S := (fun w' => w'.cell? ⟨bk, 0, none⟩ = some (.int .i64 x0) ∧ w'.cell? ⟨bk, 1, none⟩ = some (.int .i64 x1) ∧ w'.cell? ⟨bk, 2, none⟩ = some (.int .i64 x2) ∧ w'.cell? ⟨bk, 3, none⟩ = some (.int .i64 x3) ∧ w'.cell? ⟨b, off + k' * 5, none⟩ = some (.int .i64 y0))) (by kernel_rfl) ?_ (fun hHeld => ?_)
        ·first | exact ⟨k0, k1, k2, k3, d0⟩ | (simp (maxDischargeDepth := 6) [go_sem, *]; done)
        replace B1 := Below.drew B1
        replace KB := KB.drew
        clear k9 k0 k1 k2 k3 k4 f0 f1 f2 f3 f4
        replace d0 : w1.drew.cell? ⟨b, off + k' * 5, none⟩ = some (.int .i64 y0) := d0
        have hbw : b < w1.drew.heap.size := hbr1
        generalize w1.drew = w1d at *
        obtain ⟨k9, k0, k1, k2, k3, k4, f0, f1, f2, f3, f4⟩ := id KB
        refine zT2 0 ?_
        refine zQ 2 fun K hK => ?_
        go_simp
        refine (an _ _).mono ?_; rintro e w' ⟨rfl, rfl⟩; rw [h1]
        (try go_wp2_with fail)
        refine hK.out _ _ ?_ (fun hHeld => ?_)
        ·first | exact ⟨k0, k1, k2, k3, d0⟩ | (simp (maxDischargeDepth := 6) [go_sem, *]; done)
        clear hK K
        (try simp only [zA])
        refine zT4 3 ?_
        refine zQ 7 fun K hK => ?_
        go_simp
        refine (aN _ _ _).mono ?_; rintro e w2 ⟨rfl, hb⟩; rw [h2]; (replace B1 := B1.trans (hb.mono B1.size)); clear k9 k0 k1 k2 k3 k4 f0 f1 f2 f3 f4; (replace KB := KB.below hb); (replace d0 := (hb.cell (p := ⟨b, off + k' * 5, none⟩) hbw).trans d0); obtain ⟨k9, k0, k1, k2, k3, k4, f0, f1, f2, f3, f4⟩ := id KB; clear hb
        (try go_wp2_with fail)
        refine hK.out _ _ ?_ (fun hHeld => ?_)
        ·first | exact ⟨k0, k1, k2, k3, d0⟩ | (simp (maxDischargeDepth := 6) [go_sem, *]; done)
        clear hK K
        (try simp only [zA])
        refine zT4 8 ?_
        refine zTk 12 ?_
        refine zQ 13 fun K hK => ?_
        go_simp
        refine (aE _ _).mono ?_; rintro e w' ⟨rfl, rfl⟩; rw [h3]
        (try go_wp2_with fail)
        refine hK.out _ _ ?_ (fun hHeld => ?_)
        ·first | exact ⟨k0, k1, k2, k3, d0⟩ | (simp (maxDischargeDepth := 6) [go_sem, *]; done)
        clear hK K
        (try simp only [zA])
        refine zT4 14 ?_
        refine zTk 18 ?_
        (try simp only [G16])
        (try simp only [G16b])
        refine zT8 19 ?_
        refine zT2 27 ?_
        (try simp only [G27])
        refine zT2 29 ?_
        refine wpAnyH_done (by kernel_rfl) ?_ _
        go_wp2_with fail
        go_roundw
        case rel => exact ⟨k' + 1 + 1, by omega, by go_num, HL.out, B1⟩
        case measure => simp [intOf]; omega
  ·have hkn : k = n := by omega
   subst hkn
   have hli : ¬ (k : Int) < (k : Int) := by omega
   go_wp2_with fail
   go_ret
   exact ⟨ab HOK.out.symm, hB⟩
theorem db (a : Option Addr) (n c : Nat) (M : Nat → PT) (w : World) (hn : n ≤ maxLen) (h : ae w a (n * 5) (ay M)) :
 Calls Tryz.prog 90 #[.slice a n c] w fun e w' => e = .returned (.bool (oks M n)) ∧ Below w.heap.size w w' := by
 by_cases hl : n ≤ 8
 ·rcases h with h0 | ⟨b, off, rfl, h2⟩
  ·have hn0 : n = 0 := by omega
   subst hn0
   exact cI a c M w
  ·exact cH b off n c M w hl h2
 ·exact cG a n c M w hn hl
end Go.Proofs.YtddijpjgkifngaaGreat
