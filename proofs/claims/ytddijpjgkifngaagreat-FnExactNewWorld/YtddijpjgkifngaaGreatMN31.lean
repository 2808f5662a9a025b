/- FrameOk and BusOk in the specification. The programs frames: which are -/
import Derived.Deep.DeepCutAuto
import Derived.Test.YtddijpjgkifngaaGreatMN0
import Derived.Test.YtddijpjgkifngaaGreatMN24
namespace Go.Proofs.YtddijpjgkifngaaGreat
open Go.RowKit
set_option linter.unusedVariables false
set_option maxRecDepth 100000
set_option maxHeartbeats 16000000
theorem cX (x0 x1 x2 x3 x4 : Int) (x5 : ByteArray) (w : World) (hs : x5.size ≤ maxLen) :
 Calls Tryz.prog 85 #[.agg #[.int .i64 x0, .int .i64 x1, .int .i64 x2, .int .i64 x3, .int .i64 x4, .string x5]] w fun e w' => e = .returned (.bool (frB x0 x1 x2 x3 x4 x5)) ∧ Below w.heap.size w w' := by
 unfold maxLen at hs
 have B := Below.nw w (.cells #[.int .i64 x0, .int .i64 x1, .int .i64 x2, .int .i64 x3, .int .i64 x4, .string x5] 103)
 have C0 := fun w' => an x0 w'
 have C1 : ∀ w', Calls Tryz.prog 42 #[.int .i64 x1, .int .i64 0, .int .i64 15] w' fun e w'' => e = .returned (.bool (decide (0 ≤ x1 ∧ x1 ≤ 15))) ∧ w' = w'' := fun w' => al x1 0 15 w'
 have C2 : ∀ w', Calls Tryz.prog 42 #[.int .i64 x2, .int .i64 0, .int .i64 1000000000000] w' fun e w'' => e = .returned (.bool (decide (0 ≤ x2 ∧ x2 ≤ 1000000000000))) ∧ w' = w'' := fun w' => al x2 0 1000000000000 w'
 unfold frB

 cases hc0 : aO x0
 ·rw [Bool.false_and]
  go_enter Tryz.func85, Tryz.ntmps85
  go_wp2_with fail
  refine (C0 _).mono ?_
  rintro e w' ⟨rfl, rfl⟩
  rw [hc0]
  go_wp2_with fail
  go_ret
  exact ⟨rfl, B⟩
 rw [Bool.true_and]
 cases hc1 : decide (0 ≤ x1 ∧ x1 ≤ 15)
 ·rw [Bool.false_and]
  go_enter Tryz.func85, Tryz.ntmps85
  go_wp2_with fail
  refine (C0 _).mono ?_
  rintro e w' ⟨rfl, rfl⟩
  rw [hc0]
  go_wp2_with fail
  refine (C1 _).mono ?_
  rintro e w' ⟨rfl, rfl⟩
  rw [hc1]
  go_wp2_with fail
  go_ret
  exact ⟨rfl, B⟩
 rw [Bool.true_and]
 cases hc2 : decide (0 ≤ x2 ∧ x2 ≤ 1000000000000)
 ·rw [Bool.false_and]
  go_enter Tryz.func85, Tryz.ntmps85
  go_wp2_with fail
  refine (C0 _).mono ?_
  rintro e w' ⟨rfl, rfl⟩
  rw [hc0]
  go_wp2_with fail
  refine (C1 _).mono ?_
  rintro e w' ⟨rfl, rfl⟩
  rw [hc1]
  go_wp2_with fail
  refine (C2 _).mono ?_
  rintro e w' ⟨rfl, rfl⟩
  rw [hc2]
  go_wp2_with fail
  go_ret
  exact ⟨rfl, B⟩
 rw [Bool.true_and]
 by_cases h3 : 0 ≤ x3
 ·by_cases h4 : x3 < x4
  ·by_cases h5 : x4 ≤ 1000000000000
   ·have e0 : (decide (0 ≤ x3) && (decide (x3 < x4) && (decide (x4 ≤ 1000000000000) && decide (x5.size ≤ 24)))) = decide (x5.size ≤ 24) := by rw [decide_eq_true h3, decide_eq_true h4, decide_eq_true h5]; rfl
    rw [e0]
    by_cases h6 : (x5.size : Int) ≤ 24
    ·rw [decide_eq_true (show x5.size ≤ 24 by omega)]
     clear e0
     go_enter Tryz.func85, Tryz.ntmps85
     go_wp2_with fail
     refine (C0 _).mono ?_
     rintro e w' ⟨rfl, rfl⟩
     rw [hc0]
     go_wp2_with fail
     refine (C1 _).mono ?_
     rintro e w' ⟨rfl, rfl⟩
     rw [hc1]
     go_wp2_with fail
     refine (C2 _).mono ?_
     rintro e w' ⟨rfl, rfl⟩
     rw [hc2]
     go_wp2_with fail
     go_ret
     exact ⟨by first | rfl | simp [h6], B⟩
    ·rw [decide_eq_false (show ¬ x5.size ≤ 24 by omega)]
     clear e0
     go_enter Tryz.func85, Tryz.ntmps85
     go_wp2_with fail
     refine (C0 _).mono ?_
     rintro e w' ⟨rfl, rfl⟩
     rw [hc0]
     go_wp2_with fail
     refine (C1 _).mono ?_
     rintro e w' ⟨rfl, rfl⟩
     rw [hc1]
     go_wp2_with fail
     refine (C2 _).mono ?_
     rintro e w' ⟨rfl, rfl⟩
     rw [hc2]
     go_wp2_with fail
     go_ret
     exact ⟨by first | rfl | simp [h6] | (rw [decide_eq_false (by omega)]), B⟩
   ·rw [decide_eq_true h3, decide_eq_true h4, decide_eq_false h5, Bool.false_and, Bool.and_false, Bool.and_false]
    go_enter Tryz.func85, Tryz.ntmps85
    go_wp2_with fail
    refine (C0 _).mono ?_
    rintro e w' ⟨rfl, rfl⟩
    rw [hc0]
    go_wp2_with fail
    refine (C1 _).mono ?_
    rintro e w' ⟨rfl, rfl⟩
    rw [hc1]
    go_wp2_with fail
    refine (C2 _).mono ?_
    rintro e w' ⟨rfl, rfl⟩
    rw [hc2]
    go_wp2_with fail
    go_ret
    exact ⟨by first | rfl | simp [h5], B⟩
  ·rw [decide_eq_true h3, decide_eq_false h4, Bool.false_and, Bool.and_false]
   go_enter Tryz.func85, Tryz.ntmps85
   go_wp2_with fail
   refine (C0 _).mono ?_
   rintro e w' ⟨rfl, rfl⟩
   rw [hc0]
   go_wp2_with fail
   refine (C1 _).mono ?_
   rintro e w' ⟨rfl, rfl⟩
   rw [hc1]
   go_wp2_with fail
   refine (C2 _).mono ?_
   rintro e w' ⟨rfl, rfl⟩
   rw [hc2]
   go_wp2_with fail
   go_ret
   exact ⟨by first | rfl | simp [h4], B⟩
 ·rw [decide_eq_false h3, Bool.false_and]
  go_enter Tryz.func85, Tryz.ntmps85
  go_wp2_with fail
  refine (C0 _).mono ?_
  rintro e w' ⟨rfl, rfl⟩
  rw [hc0]
  go_wp2_with fail
  refine (C1 _).mono ?_
  rintro e w' ⟨rfl, rfl⟩
  rw [hc1]
  go_wp2_with fail
  refine (C2 _).mono ?_
  rintro e w' ⟨rfl, rfl⟩
  rw [hc2]
  go_wp2_with fail
  go_ret
  exact ⟨by first | rfl | simp [h3], B⟩

theorem eK {M : Nat → FrT} {k n : Nat} (h : buA M (k + 1) = false) (hk : k < n) : buB M n = false := by unfold buB; rw [kh h hk]; simp
theorem en (a : Option Addr) (n c : Nat) (M : Nat → FrT) (w : World) (hm : n ≤ maxLen) (hs : ae w a (n * 6) (av M)) (hz : ∀ i, i < n → (M i).2.2.2.2.2.size ≤ maxLen) :
 Calls Tryz.prog 45 #[.slice a n c] w fun e w' => e = .returned (.bool (buB M n)) ∧ Below w.heap.size w w' := by
 have HZ : Hid (∀ i, i < n → (M i).2.2.2.2.2.size ≤ maxLen) := hz
 have HS : Hid (ae w a (n * 6) (av M)) := hs
 clear hz hs
 unfold maxLen at hm
 by_cases h60 : 60 < (n : Int)
 ·have e0 : buB M n = false := by unfold buB; rw [decide_eq_false (by omega)]; rfl
  rw [e0]
  go_enter Tryz.func45, Tryz.ntmps45
  go_wp2_with fail
  go_ret
  exact ⟨rfl, Below.refl _ _⟩
 have e0 : Hid (buB M n = buA M n) := by unfold buB; rw [decide_eq_true (by omega)]; rfl
 go_enter Tryz.func45, Tryz.ntmps45
 go_wp2_with fail
 go_loopw [3] (fun i wr => ∃ (k : Nat), k ≤ n ∧ i = .int .i64 k ∧ buA M k = true ∧ Below w.heap.size w wr) (fun i _ => n - (intOf i).toNat)
 case atStart => exact ⟨0, Nat.zero_le _, rfl, rfl, Below.refl _ _⟩
 case round =>
  obtain ⟨k, hk, rfl, hA, B⟩ := hrel
  by_cases hlt : k < n
  ·have HLT : Hid (k < n) := hlt
   have hli : (k : Int) < (n : Int) := by omega
   obtain ⟨x0, x1, x2, x3, x4, x5, hM⟩ := bF M k
   obtain ⟨b, off, rfl, hf⟩ : ∃ b off, a = some ⟨b, off, none⟩ ∧ Cs w b off (n * 6) (av M) := by
    rcases HS.out with q | q
    ·exact absurd q (by omega)
    ·exact q
   have hf' := hf.below B hf.1
   have hbb := hf'.1
   obtain ⟨c0, c1, c2, c3, c4, c5⟩ := hf'.elFrame hlt hM
   have hz5 := HZ.out k hlt
   rw [hM] at hz5
   have CF := fun w' => cX x0 x1 x2 x3 x4 x5 w' hz5
   have HA : Hid (buA M (k + 1) = (frB x0 x1 x2 x3 x4 x5 && (decide (k = 0) || !decide (fSt (M k) < fSt (M (k - 1)))))) := by rw [Hid, buA, hA, hM]; rfl
   have HSt : Hid (fSt (M k) = x3) := by rw [Hid, hM]; rfl
   cases hfr : frB x0 x1 x2 x3 x4 x5
   ·have HN : Hid (buA M (k + 1) = false) := by rw [Hid, HA.out, hfr]; rfl
    rw [hfr] at CF
    clear HA hM hf hf' HS HZ hA hz5 hlt
    have SK : Hid (∀ w', Below wr.heap.size wr w' → ((fun w' => w'.cell? ⟨b, off + k * 6, none⟩ = some (.int .i64 x0) ∧ w'.cell? ⟨b, off + k * 6 + 1, none⟩ = some (.int .i64 x1) ∧ w'.cell? ⟨b, off + k * 6 + 2, none⟩ = some (.int .i64 x2) ∧ w'.cell? ⟨b, off + k * 6 + 3, none⟩ = some (.int .i64 x3) ∧ w'.cell? ⟨b, off + k * 6 + 4, none⟩ = some (.int .i64 x4) ∧ w'.cell? ⟨b, off + k * 6 + 5, none⟩ = some (.string x5))) w') := fun w' hw => ⟨(by rw [hw.cell (p := ⟨b, off + k * 6, none⟩) hbb]; exact c0), (by rw [hw.cell (p := ⟨b, off + k * 6 + 1, none⟩) hbb]; exact c1), (by rw [hw.cell (p := ⟨b, off + k * 6 + 2, none⟩) hbb]; exact c2), (by rw [hw.cell (p := ⟨b, off + k * 6 + 3, none⟩) hbb]; exact c3), (by rw [hw.cell (p := ⟨b, off + k * 6 + 4, none⟩) hbb]; exact c4), (by rw [hw.cell (p := ⟨b, off + k * 6 + 5, none⟩) hbb]; exact c5)⟩
    go_upto_region 6 with fail
    refine wp_region_held_drew (S := (fun w' => w'.cell? ⟨b, off + k * 6, none⟩ = some (.int .i64 x0) ∧ w'.cell? ⟨b, off + k * 6 + 1, none⟩ = some (.int .i64 x1) ∧ w'.cell? ⟨b, off + k * 6 + 2, none⟩ = some (.int .i64 x2) ∧ w'.cell? ⟨b, off + k * 6 + 3, none⟩ = some (.int .i64 x3) ∧ w'.cell? ⟨b, off + k * 6 + 4, none⟩ = some (.int .i64 x4) ∧ w'.cell? ⟨b, off + k * 6 + 5, none⟩ = some (.string x5))) (by kernel_rfl) ?_ (fun hHeld => ?_)
    ·first | exact SK.out _ XB | exact SK.out _ zD
    have XB : Below wr.heap.size wr wr.drew := Below.drew (Below.refl _ _)
    generalize wr.drew = vx at *
    refine zT4 0 ?_
    refine zQ 4 fun K hK => ?_
    go_simp
    refine (CF vx).mono ?_; rintro ee vx ⟨rfl, hbl⟩; (replace XB := XB.trans (hbl.mono XB.size)); (clear hbl)
    (try go_wp2_with fail)
    refine hK.out _ _ ?_ (fun hHeld => ?_)
    ·first | exact SK.out _ XB | exact SK.out _ zD
    clear hK K
    (try simp only [zA])
    refine zT2 5 ?_
    refine zTn 7 ?_
    refine zTn 8 ?_
    refine zTn 9 ?_
    refine zTn 10 ?_
    refine zTn 11 ?_
    refine zTn 12 ?_
    refine zTn 13 ?_
    refine zTn 14 ?_
    refine zTn 15 ?_
    refine zTn 16 ?_
    refine zTn 17 ?_
    refine zTn 18 ?_
    refine zTn 19 ?_
    refine zTn 20 ?_
    refine zTn 21 ?_
    refine zTn 22 ?_
    refine zTk 23 ?_
    refine wpAnyH_done (by kernel_rfl) ?_ _
    replace B := B.trans (XB.mono B.size)
    clear SK XB
    go_wp2_with fail
    go_ret
    exact ⟨ab (eK HN.out HLT.out).symm, B⟩
   rw [hfr] at CF
   by_cases hk0 : k = 0
   ·have HT : Hid (buA M (k + 1) = true) := by rw [Hid, HA.out, hfr, decide_eq_true hk0]; rfl
    have hd0 : decide (0 < (k : Int)) = false := decide_eq_false (by omega)
    have hd0n : decide (0 < k) = false := decide_eq_false (by omega)
    clear HA hM hf hf' HS hA hz5 hlt hk0 HSt
    have SK : Hid (∀ w', Below wr.heap.size wr w' → ((fun w' => w'.cell? ⟨b, off + k * 6, none⟩ = some (.int .i64 x0) ∧ w'.cell? ⟨b, off + k * 6 + 1, none⟩ = some (.int .i64 x1) ∧ w'.cell? ⟨b, off + k * 6 + 2, none⟩ = some (.int .i64 x2) ∧ w'.cell? ⟨b, off + k * 6 + 3, none⟩ = some (.int .i64 x3) ∧ w'.cell? ⟨b, off + k * 6 + 4, none⟩ = some (.int .i64 x4) ∧ w'.cell? ⟨b, off + k * 6 + 5, none⟩ = some (.string x5))) w') := fun w' hw => ⟨(by rw [hw.cell (p := ⟨b, off + k * 6, none⟩) hbb]; exact c0), (by rw [hw.cell (p := ⟨b, off + k * 6 + 1, none⟩) hbb]; exact c1), (by rw [hw.cell (p := ⟨b, off + k * 6 + 2, none⟩) hbb]; exact c2), (by rw [hw.cell (p := ⟨b, off + k * 6 + 3, none⟩) hbb]; exact c3), (by rw [hw.cell (p := ⟨b, off + k * 6 + 4, none⟩) hbb]; exact c4), (by rw [hw.cell (p := ⟨b, off + k * 6 + 5, none⟩) hbb]; exact c5)⟩
    go_upto_region 6 with fail
    refine wp_region_held_drew (S := (fun w' => w'.cell? ⟨b, off + k * 6, none⟩ = some (.int .i64 x0) ∧ w'.cell? ⟨b, off + k * 6 + 1, none⟩ = some (.int .i64 x1) ∧ w'.cell? ⟨b, off + k * 6 + 2, none⟩ = some (.int .i64 x2) ∧ w'.cell? ⟨b, off + k * 6 + 3, none⟩ = some (.int .i64 x3) ∧ w'.cell? ⟨b, off + k * 6 + 4, none⟩ = some (.int .i64 x4) ∧ w'.cell? ⟨b, off + k * 6 + 5, none⟩ = some (.string x5))) (by kernel_rfl) ?_ (fun hHeld => ?_)
    ·first | exact SK.out _ XB | exact SK.out _ zD
    have XB : Below wr.heap.size wr wr.drew := Below.drew (Below.refl _ _)
    generalize wr.drew = vx at *
    refine zT4 0 ?_
    refine zQ 4 fun K hK => ?_
    go_simp
    refine (CF vx).mono ?_; rintro ee vx ⟨rfl, hbl⟩; (replace XB := XB.trans (hbl.mono XB.size)); (clear hbl)
    (try go_wp2_with fail)
    refine hK.out _ _ ?_ (fun hHeld => ?_)
    ·first | exact SK.out _ XB | exact SK.out _ zD
    clear hK K
    (try simp only [zA])
    refine zT4 5 ?_
    (try simp only [hd0, hd0n])
    refine zTk 9 ?_
    refine zTn 10 ?_
    refine zTn 11 ?_
    refine zTn 12 ?_
    refine zTn 13 ?_
    refine zTn 14 ?_
    refine zTn 15 ?_
    refine zTn 16 ?_
    refine zTn 17 ?_
    refine zTn 18 ?_
    refine zTn 19 ?_
    refine zTn 20 ?_
    refine zTn 21 ?_
    refine zT2 22 ?_
    refine wpAnyH_done (by kernel_rfl) ?_ _
    replace B := B.trans (XB.mono B.size)
    clear SK XB
    go_wp2_with fail
    go_roundw
    case rel => exact ⟨k + 1, HLT.out, by go_num, HT.out, B⟩
    case measure => have hlt' := HLT.out; simp [intOf]; omega
   ·obtain ⟨y0, y1, y2, ps, y4, y5, hP⟩ := bF M (k - 1)
    obtain ⟨-, -, -, cp, -, -⟩ := hf'.elFrame (show k - 1 < n by omega) hP
    have hd0 : decide (0 < (k : Int)) = true := decide_eq_true (by omega)
    have hd0n : decide (0 < k) = true := decide_eq_true (by omega)
    have hw1 : IntKind.i64.wrap ((k : Int) - 1) = ((k - 1 : Nat) : Int) := by rw [show (k : Int) - 1 = ((k - 1 : Nat) : Int) by omega]; exact Go.IntWalk.i64_in _ ⟨by omega, by omega⟩
    have hx1 : wrap64 ((k : Int) - 1) = ((k - 1 : Nat) : Int) := by rw [show (k : Int) - 1 = ((k - 1 : Nat) : Int) by omega]; exact Go.IntWalk.wrap64_in _ ⟨by omega, by omega⟩
    have hpl : ((k - 1 : Nat) : Int) < (n : Int) := by omega
    have HPs : Hid (fSt (M (k - 1)) = ps) := by rw [Hid, hP]; rfl
    by_cases hx : x3 < ps
    ·have HN : Hid (buA M (k + 1) = false) := by rw [Hid, HA.out, hfr, decide_eq_false hk0, HSt.out, HPs.out, decide_eq_true hx]; rfl
     have hdx : decide (x3 < ps) = true := decide_eq_true hx
     clear HA hM hP hf hf' HS HZ hA hz5 hlt HSt HPs
     have SK : Hid (∀ w', Below wr.heap.size wr w' → ((fun w' => w'.cell? ⟨b, off + k * 6, none⟩ = some (.int .i64 x0) ∧ w'.cell? ⟨b, off + k * 6 + 1, none⟩ = some (.int .i64 x1) ∧ w'.cell? ⟨b, off + k * 6 + 2, none⟩ = some (.int .i64 x2) ∧ w'.cell? ⟨b, off + k * 6 + 3, none⟩ = some (.int .i64 x3) ∧ w'.cell? ⟨b, off + k * 6 + 4, none⟩ = some (.int .i64 x4) ∧ w'.cell? ⟨b, off + k * 6 + 5, none⟩ = some (.string x5) ∧ w'.cell? ⟨b, off + (k - 1) * 6 + 3, none⟩ = some (.int .i64 ps))) w') := fun w' hw => ⟨(by rw [hw.cell (p := ⟨b, off + k * 6, none⟩) hbb]; exact c0), (by rw [hw.cell (p := ⟨b, off + k * 6 + 1, none⟩) hbb]; exact c1), (by rw [hw.cell (p := ⟨b, off + k * 6 + 2, none⟩) hbb]; exact c2), (by rw [hw.cell (p := ⟨b, off + k * 6 + 3, none⟩) hbb]; exact c3), (by rw [hw.cell (p := ⟨b, off + k * 6 + 4, none⟩) hbb]; exact c4), (by rw [hw.cell (p := ⟨b, off + k * 6 + 5, none⟩) hbb]; exact c5), (by rw [hw.cell (p := ⟨b, off + (k - 1) * 6 + 3, none⟩) hbb]; exact cp)⟩
     go_upto_region 6 with fail
     refine wp_region_held_drew (S := (fun w' => w'.cell? ⟨b, off + k * 6, none⟩ = some (.int .i64 x0) ∧ w'.cell? ⟨b, off + k * 6 + 1, none⟩ = some (.int .i64 x1) ∧ w'.cell? ⟨b, off + k * 6 + 2, none⟩ = some (.int .i64 x2) ∧ w'.cell? ⟨b, off + k * 6 + 3, none⟩ = some (.int .i64 x3) ∧ w'.cell? ⟨b, off + k * 6 + 4, none⟩ = some (.int .i64 x4) ∧ w'.cell? ⟨b, off + k * 6 + 5, none⟩ = some (.string x5) ∧ w'.cell? ⟨b, off + (k - 1) * 6 + 3, none⟩ = some (.int .i64 ps))) (by kernel_rfl) ?_ (fun hHeld => ?_)
     ·first | exact SK.out _ XB | exact SK.out _ zD
     have XB : Below wr.heap.size wr wr.drew := Below.drew (Below.refl _ _)
     generalize wr.drew = vx at *
     refine zT4 0 ?_
     refine zQ 4 fun K hK => ?_
     go_simp
     refine (CF vx).mono ?_; rintro ee vx ⟨rfl, hbl⟩; (replace XB := XB.trans (hbl.mono XB.size)); (clear hbl)
     (try go_wp2_with fail)
     refine hK.out _ _ ?_ (fun hHeld => ?_)
     ·first | exact SK.out _ XB | exact SK.out _ zD
     clear hK K
     (try simp only [zA])
     refine zT4 5 ?_
     (try simp only [hd0, hd0n])
     refine zT8 9 ?_
     refine zTk 17 ?_
     (try simp only [hw1, hx1])
     refine zT4 18 ?_
     (try simp only [hdx])
     refine zT2 22 ?_
     refine wpAnyH_done (by kernel_rfl) ?_ _
     replace B := B.trans (XB.mono B.size)
     clear SK XB
     go_wp2_with fail
     go_ret
     exact ⟨ab (eK HN.out HLT.out).symm, B⟩
    ·have HT : Hid (buA M (k + 1) = true) := by rw [Hid, HA.out, hfr, decide_eq_false hk0, HSt.out, HPs.out, decide_eq_false hx]; rfl
     have hdx : decide (x3 < ps) = false := decide_eq_false hx
     clear HA hM hP hf hf' HS hA hz5 hlt HSt HPs
     have SK : Hid (∀ w', Below wr.heap.size wr w' → ((fun w' => w'.cell? ⟨b, off + k * 6, none⟩ = some (.int .i64 x0) ∧ w'.cell? ⟨b, off + k * 6 + 1, none⟩ = some (.int .i64 x1) ∧ w'.cell? ⟨b, off + k * 6 + 2, none⟩ = some (.int .i64 x2) ∧ w'.cell? ⟨b, off + k * 6 + 3, none⟩ = some (.int .i64 x3) ∧ w'.cell? ⟨b, off + k * 6 + 4, none⟩ = some (.int .i64 x4) ∧ w'.cell? ⟨b, off + k * 6 + 5, none⟩ = some (.string x5) ∧ w'.cell? ⟨b, off + (k - 1) * 6 + 3, none⟩ = some (.int .i64 ps))) w') := fun w' hw => ⟨(by rw [hw.cell (p := ⟨b, off + k * 6, none⟩) hbb]; exact c0), (by rw [hw.cell (p := ⟨b, off + k * 6 + 1, none⟩) hbb]; exact c1), (by rw [hw.cell (p := ⟨b, off + k * 6 + 2, none⟩) hbb]; exact c2), (by rw [hw.cell (p := ⟨b, off + k * 6 + 3, none⟩) hbb]; exact c3), (by rw [hw.cell (p := ⟨b, off + k * 6 + 4, none⟩) hbb]; exact c4), (by rw [hw.cell (p := ⟨b, off + k * 6 + 5, none⟩) hbb]; exact c5), (by rw [hw.cell (p := ⟨b, off + (k - 1) * 6 + 3, none⟩) hbb]; exact cp)⟩
     go_upto_region 6 with fail
     refine wp_region_held_drew (S := (fun w' => w'.cell? ⟨b, off + k * 6, none⟩ = some (.int .i64 x0) ∧ w'.cell? ⟨b, off + k * 6 + 1, none⟩ = some (.int .i64 x1) ∧ w'.cell? ⟨b, off + k * 6 + 2, none⟩ = some (.int .i64 x2) ∧ w'.cell? ⟨b, off + k * 6 + 3, none⟩ = some (.int .i64 x3) ∧ w'.cell? ⟨b, off + k * 6 + 4, none⟩ = some (.int .i64 x4) ∧ w'.cell? ⟨b, off + k * 6 + 5, none⟩ = some (.string x5) ∧ w'.cell? ⟨b, off + (k - 1) * 6 + 3, none⟩ = some (.int .i64 ps))) (by kernel_rfl) ?_ (fun hHeld => ?_)
     ·first | exact SK.out _ XB | exact SK.out _ zD
     have XB : Below wr.heap.size wr wr.drew := Below.drew (Below.refl _ _)
     generalize wr.drew = vx at *
     refine zT4 0 ?_
     refine zQ 4 fun K hK => ?_
     go_simp
     refine (CF vx).mono ?_; rintro ee vx ⟨rfl, hbl⟩; (replace XB := XB.trans (hbl.mono XB.size)); (clear hbl)
     (try go_wp2_with fail)
     refine hK.out _ _ ?_ (fun hHeld => ?_)
     ·first | exact SK.out _ XB | exact SK.out _ zD
     clear hK K
     (try simp only [zA])
     refine zT4 5 ?_
     (try simp only [hd0, hd0n])
     refine zT8 9 ?_
     refine zTk 17 ?_
     (try simp only [hw1, hx1])
     refine zT4 18 ?_
     (try simp only [hdx])
     refine zT2 22 ?_
     refine wpAnyH_done (by kernel_rfl) ?_ _
     replace B := B.trans (XB.mono B.size)
     clear SK XB
     go_wp2_with fail
     go_roundw
     case rel => exact ⟨k + 1, HLT.out, by go_num, HT.out, B⟩
     case measure => have hlt' := HLT.out; simp [intOf]; omega
  ·have hkn : k = n := by omega
   subst hkn
   have hli : ¬ (k : Int) < (k : Int) := by omega
   go_wp2_with fail
   go_ret
   exact ⟨by first | exact ab (e0.out.trans hA).symm | rw [e0.out, hA], B⟩
def frJ (x0 x1 x2 x3 x4 : Int) (x5 : ByteArray) : Bool := aO x0 && (decide (0 ≤ x1) && (decide (x1 ≤ 15) && (okT x2 && (okT x3 && (okT x4 && (decide (x3 < x4) && decide ((x5.size : Int) ≤ 24)))))))
theorem ko (x0 x1 x2 x3 x4 : Int) (x5 : ByteArray) : frB x0 x1 x2 x3 x4 x5 = frJ x0 x1 x2 x3 x4 x5 := by
 unfold frB frJ
 rw [Bool.eq_iff_iff]
 simp [okT]
 omega
theorem fZ (x0 x1 x2 x3 x4 : Int) (x5 : ByteArray) (w : World) (hs : x5.size ≤ maxLen) :
 Calls Tryz.prog 185 #[.agg #[.int .i64 x0, .int .i64 x1, .int .i64 x2, .int .i64 x3, .int .i64 x4, .string x5]] w fun e w' => e = .returned (.bool (frB x0 x1 x2 x3 x4 x5)) ∧ Below w.heap.size w w' := by
 unfold maxLen at hs
 rw [ko]
 have B := Below.nw w (.cells #[.int .i64 x0, .int .i64 x1, .int .i64 x2, .int .i64 x3, .int .i64 x4, .string x5] 103)
 have C0 := fun w' => au x0 w'
 have C3 := fun w' => aD x2 w'
 have C4 := fun w' => aD x3 w'
 have C5 := fun w' => aD x4 w'
 unfold frJ
 cases h0 : aO x0
 ·rw [Bool.false_and]
  go_enter Tryz.func185, Tryz.ntmps185
  go_wp2_with fail
  refine (C0 _).mono ?_
  rintro e w' ⟨rfl, rfl⟩
  rw [h0]
  go_wp2_with fail
  go_ret
  exact ⟨by first | rfl | simp [h0] | (apply ab; simp [h0]), B⟩
 rw [Bool.true_and]
 by_cases h1 : 0 ≤ x1
 rotate_left
 ·rw [decide_eq_false h1]; rw [Bool.false_and]
  go_enter Tryz.func185, Tryz.ntmps185
  go_wp2_with fail
  refine (C0 _).mono ?_
  rintro e w' ⟨rfl, rfl⟩
  rw [h0]
  go_wp2_with fail
  go_ret
  exact ⟨by first | rfl | simp [h1] | (apply ab; simp [h1]), B⟩
 rw [decide_eq_true h1]
 rw [Bool.true_and]
 by_cases h2 : x1 ≤ 15
 rotate_left
 ·rw [decide_eq_false h2]; rw [Bool.false_and]
  go_enter Tryz.func185, Tryz.ntmps185
  go_wp2_with fail
  refine (C0 _).mono ?_
  rintro e w' ⟨rfl, rfl⟩
  rw [h0]
  go_wp2_with fail
  go_ret
  exact ⟨by first | rfl | simp [h2] | (apply ab; simp [h2]), B⟩
 rw [decide_eq_true h2]
 rw [Bool.true_and]
 cases h3 : okT x2
 ·rw [Bool.false_and]
  go_enter Tryz.func185, Tryz.ntmps185
  go_wp2_with fail
  refine (C0 _).mono ?_
  rintro e w' ⟨rfl, rfl⟩
  rw [h0]
  go_wp2_with fail
  refine (C3 _).mono ?_
  rintro e w' ⟨rfl, rfl⟩
  rw [h3]
  go_wp2_with fail
  go_ret
  exact ⟨by first | rfl | simp [h3] | (apply ab; simp [h3]), B⟩
 rw [Bool.true_and]
 cases h4 : okT x3
 ·rw [Bool.false_and]
  go_enter Tryz.func185, Tryz.ntmps185
  go_wp2_with fail
  refine (C0 _).mono ?_
  rintro e w' ⟨rfl, rfl⟩
  rw [h0]
  go_wp2_with fail
  refine (C3 _).mono ?_
  rintro e w' ⟨rfl, rfl⟩
  rw [h3]
  go_wp2_with fail
  refine (C4 _).mono ?_
  rintro e w' ⟨rfl, rfl⟩
  rw [h4]
  go_wp2_with fail
  go_ret
  exact ⟨by first | rfl | simp [h4] | (apply ab; simp [h4]), B⟩
 rw [Bool.true_and]
 cases h5 : okT x4
 ·rw [Bool.false_and]
  go_enter Tryz.func185, Tryz.ntmps185
  go_wp2_with fail
  refine (C0 _).mono ?_
  rintro e w' ⟨rfl, rfl⟩
  rw [h0]
  go_wp2_with fail
  refine (C3 _).mono ?_
  rintro e w' ⟨rfl, rfl⟩
  rw [h3]
  go_wp2_with fail
  refine (C4 _).mono ?_
  rintro e w' ⟨rfl, rfl⟩
  rw [h4]
  go_wp2_with fail
  refine (C5 _).mono ?_
  rintro e w' ⟨rfl, rfl⟩
  rw [h5]
  go_wp2_with fail
  go_ret
  exact ⟨by first | rfl | simp [h5] | (apply ab; simp [h5]), B⟩
 rw [Bool.true_and]
 by_cases h6 : x3 < x4
 rotate_left
 ·rw [decide_eq_false h6]; rw [Bool.false_and]
  go_enter Tryz.func185, Tryz.ntmps185
  go_wp2_with fail
  refine (C0 _).mono ?_
  rintro e w' ⟨rfl, rfl⟩
  rw [h0]
  go_wp2_with fail
  refine (C3 _).mono ?_
  rintro e w' ⟨rfl, rfl⟩
  rw [h3]
  go_wp2_with fail
  refine (C4 _).mono ?_
  rintro e w' ⟨rfl, rfl⟩
  rw [h4]
  go_wp2_with fail
  refine (C5 _).mono ?_
  rintro e w' ⟨rfl, rfl⟩
  rw [h5]
  go_wp2_with fail
  go_ret
  exact ⟨by first | rfl | simp [h6] | (apply ab; simp [h6]), B⟩
 rw [decide_eq_true h6]
 rw [Bool.true_and]
 by_cases h7 : (x5.size : Int) ≤ 24
 rotate_left
 ·rw [decide_eq_false h7]
  go_enter Tryz.func185, Tryz.ntmps185
  go_wp2_with fail
  refine (C0 _).mono ?_
  rintro e w' ⟨rfl, rfl⟩
  rw [h0]
  go_wp2_with fail
  refine (C3 _).mono ?_
  rintro e w' ⟨rfl, rfl⟩
  rw [h3]
  go_wp2_with fail
  refine (C4 _).mono ?_
  rintro e w' ⟨rfl, rfl⟩
  rw [h4]
  go_wp2_with fail
  refine (C5 _).mono ?_
  rintro e w' ⟨rfl, rfl⟩
  rw [h5]
  go_wp2_with fail
  go_ret
  exact ⟨by first | rfl | simp [h7] | (apply ab; simp [h7]), B⟩
 rw [decide_eq_true h7]
 go_enter Tryz.func185, Tryz.ntmps185
 go_wp2_with fail
 refine (C0 _).mono ?_
 rintro e w' ⟨rfl, rfl⟩
 rw [h0]
 go_wp2_with fail
 refine (C3 _).mono ?_
 rintro e w' ⟨rfl, rfl⟩
 rw [h3]
 go_wp2_with fail
 refine (C4 _).mono ?_
 rintro e w' ⟨rfl, rfl⟩
 rw [h4]
 go_wp2_with fail
 refine (C5 _).mono ?_
 rintro e w' ⟨rfl, rfl⟩
 rw [h5]
 go_wp2_with fail
 go_ret
 exact ⟨by first | rfl | simp [h7] | (apply ab; simp [h7]), B⟩
def lsS (M : Nat → FrT) : Nat → Int
 | 0 => 0
 | k + 1 => fSt (M k)
theorem ku {M : Nat → FrT} {k : Nat} (h : frM (M k) = true) : (decide (k = 0) || !decide (fSt (M k) < fSt (M (k - 1)))) = !decide (fSt (M k) < lsS M k) := by
 cases k with
 | zero => have := (frM_t h).2.2.2.1; unfold lsS; rw [decide_eq_false (show ¬ fSt (M 0) < 0 by omega)]; rfl
 | succ k => rw [decide_eq_false (by omega)]; rfl
theorem eg (a : Option Addr) (n c : Nat) (M : Nat → FrT) (w : World) (hm : n ≤ maxLen) (hs : ae w a (n * 6) (av M)) (hz : ∀ i, i < n → (M i).2.2.2.2.2.size ≤ maxLen) :
 Calls Tryz.prog 152 #[.slice a n c] w fun e w' => e = .returned (.bool (buB M n)) ∧ Below w.heap.size w w' := by
 have HZ : Hid (∀ i, i < n → (M i).2.2.2.2.2.size ≤ maxLen) := hz
 have HS : Hid (ae w a (n * 6) (av M)) := hs
 clear hz hs
 unfold maxLen at hm
 by_cases h60 : 60 < (n : Int)
 ·have e0 : buB M n = false := by unfold buB; rw [decide_eq_false (by omega)]; rfl
  rw [e0]
  go_enter Tryz.func152, Tryz.ntmps152
  go_wp2_with fail
  go_ret
  exact ⟨rfl, Below.refl _ _⟩
 have e0 : Hid (buB M n = buA M n) := by unfold buB; rw [decide_eq_true (by omega)]; rfl
 go_enter Tryz.func152, Tryz.ntmps152
 go_wp2_with fail
 go_loopw [3, 11] (fun l i wr => ∃ (k : Nat), k ≤ n ∧ i = .int .i64 k ∧ l = .int .i64 (lsS M k) ∧ buA M k = true ∧ Below w.heap.size w wr) (fun _ i _ => n - (intOf i).toNat)
 case atStart => exact ⟨0, Nat.zero_le _, rfl, rfl, rfl, Below.refl _ _⟩
 case round =>
  obtain ⟨k, hk, rfl, rfl, hA, B⟩ := hrel
  by_cases hlt : k < n
  ·have HLT : Hid (k < n) := hlt
   have hli : (k : Int) < (n : Int) := by omega
   obtain ⟨x0, x1, x2, x3, x4, x5, hM⟩ := bF M k
   obtain ⟨b, off, rfl, hf⟩ : ∃ b off, a = some ⟨b, off, none⟩ ∧ Cs w b off (n * 6) (av M) := by
    rcases HS.out with q | q
    ·exact absurd q (by omega)
    ·exact q
   have hf' := hf.below B hf.1
   obtain ⟨c0, c1, c2, c3, c4, c5⟩ := hf'.elFrame hlt hM
   have hz5 := HZ.out k hlt
   rw [hM] at hz5
   have CF := fun w' => fZ x0 x1 x2 x3 x4 x5 w' hz5
   have hst : fSt (M k) = x3 := by rw [hM]; rfl
   have hfk : frM (M k) = frB x0 x1 x2 x3 x4 x5 := by rw [hM]; rfl
   have A1 := Below.nw wr (.cells #[.int .i64 x0, .int .i64 x1, .int .i64 x2, .int .i64 x3, .int .i64 x4, .string x5] 103)
   have X1 := eH.new wr x0 x1 x2 x3 x4 x5 103
   replace B := B.trans (A1.mono B.size)
   have HL : Hid (lsS M (k + 1) = x3) := hst
   cases hfr : frB x0 x1 x2 x3 x4 x5
   ·have HN : Hid (buA M (k + 1) = false) := by rw [Hid, buA, hA, hfk, hfr]; rfl
    rw [hfr] at CF
    clear hM hf hf' HS HZ hA hz5 hlt hst hfk A1 X1 HL
    go_wp2_with fail
    refine (CF _).mono ?_
    rintro e v1 ⟨rfl, hb⟩
    replace B := B.trans (hb.mono B.size)
    clear hb
    go_wp2_with fail
    go_ret
    exact ⟨ab (eK HN.out HLT.out).symm, B⟩
   ·have hor := ku (M := M) (k := k) (by rw [hfk, hfr])
    rw [hst] at hor
    by_cases hle : x3 < lsS M k
    ·have HN : Hid (buA M (k + 1) = false) := by rw [Hid, buA, hA, hfk, hfr, hst, hor, decide_eq_true hle]; rfl
     rw [hfr] at CF
     clear hM hf hf' HS HZ hA hz5 hlt hst hfk A1 HL hor
     generalize lsS M k = lk at *
     go_wp2_with fail
     refine (CF _).mono ?_
     rintro e v1 ⟨rfl, hb⟩
     replace B := B.trans (hb.mono B.size)
     obtain ⟨y0, y1, y2, y3, y4, y5, y6⟩ := X1.below hb
     clear hb X1
     go_wp2_with fail
     go_ret
     exact ⟨ab (eK HN.out HLT.out).symm, B⟩
    ·have HT : Hid (buA M (k + 1) = true) := by rw [Hid, buA, hA, hfk, hfr, hst, hor, decide_eq_false hle]; rfl
     rw [hfr] at CF
     clear hM hf hf' HS HZ hA hz5 hlt hst hfk A1 hor
     have HLE : Hid (lsS M k = lsS M k) := rfl
     generalize hlk : lsS M k = lk at hle ⊢
     clear hlk HLE
     go_wp2_with fail
     refine (CF _).mono ?_
     rintro e v1 ⟨rfl, hb⟩
     replace B := B.trans (hb.mono B.size)
     obtain ⟨y0, y1, y2, y3, y4, y5, y6⟩ := X1.below hb
     clear hb X1
     go_wp2_with fail
     go_roundw
     case rel => exact ⟨k + 1, HLT.out, by go_num, by rw [HL.out], HT.out, B⟩
     case measure => have hlt' := HLT.out; simp [intOf]; omega
  ·have hkn : k = n := by omega
   subst hkn
   have HA : Hid (buA M k = true) := hA
   clear hA hlt HS HZ
   generalize lsS M k = lk at *
   go_wp2_with fail
   go_ret
   exact ⟨ab (by rw [e0.out, HA.out]), B⟩
end Go.Proofs.YtddijpjgkifngaaGreat
