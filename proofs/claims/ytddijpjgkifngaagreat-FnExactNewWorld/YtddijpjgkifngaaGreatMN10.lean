/- Who was heard: numbers. HeardOk in the specification. HeardOk in the p -/
import Derived.Test.YtddijpjgkifngaaGreatMN0
import Derived.Test.YtddijpjgkifngaaGreatMN6
namespace Go.Proofs.YtddijpjgkifngaaGreat
open Go.RowKit
set_option linter.unusedVariables false
set_option maxRecDepth 100000
set_option maxHeartbeats 16000000
def hrO (x : VT) : Bool := decide (0 ≤ x.1 ∧ x.1 ≤ 15) && okT x.2
def hrA (M : Nat → VT) : Nat → Bool
 | 0 => true
 | j + 1 => hrA M j && (hrO (M j) && (decide (j = 0) || decide ((M (j - 1)).1 < (M j).1)))
def hrB (M : Nat → VT) (n : Nat) : Bool := decide (n ≤ 16) && hrA M n
theorem ju {M : Nat → VT} {k n : Nat} (h : hrA M (k + 1) = false) (hk : k < n) : hrA M n = false := by
 induction n with
 | zero => omega
 | succ n ih =>
  by_cases e : k = n
  ·subst e; exact h
  ·rw [hrA, ih (by omega)]; rfl
theorem cz {M : Nat → VT} {k n : Nat} (h : hrA M (k + 1) = false) (hk : k < n) : hrB M n = false := by unfold hrB; rw [ju h hk]; simp
theorem jt {M : Nat → VT} {k n : Nat} (h : hrA M n = true) (hk : k < n) : hrO (M k) = true ∧ (k = 0 ∨ (M (k - 1)).1 < (M k).1) := by
 cases e : hrA M (k + 1)
 ·rw [ju e hk] at h; exact absurd h (by decide)
 ·rw [hrA] at e
  simp only [Bool.and_eq_true, Bool.or_eq_true, decide_eq_true_eq] at e
  exact ⟨e.2.1, e.2.2⟩
theorem kf {x : VT} (h : hrO x = true) : (0 ≤ x.1 ∧ x.1 ≤ 15) ∧ (0 ≤ x.2 ∧ x.2 ≤ 1000000000000) := by
 unfold hrO okT at h
 simp at h
 omega
theorem cY (a : Option Addr) (n c : Nat) (M : Nat → VT) (w : World) (hm : n ≤ maxLen) (hs : ae w a (n * 2) (aC M)) :
 Calls Tryz.prog 92 #[.slice a n c] w fun e w' => e = .returned (.bool (hrB M n)) ∧ Below w.heap.size w w' := by
 have HS : Hid (ae w a (n * 2) (aC M)) := hs
 clear hs
 unfold maxLen at hm
 by_cases h60 : 16 < (n : Int)
 ·have e0 : hrB M n = false := by unfold hrB; rw [decide_eq_false (by omega)]; rfl
  rw [e0]
  go_enter Tryz.func92, Tryz.ntmps92
  go_wp2_with fail
  go_ret
  exact ⟨rfl, Below.refl _ _⟩
 have e0 : Hid (hrB M n = hrA M n) := by unfold hrB; rw [decide_eq_true (by omega)]; rfl
 go_enter Tryz.func92, Tryz.ntmps92
 go_wp2_with fail
 go_loopw [3] (fun i wr => ∃ (k : Nat), k ≤ n ∧ i = .int .i64 k ∧ hrA M k = true ∧ Below w.heap.size w wr) (fun i _ => n - (intOf i).toNat)
 case atStart => exact ⟨0, Nat.zero_le _, rfl, rfl, Below.refl _ _⟩
 case round =>
  obtain ⟨k, hk, rfl, hA, B⟩ := hrel
  by_cases hlt : k < n
  ·have HLT : Hid (k < n) := hlt
   have hli : (k : Int) < (n : Int) := by omega
   obtain ⟨x0, x1, hM⟩ := bY M k
   obtain ⟨b, off, rfl, hf⟩ : ∃ b off, a = some ⟨b, off, none⟩ ∧ Cs w b off (n * 2) (aC M) := by
    rcases HS.out with q | q
    ·exact absurd q (by omega)
    ·exact q
   have hf' := hf.below B hf.1
   have hbb := hf'.1
   obtain ⟨c0, c1⟩ := hf'.elIval hlt hM
   have CA : ∀ w', Calls Tryz.prog 42 #[.int .i64 x0, .int .i64 0, .int .i64 15] w' fun e w'' => e = .returned (.bool (decide (0 ≤ x0 ∧ x0 ≤ 15))) ∧ w' = w'' := fun w' => al x0 0 15 w'
   have CB := fun w' => aE x1 w'
   have HA : Hid (hrA M (k + 1) = ((decide (0 ≤ x0 ∧ x0 ≤ 15) && okT x1) && (decide (k = 0) || decide ((M (k - 1)).1 < x0)))) := by rw [Hid, hrA, hA, hM]; rfl
   cases h1 : decide (0 ≤ x0 ∧ x0 ≤ 15)
   ·have HN : Hid (hrA M (k + 1) = false) := by rw [Hid, HA.out, h1]; rfl
    rw [h1] at CA
    clear HA hM hf hf' HS hA hlt
    have SK : Hid (∀ w', Below wr.heap.size wr w' → ((fun w' => w'.cell? ⟨b, off + k * 2, none⟩ = some (.int .i64 x0) ∧ w'.cell? ⟨b, off + k * 2 + 1, none⟩ = some (.int .i64 x1))) w') := fun w' hw => ⟨(by rw [hw.cell (p := ⟨b, off + k * 2, none⟩) hbb]; exact c0), (by rw [hw.cell (p := ⟨b, off + k * 2 + 1, none⟩) hbb]; exact c1)⟩
    go_upto_region 6 with fail
    refine wp_region_held_drew (S := (fun w' => w'.cell? ⟨b, off + k * 2, none⟩ = some (.int .i64 x0) ∧ w'.cell? ⟨b, off + k * 2 + 1, none⟩ = some (.int .i64 x1))) (by kernel_rfl) ?_ (fun hHeld => ?_)
    ·first | exact SK.out _ XB | exact SK.out _ zD
    have XB : Below wr.heap.size wr wr.drew := Below.drew (Below.refl _ _)
    generalize wr.drew = vx at *
    refine zT4 0 ?_
    refine zTk 4 ?_
    refine zQ 5 fun K hK => ?_
    go_simp
    refine (CA vx).mono ?_; rintro ee vy ⟨rfl, hvy⟩; (subst hvy)
    (try go_wp2_with fail)
    refine hK.out _ _ ?_ (fun hHeld => ?_)
    ·first | exact SK.out _ XB | exact SK.out _ zD
    clear hK K
    (try simp only [zA])
    refine zT2 6 ?_
    refine zTn 8 ?_
    refine zTn 9 ?_
    refine zTn 10 ?_
    refine zTn 11 ?_
    refine zTn 12 ?_
    refine zTn 13 ?_
    refine zTn 14 ?_
    refine zT2 15 ?_
    refine zTn 17 ?_
    refine zTn 18 ?_
    refine zTn 19 ?_
    refine zTn 20 ?_
    refine zTn 21 ?_
    refine zTn 22 ?_
    refine zTn 23 ?_
    refine zTn 24 ?_
    refine zTn 25 ?_
    refine zTn 26 ?_
    refine zTn 27 ?_
    refine zTn 28 ?_
    refine zTn 29 ?_
    refine zTn 30 ?_
    refine zTn 31 ?_
    refine zTn 32 ?_
    refine zTk 33 ?_
    refine wpAnyH_done (by kernel_rfl) ?_ _
    replace B := B.trans (XB.mono B.size)
    clear SK XB
    go_wp2_with fail
    go_ret
    exact ⟨ab (cz HN.out HLT.out).symm, B⟩
   rw [h1] at CA
   cases h2 : okT x1
   ·have HN : Hid (hrA M (k + 1) = false) := by rw [Hid, HA.out, h1, h2]; rfl
    rw [h2] at CB
    clear HA hM hf hf' HS hA hlt
    have SK : Hid (∀ w', Below wr.heap.size wr w' → ((fun w' => w'.cell? ⟨b, off + k * 2, none⟩ = some (.int .i64 x0) ∧ w'.cell? ⟨b, off + k * 2 + 1, none⟩ = some (.int .i64 x1))) w') := fun w' hw => ⟨(by rw [hw.cell (p := ⟨b, off + k * 2, none⟩) hbb]; exact c0), (by rw [hw.cell (p := ⟨b, off + k * 2 + 1, none⟩) hbb]; exact c1)⟩
    go_upto_region 6 with fail
    refine wp_region_held_drew (S := (fun w' => w'.cell? ⟨b, off + k * 2, none⟩ = some (.int .i64 x0) ∧ w'.cell? ⟨b, off + k * 2 + 1, none⟩ = some (.int .i64 x1))) (by kernel_rfl) ?_ (fun hHeld => ?_)
    ·first | exact SK.out _ XB | exact SK.out _ zD
    have XB : Below wr.heap.size wr wr.drew := Below.drew (Below.refl _ _)
    generalize wr.drew = vx at *
    refine zT4 0 ?_
    refine zTk 4 ?_
    refine zQ 5 fun K hK => ?_
    go_simp
    refine (CA vx).mono ?_; rintro ee vy ⟨rfl, hvy⟩; (subst hvy)
    (try go_wp2_with fail)
    refine hK.out _ _ ?_ (fun hHeld => ?_)
    ·first | exact SK.out _ XB | exact SK.out _ zD
    clear hK K
    (try simp only [zA])
    refine zT4 6 ?_
    refine zT2 10 ?_
    refine zTk 12 ?_
    refine zQ 13 fun K hK => ?_
    go_simp
    refine (CB vx).mono ?_; rintro ee vy ⟨rfl, hvy⟩; (subst hvy)
    (try go_wp2_with fail)
    refine hK.out _ _ ?_ (fun hHeld => ?_)
    ·first | exact SK.out _ XB | exact SK.out _ zD
    clear hK K
    (try simp only [zA])
    refine zT2 14 ?_
    refine zTk 16 ?_
    refine zTn 17 ?_
    refine zTn 18 ?_
    refine zTn 19 ?_
    refine zTn 20 ?_
    refine zTn 21 ?_
    refine zTn 22 ?_
    refine zTn 23 ?_
    refine zTn 24 ?_
    refine zTn 25 ?_
    refine zTn 26 ?_
    refine zTn 27 ?_
    refine zTn 28 ?_
    refine zTn 29 ?_
    refine zTn 30 ?_
    refine zTn 31 ?_
    refine zTn 32 ?_
    refine zTk 33 ?_
    refine wpAnyH_done (by kernel_rfl) ?_ _
    replace B := B.trans (XB.mono B.size)
    clear SK XB
    go_wp2_with fail
    go_ret
    exact ⟨ab (cz HN.out HLT.out).symm, B⟩
   rw [h2] at CB
   by_cases hk0 : k = 0
   ·have HT : Hid (hrA M (k + 1) = true) := by rw [Hid, HA.out, h1, h2, decide_eq_true hk0]; rfl
    have hd0 : decide (0 < (k : Int)) = false := decide_eq_false (by omega)
    have hd0n : decide (0 < k) = false := decide_eq_false (by omega)
    clear hk0
    clear HA hM hf hf' HS hA hlt
    have SK : Hid (∀ w', Below wr.heap.size wr w' → ((fun w' => w'.cell? ⟨b, off + k * 2, none⟩ = some (.int .i64 x0) ∧ w'.cell? ⟨b, off + k * 2 + 1, none⟩ = some (.int .i64 x1))) w') := fun w' hw => ⟨(by rw [hw.cell (p := ⟨b, off + k * 2, none⟩) hbb]; exact c0), (by rw [hw.cell (p := ⟨b, off + k * 2 + 1, none⟩) hbb]; exact c1)⟩
    go_upto_region 6 with fail
    refine wp_region_held_drew (S := (fun w' => w'.cell? ⟨b, off + k * 2, none⟩ = some (.int .i64 x0) ∧ w'.cell? ⟨b, off + k * 2 + 1, none⟩ = some (.int .i64 x1))) (by kernel_rfl) ?_ (fun hHeld => ?_)
    ·first | exact SK.out _ XB | exact SK.out _ zD
    have XB : Below wr.heap.size wr wr.drew := Below.drew (Below.refl _ _)
    generalize wr.drew = vx at *
    refine zT4 0 ?_
    refine zTk 4 ?_
    refine zQ 5 fun K hK => ?_
    go_simp
    refine (CA vx).mono ?_; rintro ee vy ⟨rfl, hvy⟩; (subst hvy)
    (try go_wp2_with fail)
    refine hK.out _ _ ?_ (fun hHeld => ?_)
    ·first | exact SK.out _ XB | exact SK.out _ zD
    clear hK K
    (try simp only [zA])
    refine zT4 6 ?_
    refine zT2 10 ?_
    refine zTk 12 ?_
    refine zQ 13 fun K hK => ?_
    go_simp
    refine (CB vx).mono ?_; rintro ee vy ⟨rfl, hvy⟩; (subst hvy)
    (try go_wp2_with fail)
    refine hK.out _ _ ?_ (fun hHeld => ?_)
    ·first | exact SK.out _ XB | exact SK.out _ zD
    clear hK K
    (try simp only [zA])
    refine zT4 14 ?_
    refine zTk 18 ?_
    (try simp only [hd0, hd0n])
    refine zTk 19 ?_
    refine zTn 20 ?_
    refine zTn 21 ?_
    refine zTn 22 ?_
    refine zTn 23 ?_
    refine zTn 24 ?_
    refine zTn 25 ?_
    refine zTn 26 ?_
    refine zTn 27 ?_
    refine zTn 28 ?_
    refine zTn 29 ?_
    refine zTn 30 ?_
    refine zTn 31 ?_
    refine zT2 32 ?_
    refine wpAnyH_done (by kernel_rfl) ?_ _
    replace B := B.trans (XB.mono B.size)
    clear SK XB
    go_wp2_with fail
    go_roundw
    case rel => exact ⟨k + 1, HLT.out, by go_num, HT.out, B⟩
    case measure => have hlt' := HLT.out; simp [intOf]; omega
   obtain ⟨ps, py, hP⟩ := bY M (k - 1)
   obtain ⟨cp, -⟩ := hf'.elIval (show k - 1 < n by omega) hP
   have hd0 : decide (0 < (k : Int)) = true := decide_eq_true (by omega)
   have hd0n : decide (0 < k) = true := decide_eq_true (by omega)
   have hw1 : IntKind.i64.wrap ((k : Int) - 1) = ((k - 1 : Nat) : Int) := by rw [show (k : Int) - 1 = ((k - 1 : Nat) : Int) by omega]; exact Go.IntWalk.i64_in _ ⟨by omega, by omega⟩
   have hx1 : wrap64 ((k : Int) - 1) = ((k - 1 : Nat) : Int) := by rw [show (k : Int) - 1 = ((k - 1 : Nat) : Int) by omega]; exact Go.IntWalk.wrap64_in _ ⟨by omega, by omega⟩
   have hpl : ((k - 1 : Nat) : Int) < (n : Int) := by omega
   have hps : (M (k - 1)).1 = ps := by rw [hP]
   by_cases h3 : x0 ≤ ps
   ·have HN : Hid (hrA M (k + 1) = false) := by rw [Hid, HA.out, h1, h2, hps, decide_eq_false hk0, decide_eq_false (show ¬ ps < x0 by omega)]; rfl
    have hdx : decide (x0 ≤ ps) = true := decide_eq_true h3
    clear HA hM hf hf' HS hA hlt hP hps
    have SK : Hid (∀ w', Below wr.heap.size wr w' → ((fun w' => w'.cell? ⟨b, off + k * 2, none⟩ = some (.int .i64 x0) ∧ w'.cell? ⟨b, off + k * 2 + 1, none⟩ = some (.int .i64 x1) ∧ w'.cell? ⟨b, off + (k - 1) * 2, none⟩ = some (.int .i64 ps))) w') := fun w' hw => ⟨(by rw [hw.cell (p := ⟨b, off + k * 2, none⟩) hbb]; exact c0), (by rw [hw.cell (p := ⟨b, off + k * 2 + 1, none⟩) hbb]; exact c1), (by rw [hw.cell (p := ⟨b, off + (k - 1) * 2, none⟩) hbb]; exact cp)⟩
    go_upto_region 6 with fail
    refine wp_region_held_drew (S := (fun w' => w'.cell? ⟨b, off + k * 2, none⟩ = some (.int .i64 x0) ∧ w'.cell? ⟨b, off + k * 2 + 1, none⟩ = some (.int .i64 x1) ∧ w'.cell? ⟨b, off + (k - 1) * 2, none⟩ = some (.int .i64 ps))) (by kernel_rfl) ?_ (fun hHeld => ?_)
    ·first | exact SK.out _ XB | exact SK.out _ zD
    have XB : Below wr.heap.size wr wr.drew := Below.drew (Below.refl _ _)
    generalize wr.drew = vx at *
    refine zT4 0 ?_
    refine zTk 4 ?_
    refine zQ 5 fun K hK => ?_
    go_simp
    refine (CA vx).mono ?_; rintro ee vy ⟨rfl, hvy⟩; (subst hvy)
    (try go_wp2_with fail)
    refine hK.out _ _ ?_ (fun hHeld => ?_)
    ·first | exact SK.out _ XB | exact SK.out _ zD
    clear hK K
    (try simp only [zA])
    refine zT4 6 ?_
    refine zT2 10 ?_
    refine zTk 12 ?_
    refine zQ 13 fun K hK => ?_
    go_simp
    refine (CB vx).mono ?_; rintro ee vy ⟨rfl, hvy⟩; (subst hvy)
    (try go_wp2_with fail)
    refine hK.out _ _ ?_ (fun hHeld => ?_)
    ·first | exact SK.out _ XB | exact SK.out _ zD
    clear hK K
    (try simp only [zA])
    refine zT4 14 ?_
    refine zTk 18 ?_
    (try simp only [hd0, hd0n])
    refine zT4 19 ?_
    (try simp only [hw1, hx1])
    refine zT8 23 ?_
    refine zTk 31 ?_
    (try simp only [hdx])
    refine zT2 32 ?_
    refine wpAnyH_done (by kernel_rfl) ?_ _
    replace B := B.trans (XB.mono B.size)
    clear SK XB
    go_wp2_with fail
    go_ret
    exact ⟨ab (cz HN.out HLT.out).symm, B⟩
   ·have HT : Hid (hrA M (k + 1) = true) := by rw [Hid, HA.out, h1, h2, hps, decide_eq_true (show ps < x0 by omega)]; simp
    have hdx : decide (x0 ≤ ps) = false := decide_eq_false h3
    clear HA hM hf hf' HS hA hlt hP hps
    have SK : Hid (∀ w', Below wr.heap.size wr w' → ((fun w' => w'.cell? ⟨b, off + k * 2, none⟩ = some (.int .i64 x0) ∧ w'.cell? ⟨b, off + k * 2 + 1, none⟩ = some (.int .i64 x1) ∧ w'.cell? ⟨b, off + (k - 1) * 2, none⟩ = some (.int .i64 ps))) w') := fun w' hw => ⟨(by rw [hw.cell (p := ⟨b, off + k * 2, none⟩) hbb]; exact c0), (by rw [hw.cell (p := ⟨b, off + k * 2 + 1, none⟩) hbb]; exact c1), (by rw [hw.cell (p := ⟨b, off + (k - 1) * 2, none⟩) hbb]; exact cp)⟩
    go_upto_region 6 with fail
    refine wp_region_held_drew (S := (fun w' => w'.cell? ⟨b, off + k * 2, none⟩ = some (.int .i64 x0) ∧ w'.cell? ⟨b, off + k * 2 + 1, none⟩ = some (.int .i64 x1) ∧ w'.cell? ⟨b, off + (k - 1) * 2, none⟩ = some (.int .i64 ps))) (by kernel_rfl) ?_ (fun hHeld => ?_)
    ·first | exact SK.out _ XB | exact SK.out _ zD
    have XB : Below wr.heap.size wr wr.drew := Below.drew (Below.refl _ _)
    generalize wr.drew = vx at *
    refine zT4 0 ?_
    refine zTk 4 ?_
    refine zQ 5 fun K hK => ?_
    go_simp
    refine (CA vx).mono ?_; rintro ee vy ⟨rfl, hvy⟩; (subst hvy)
    (try go_wp2_with fail)
    refine hK.out _ _ ?_ (fun hHeld => ?_)
    ·first | exact SK.out _ XB | exact SK.out _ zD
    clear hK K
    (try simp only [zA])
    refine zT4 6 ?_
    refine zT2 10 ?_
    refine zTk 12 ?_
    refine zQ 13 fun K hK => ?_
    go_simp
    refine (CB vx).mono ?_; rintro ee vy ⟨rfl, hvy⟩; (subst hvy)
    (try go_wp2_with fail)
    refine hK.out _ _ ?_ (fun hHeld => ?_)
    ·first | exact SK.out _ XB | exact SK.out _ zD
    clear hK K
    (try simp only [zA])
    refine zT4 14 ?_
    refine zTk 18 ?_
    (try simp only [hd0, hd0n])
    refine zT4 19 ?_
    (try simp only [hw1, hx1])
    refine zT8 23 ?_
    refine zTk 31 ?_
    (try simp only [hdx])
    refine zT2 32 ?_
    refine wpAnyH_done (by kernel_rfl) ?_ _
    replace B := B.trans (XB.mono B.size)
    clear SK XB
    go_wp2_with fail
    go_roundw
    case rel => exact ⟨k + 1, HLT.out, by go_num, HT.out, B⟩
    case measure => have hlt' := HLT.out; simp [intOf]; omega
  ·have hkn : k = n := by omega
   subst hkn
   have HA : Hid (hrA M k = true) := hA
   clear hA hlt HS
   go_wp2_with fail
   go_ret
   exact ⟨ab (by rw [e0.out, HA.out]), B⟩
def hX (M : Nat → VT) : Nat → Int
 | 0 => -1
 | j + 1 => (M j).1
theorem hY {M : Nat → VT} : ∀ {k : Nat}, hrA M k = true → (k : Int) - 1 ≤ hX M k
 | 0, _ => by show (0 : Int) - 1 ≤ -1; decide
 | k + 1, h => by
  have h1 := jt h (Nat.lt_succ_self k)
  have h0 : hrA M k = true := by
   cases e : hrA M k
   ·rw [hrA, e, Bool.false_and] at h; exact absurd h (by decide)
   ·rfl
  have ih := hY h0
  have h2 := kf h1.1
  show ((k + 1 : Nat) : Int) - 1 ≤ (M k).1
  cases k with
  | zero => omega
  | succ j =>
   have h3 : (M j).1 < (M (j + 1)).1 := by
    rcases h1.2 with q | q
    ·omega
    ·simpa using q
   have ih' : ((j + 1 : Nat) : Int) - 1 ≤ (M j).1 := ih
   omega
theorem gX {M : Nat → VT} {n : Nat} (h : hrA M n = true) : hrB M n = true := by
 unfold hrB
 rw [h, Bool.and_true]
 refine decide_eq_true ?_
 cases n with
 | zero => omega
 | succ j =>
  have h1 := hY h
  have h2 := kf (jt h (Nat.lt_succ_self j)).1
  have h3 : ((j + 1 : Nat) : Int) - 1 ≤ (M j).1 := h1
  omega
theorem j3 {M : Nat → VT} {k : Nat} {x0 x1 : Int} (h : hrA M k = true) (hM : M k = (x0, x1)) : hrA M (k + 1) = (decide (hX M k < x0) && (decide (x0 < 16) && okT x1)) := by
 have hl := hY h
 rw [hrA, h, Bool.true_and, hM]
 unfold hrO
 cases k with
 | zero =>
  show (decide (0 ≤ x0 ∧ x0 ≤ 15) && okT x1 && (decide (0 = 0) || _)) = (decide ((-1 : Int) < x0) && (decide (x0 < 16) && okT x1))
  rw [Bool.eq_iff_iff]
  simp only [Bool.and_eq_true, Bool.or_eq_true, decide_eq_true_eq]
  constructor
  ·rintro ⟨⟨h1, h2⟩, h3⟩; exact ⟨by omega, by omega, h2⟩
  ·rintro ⟨h1, h2, h3⟩; exact ⟨⟨by omega, h3⟩, by first | trivial | exact Or.inl trivial | exact Or.inl rfl | simp⟩
 | succ j =>
  have hl' : ((j + 1 : Nat) : Int) - 1 ≤ (M j).1 := hl
  show (decide (0 ≤ x0 ∧ x0 ≤ 15) && okT x1 && (decide (j + 1 = 0) || decide ((M (j + 1 - 1)).1 < x0))) = (decide ((M j).1 < x0) && (decide (x0 < 16) && okT x1))
  rw [Nat.add_sub_cancel]
  generalize (M j).1 = z at *
  rw [Bool.eq_iff_iff]
  simp only [Bool.and_eq_true, Bool.or_eq_true, decide_eq_true_eq]
  constructor
  ·rintro ⟨⟨h1, h2⟩, h3⟩; exact ⟨by omega, by omega, h2⟩
  ·rintro ⟨h1, h2, h3⟩; exact ⟨⟨by omega, h3⟩, Or.inr h1⟩
theorem cQ (a : Option Addr) (n c : Nat) (M : Nat → VT) (w : World) (hm : n ≤ maxLen) (hs : ae w a (n * 2) (aC M)) :
 Calls Tryz.prog 199 #[.slice a n c] w fun e w' => e = .returned (.bool (hrB M n)) ∧ Below w.heap.size w w' := by
 have HS : Hid (ae w a (n * 2) (aC M)) := hs
 clear hs
 unfold maxLen at hm
 go_enter Tryz.func199, Tryz.ntmps199
 go_wp2_with fail
 go_loopw [3, 8] (fun l i wr => ∃ (k : Nat), k ≤ n ∧ l = .int .i64 (hX M k) ∧ i = .int .i64 k ∧ hrA M k = true ∧ Below w.heap.size w wr) (fun _ i _ => n - (intOf i).toNat)
 case atStart => exact ⟨0, Nat.zero_le _, rfl, rfl, rfl, Below.refl _ _⟩
 case round =>
  obtain ⟨k, hk, rfl, rfl, hA, B⟩ := hrel
  by_cases hlt : k < n
  ·obtain ⟨x0, x1, hM⟩ := bY M k
   obtain ⟨b, off, rfl, hf⟩ : ∃ b off, a = some ⟨b, off, none⟩ ∧ Cs w b off (n * 2) (aC M) := by
    rcases HS.out with q | q
    ·exact absurd q (by omega)
    ·exact q
   obtain ⟨c0, c1⟩ := (hf.below B hf.1).elIval hlt hM
   have HLT : Hid (k < n) := hlt
   have hli : (k : Int) < (n : Int) := by omega
   have C1 := fun w' => aD x1 w'
   have A1 := Below.nw wr (.cells #[.int .i64 x0, .int .i64 x1] 162)
   replace B := B.trans (A1.mono B.size)
   have HX : Hid (hrA M (k + 1) = (decide (hX M k < x0) && (decide (x0 < 16) && okT x1))) := j3 hA hM
   have HNX : Hid (hX M (k + 1) = x0) := by rw [Hid, hX, hM]
   generalize hX M k = la at *
   clear hM hA hf A1 HS
   by_cases h1 : x0 ≤ la
   ·have HN : Hid (hrA M (k + 1) = false) := by rw [Hid, HX.out, decide_eq_false (by omega)]; rfl
    clear HX HNX C1
    go_wp2_with fail
    go_ret
    exact ⟨ab (cz HN.out HLT.out).symm, B⟩
   by_cases h2 : 16 ≤ x0
   ·have HN : Hid (hrA M (k + 1) = false) := by rw [Hid, HX.out, decide_eq_false (p := x0 < 16) (by omega)]; simp
    clear HX HNX C1
    go_wp2_with fail
    go_ret
    exact ⟨ab (cz HN.out HLT.out).symm, B⟩
   replace HX : Hid (hrA M (k + 1) = okT x1) := by rw [Hid, HX.out, decide_eq_true (p := x0 < 16) (by omega), decide_eq_true (p := la < x0) (by omega)]; rfl
   go_wp2_with fail
   refine (C1 _).mono ?_
   rintro e v1 ⟨rfl, rfl⟩
   cases h3 : okT x1
   ·have HN : Hid (hrA M (k + 1) = false) := by rw [Hid, HX.out, h3]
    clear HX HNX C1
    go_wp2_with fail
    go_ret
    exact ⟨ab (cz HN.out HLT.out).symm, B⟩
   ·have HT : Hid (hrA M (k + 1) = true) := by rw [Hid, HX.out, h3]
    clear HX C1
    go_wp2_with fail
    go_roundw
    case rel => exact ⟨k + 1, HLT.out, by rw [HNX.out], by go_num, HT.out, B⟩
    case measure => have hlt' := HLT.out; simp [intOf]; omega
  ·have hkn : k = n := by omega
   subst hkn
   have hli : ¬ (k : Int) < (k : Int) := by omega
   have HR : Hid (hrB M k = true) := gX hA
   clear hA
   go_wp2_with fail
   go_ret
   exact ⟨ab HR.out.symm, B⟩
end Go.Proofs.YtddijpjgkifngaaGreat
