/- HeardOk in the specification. -/
import Derived.Test.YtddijpjgkifngaaGreatM0
import Derived.Test.YtddijpjgkifngaaGreatM5
namespace Go.Proofs.YtddijpjgkifngaaGreat
open Go.RowKit
set_option linter.unusedVariables false
set_option maxRecDepth 100000 in
set_option maxHeartbeats 8000000 in
theorem specHeardOk_any (a : Option Addr) (n c : Nat) (M : Nat → VT) (w : World) (hm : n ≤ maxLen) (hs : SrcC w a (n * 2) (MFIval M)) :
 Calls Tryz.prog 92 #[.slice a n c] w fun e w' => e = .returned (.bool (hrB M n)) ∧ Below w.heap.size w w' := by
 have HS : Hid (SrcC w a (n * 2) (MFIval M)) := hs
 clear hs
 unfold maxLen at hm
 by_cases h60 : 16 < (n : Int)
 ·have e0 : hrB M n = false := by unfold hrB; rw [decide_eq_false (by omega)]; rfl
  rw [e0]
  go_enter Tryz.func92, Tryz.ntmps92
  go_wp2_with fail
  go_ret
  exact ⟨rfl, Below.refl _ _⟩
 have e0 : Hid (hrB M n = hrA M n) := by unfold hrB; rw [decide_eq_true (by omega)]; rfl
 go_enter Tryz.func92, Tryz.ntmps92
 go_wp2_with fail
 go_loopw [3] (fun i wr => ∃ (k : Nat), k ≤ n ∧ i = .int .i64 k ∧ hrA M k = true ∧ Below w.heap.size w wr) (fun i _ => n - (intOf i).toNat)
 case atStart => exact ⟨0, Nat.zero_le _, rfl, rfl, Below.refl _ _⟩
 case round =>
  obtain ⟨k, hk, rfl, hA, B⟩ := hrel
  by_cases hlt : k < n
  ·have HLT : Hid (k < n) := hlt
   have hli : (k : Int) < (n : Int) := by omega
   obtain ⟨x0, x1, hM⟩ := tupIval M k
   obtain ⟨b, off, rfl, hf⟩ : ∃ b off, a = some ⟨b, off, none⟩ ∧ Cs w b off (n * 2) (MFIval M) := by
    rcases HS.out with q | q
    ·exact absurd q (by omega)
    ·exact q
   have hf' := hf.below B hf.1
   have hbb := hf'.1
   obtain ⟨c0, c1⟩ := hf'.elIval hlt hM
   have CA : ∀ w', Calls Tryz.prog 42 #[.int .i64 x0, .int .i64 0, .int .i64 15] w' fun e w'' => e = .returned (.bool (decide (0 ≤ x0 ∧ x0 ≤ 15))) ∧ w' = w'' := fun w' => l1In_any x0 0 15 w'
   have CB := fun w' => l2Time_any x1 w'
   have HA : Hid (hrA M (k + 1) = ((decide (0 ≤ x0 ∧ x0 ≤ 15) && okT x1) && (decide (k = 0) || decide ((M (k - 1)).1 < x0)))) := by rw [Hid, hrA, hA, hM]; rfl
   cases h1 : decide (0 ≤ x0 ∧ x0 ≤ 15)
   ·have HN : Hid (hrA M (k + 1) = false) := by rw [Hid, HA.out, h1]; rfl
    rw [h1] at CA
    clear HA hM hf hf' HS hA hlt
    have SK : Hid (∀ w', Below wr.heap.size wr w' → ((fun w' => w'.cell? ⟨b, off + k * 2, none⟩ = some (.int .i64 x0) ∧ w'.cell? ⟨b, off + k * 2 + 1, none⟩ = some (.int .i64 x1))) w') := fun w' hw => ⟨(by rw [hw.cell (p := ⟨b, off + k * 2, none⟩) hbb]; exact c0), (by rw [hw.cell (p := ⟨b, off + k * 2 + 1, none⟩) hbb]; exact c1)⟩
    go_upto_region 6 with fail
    refine wp_region_held_drew (S := (fun w' => w'.cell? ⟨b, off + k * 2, none⟩ = some (.int .i64 x0) ∧ w'.cell? ⟨b, off + k * 2 + 1, none⟩ = some (.int .i64 x1))) (by kernel_rfl) ?_ (fun hHeld => ?_)
    ·first | exact SK.out _ XB | exact SK.out _ (Below.drew (Below.refl _ _))
    have XB : Below wr.heap.size wr wr.drew := Below.drew (Below.refl _ _)
    generalize wr.drew = vx at *
    refine zTk 0 ?_
    refine zTk 1 ?_
    refine zTk 2 ?_
    refine zTk 3 ?_
    refine zTk 4 ?_
    refine wpAnyH_ready (rs := [5]) (by kernel_rfl) (by simp) ?_
    refine AllReadyH.cons (by rw [List.getElem?_toArray]; rfl) (fun K hK => ?_) AllReadyH.nil
    go_simp
    refine (CA vx).mono ?_; rintro ee vy ⟨rfl, hvy⟩; (subst hvy)
    (try go_wp2_with fail)
    refine hK.out _ _ ?_ (fun hHeld => ?_)
    ·first | exact SK.out _ XB | exact SK.out _ (Below.drew (Below.refl _ _))
    clear hK K
    (try simp only [Act.put, zSb, zS0, zS1])
    refine zTk 6 ?_
    refine zTk 7 ?_
    refine zTn 8 ?_
    refine zTn 9 ?_
    refine zTn 10 ?_
    refine zTn 11 ?_
    refine zTn 12 ?_
    refine zTn 13 ?_
    refine zTn 14 ?_
    refine zTk 15 ?_
    refine zTk 16 ?_
    refine zTn 17 ?_
    refine zTn 18 ?_
    refine zTn 19 ?_
    refine zTn 20 ?_
    refine zTn 21 ?_
    refine zTn 22 ?_
    refine zTn 23 ?_
    refine zTn 24 ?_
    refine zTn 25 ?_
    refine zTn 26 ?_
    refine zTn 27 ?_
    refine zTn 28 ?_
    refine zTn 29 ?_
    refine zTn 30 ?_
    refine zTn 31 ?_
    refine zTn 32 ?_
    refine zTk 33 ?_
    refine wpAnyH_done (by kernel_rfl) ?_ _
    replace B := B.trans (XB.mono B.size)
    clear SK XB
    go_wp2_with fail
    go_ret
    exact ⟨ret_bool (hrB_no HN.out HLT.out).symm, B⟩
   rw [h1] at CA
   cases h2 : okT x1
   ·have HN : Hid (hrA M (k + 1) = false) := by rw [Hid, HA.out, h1, h2]; rfl
    rw [h2] at CB
    clear HA hM hf hf' HS hA hlt
    have SK : Hid (∀ w', Below wr.heap.size wr w' → ((fun w' => w'.cell? ⟨b, off + k * 2, none⟩ = some (.int .i64 x0) ∧ w'.cell? ⟨b, off + k * 2 + 1, none⟩ = some (.int .i64 x1))) w') := fun w' hw => ⟨(by rw [hw.cell (p := ⟨b, off + k * 2, none⟩) hbb]; exact c0), (by rw [hw.cell (p := ⟨b, off + k * 2 + 1, none⟩) hbb]; exact c1)⟩
    go_upto_region 6 with fail
    refine wp_region_held_drew (S := (fun w' => w'.cell? ⟨b, off + k * 2, none⟩ = some (.int .i64 x0) ∧ w'.cell? ⟨b, off + k * 2 + 1, none⟩ = some (.int .i64 x1))) (by kernel_rfl) ?_ (fun hHeld => ?_)
    ·first | exact SK.out _ XB | exact SK.out _ (Below.drew (Below.refl _ _))
    have XB : Below wr.heap.size wr wr.drew := Below.drew (Below.refl _ _)
    generalize wr.drew = vx at *
    refine zTk 0 ?_
    refine zTk 1 ?_
    refine zTk 2 ?_
    refine zTk 3 ?_
    refine zTk 4 ?_
    refine wpAnyH_ready (rs := [5]) (by kernel_rfl) (by simp) ?_
    refine AllReadyH.cons (by rw [List.getElem?_toArray]; rfl) (fun K hK => ?_) AllReadyH.nil
    go_simp
    refine (CA vx).mono ?_; rintro ee vy ⟨rfl, hvy⟩; (subst hvy)
    (try go_wp2_with fail)
    refine hK.out _ _ ?_ (fun hHeld => ?_)
    ·first | exact SK.out _ XB | exact SK.out _ (Below.drew (Below.refl _ _))
    clear hK K
    (try simp only [Act.put, zSb, zS0, zS1])
    refine zTk 6 ?_
    refine zTk 7 ?_
    refine zTk 8 ?_
    refine zTk 9 ?_
    refine zTk 10 ?_
    refine zTk 11 ?_
    refine zTk 12 ?_
    refine wpAnyH_ready (rs := [13]) (by kernel_rfl) (by simp) ?_
    refine AllReadyH.cons (by rw [List.getElem?_toArray]; rfl) (fun K hK => ?_) AllReadyH.nil
    go_simp
    refine (CB vx).mono ?_; rintro ee vy ⟨rfl, hvy⟩; (subst hvy)
    (try go_wp2_with fail)
    refine hK.out _ _ ?_ (fun hHeld => ?_)
    ·first | exact SK.out _ XB | exact SK.out _ (Below.drew (Below.refl _ _))
    clear hK K
    (try simp only [Act.put, zSb, zS0, zS1])
    refine zTk 14 ?_
    refine zTk 15 ?_
    refine zTk 16 ?_
    refine zTn 17 ?_
    refine zTn 18 ?_
    refine zTn 19 ?_
    refine zTn 20 ?_
    refine zTn 21 ?_
    refine zTn 22 ?_
    refine zTn 23 ?_
    refine zTn 24 ?_
    refine zTn 25 ?_
    refine zTn 26 ?_
    refine zTn 27 ?_
    refine zTn 28 ?_
    refine zTn 29 ?_
    refine zTn 30 ?_
    refine zTn 31 ?_
    refine zTn 32 ?_
    refine zTk 33 ?_
    refine wpAnyH_done (by kernel_rfl) ?_ _
    replace B := B.trans (XB.mono B.size)
    clear SK XB
    go_wp2_with fail
    go_ret
    exact ⟨ret_bool (hrB_no HN.out HLT.out).symm, B⟩
   rw [h2] at CB
   by_cases hk0 : k = 0
   ·have HT : Hid (hrA M (k + 1) = true) := by rw [Hid, HA.out, h1, h2, decide_eq_true hk0]; rfl
    have hd0 : decide (0 < (k : Int)) = false := decide_eq_false (by omega)
    have hd0n : decide (0 < k) = false := decide_eq_false (by omega)
    clear hk0
    clear HA hM hf hf' HS hA hlt
    have SK : Hid (∀ w', Below wr.heap.size wr w' → ((fun w' => w'.cell? ⟨b, off + k * 2, none⟩ = some (.int .i64 x0) ∧ w'.cell? ⟨b, off + k * 2 + 1, none⟩ = some (.int .i64 x1))) w') := fun w' hw => ⟨(by rw [hw.cell (p := ⟨b, off + k * 2, none⟩) hbb]; exact c0), (by rw [hw.cell (p := ⟨b, off + k * 2 + 1, none⟩) hbb]; exact c1)⟩
    go_upto_region 6 with fail
    refine wp_region_held_drew (S := (fun w' => w'.cell? ⟨b, off + k * 2, none⟩ = some (.int .i64 x0) ∧ w'.cell? ⟨b, off + k * 2 + 1, none⟩ = some (.int .i64 x1))) (by kernel_rfl) ?_ (fun hHeld => ?_)
    ·first | exact SK.out _ XB | exact SK.out _ (Below.drew (Below.refl _ _))
    have XB : Below wr.heap.size wr wr.drew := Below.drew (Below.refl _ _)
    generalize wr.drew = vx at *
    refine zTk 0 ?_
    refine zTk 1 ?_
    refine zTk 2 ?_
    refine zTk 3 ?_
    refine zTk 4 ?_
    refine wpAnyH_ready (rs := [5]) (by kernel_rfl) (by simp) ?_
    refine AllReadyH.cons (by rw [List.getElem?_toArray]; rfl) (fun K hK => ?_) AllReadyH.nil
    go_simp
    refine (CA vx).mono ?_; rintro ee vy ⟨rfl, hvy⟩; (subst hvy)
    (try go_wp2_with fail)
    refine hK.out _ _ ?_ (fun hHeld => ?_)
    ·first | exact SK.out _ XB | exact SK.out _ (Below.drew (Below.refl _ _))
    clear hK K
    (try simp only [Act.put, zSb, zS0, zS1])
    refine zTk 6 ?_
    refine zTk 7 ?_
    refine zTk 8 ?_
    refine zTk 9 ?_
    refine zTk 10 ?_
    refine zTk 11 ?_
    refine zTk 12 ?_
    refine wpAnyH_ready (rs := [13]) (by kernel_rfl) (by simp) ?_
    refine AllReadyH.cons (by rw [List.getElem?_toArray]; rfl) (fun K hK => ?_) AllReadyH.nil
    go_simp
    refine (CB vx).mono ?_; rintro ee vy ⟨rfl, hvy⟩; (subst hvy)
    (try go_wp2_with fail)
    refine hK.out _ _ ?_ (fun hHeld => ?_)
    ·first | exact SK.out _ XB | exact SK.out _ (Below.drew (Below.refl _ _))
    clear hK K
    (try simp only [Act.put, zSb, zS0, zS1])
    refine zTk 14 ?_
    refine zTk 15 ?_
    refine zTk 16 ?_
    refine zTk 17 ?_
    refine zTk 18 ?_
    (try simp only [hd0, hd0n])
    refine zTk 19 ?_
    refine zTn 20 ?_
    refine zTn 21 ?_
    refine zTn 22 ?_
    refine zTn 23 ?_
    refine zTn 24 ?_
    refine zTn 25 ?_
    refine zTn 26 ?_
    refine zTn 27 ?_
    refine zTn 28 ?_
    refine zTn 29 ?_
    refine zTn 30 ?_
    refine zTn 31 ?_
    refine zTk 32 ?_
    refine zTk 33 ?_
    refine wpAnyH_done (by kernel_rfl) ?_ _
    replace B := B.trans (XB.mono B.size)
    clear SK XB
    go_wp2_with fail
    go_roundw
    case rel => exact ⟨k + 1, HLT.out, by go_num, HT.out, B⟩
    case measure => have hlt' := HLT.out; simp [intOf]; omega
   obtain ⟨ps, py, hP⟩ := tupIval M (k - 1)
   obtain ⟨cp, -⟩ := hf'.elIval (show k - 1 < n by omega) hP
   have hd0 : decide (0 < (k : Int)) = true := decide_eq_true (by omega)
   have hd0n : decide (0 < k) = true := decide_eq_true (by omega)
   have hw1 : IntKind.i64.wrap ((k : Int) - 1) = ((k - 1 : Nat) : Int) := by rw [show (k : Int) - 1 = ((k - 1 : Nat) : Int) by omega]; exact Go.IntWalk.i64_in _ ⟨by omega, by omega⟩
   have hx1 : wrap64 ((k : Int) - 1) = ((k - 1 : Nat) : Int) := by rw [show (k : Int) - 1 = ((k - 1 : Nat) : Int) by omega]; exact Go.IntWalk.wrap64_in _ ⟨by omega, by omega⟩
   have hpl : ((k - 1 : Nat) : Int) < (n : Int) := by omega
   have hps : (M (k - 1)).1 = ps := by rw [hP]
   by_cases h3 : x0 ≤ ps
   ·have HN : Hid (hrA M (k + 1) = false) := by rw [Hid, HA.out, h1, h2, hps, decide_eq_false hk0, decide_eq_false (show ¬ ps < x0 by omega)]; rfl
    have hdx : decide (x0 ≤ ps) = true := decide_eq_true h3
    clear HA hM hf hf' HS hA hlt hP hps
    have SK : Hid (∀ w', Below wr.heap.size wr w' → ((fun w' => w'.cell? ⟨b, off + k * 2, none⟩ = some (.int .i64 x0) ∧ w'.cell? ⟨b, off + k * 2 + 1, none⟩ = some (.int .i64 x1) ∧ w'.cell? ⟨b, off + (k - 1) * 2, none⟩ = some (.int .i64 ps))) w') := fun w' hw => ⟨(by rw [hw.cell (p := ⟨b, off + k * 2, none⟩) hbb]; exact c0), (by rw [hw.cell (p := ⟨b, off + k * 2 + 1, none⟩) hbb]; exact c1), (by rw [hw.cell (p := ⟨b, off + (k - 1) * 2, none⟩) hbb]; exact cp)⟩
    go_upto_region 6 with fail
    refine wp_region_held_drew (S := (fun w' => w'.cell? ⟨b, off + k * 2, none⟩ = some (.int .i64 x0) ∧ w'.cell? ⟨b, off + k * 2 + 1, none⟩ = some (.int .i64 x1) ∧ w'.cell? ⟨b, off + (k - 1) * 2, none⟩ = some (.int .i64 ps))) (by kernel_rfl) ?_ (fun hHeld => ?_)
    ·first | exact SK.out _ XB | exact SK.out _ (Below.drew (Below.refl _ _))
    have XB : Below wr.heap.size wr wr.drew := Below.drew (Below.refl _ _)
    generalize wr.drew = vx at *
    refine zTk 0 ?_
    refine zTk 1 ?_
    refine zTk 2 ?_
    refine zTk 3 ?_
    refine zTk 4 ?_
    refine wpAnyH_ready (rs := [5]) (by kernel_rfl) (by simp) ?_
    refine AllReadyH.cons (by rw [List.getElem?_toArray]; rfl) (fun K hK => ?_) AllReadyH.nil
    go_simp
    refine (CA vx).mono ?_; rintro ee vy ⟨rfl, hvy⟩; (subst hvy)
    (try go_wp2_with fail)
    refine hK.out _ _ ?_ (fun hHeld => ?_)
    ·first | exact SK.out _ XB | exact SK.out _ (Below.drew (Below.refl _ _))
    clear hK K
    (try simp only [Act.put, zSb, zS0, zS1])
    refine zTk 6 ?_
    refine zTk 7 ?_
    refine zTk 8 ?_
    refine zTk 9 ?_
    refine zTk 10 ?_
    refine zTk 11 ?_
    refine zTk 12 ?_
    refine wpAnyH_ready (rs := [13]) (by kernel_rfl) (by simp) ?_
    refine AllReadyH.cons (by rw [List.getElem?_toArray]; rfl) (fun K hK => ?_) AllReadyH.nil
    go_simp
    refine (CB vx).mono ?_; rintro ee vy ⟨rfl, hvy⟩; (subst hvy)
    (try go_wp2_with fail)
    refine hK.out _ _ ?_ (fun hHeld => ?_)
    ·first | exact SK.out _ XB | exact SK.out _ (Below.drew (Below.refl _ _))
    clear hK K
    (try simp only [Act.put, zSb, zS0, zS1])
    refine zTk 14 ?_
    refine zTk 15 ?_
    refine zTk 16 ?_
    refine zTk 17 ?_
    refine zTk 18 ?_
    (try simp only [hd0, hd0n])
    refine zTk 19 ?_
    refine zTk 20 ?_
    refine zTk 21 ?_
    refine zTk 22 ?_
    (try simp only [hw1, hx1])
    refine zTk 23 ?_
    refine zTk 24 ?_
    refine zTk 25 ?_
    refine zTk 26 ?_
    refine zTk 27 ?_
    refine zTk 28 ?_
    refine zTk 29 ?_
    refine zTk 30 ?_
    refine zTk 31 ?_
    (try simp only [hdx])
    refine zTk 32 ?_
    refine zTk 33 ?_
    refine wpAnyH_done (by kernel_rfl) ?_ _
    replace B := B.trans (XB.mono B.size)
    clear SK XB
    go_wp2_with fail
    go_ret
    exact ⟨ret_bool (hrB_no HN.out HLT.out).symm, B⟩
   ·have HT : Hid (hrA M (k + 1) = true) := by rw [Hid, HA.out, h1, h2, hps, decide_eq_true (show ps < x0 by omega)]; simp
    have hdx : decide (x0 ≤ ps) = false := decide_eq_false h3
    clear HA hM hf hf' HS hA hlt hP hps
    have SK : Hid (∀ w', Below wr.heap.size wr w' → ((fun w' => w'.cell? ⟨b, off + k * 2, none⟩ = some (.int .i64 x0) ∧ w'.cell? ⟨b, off + k * 2 + 1, none⟩ = some (.int .i64 x1) ∧ w'.cell? ⟨b, off + (k - 1) * 2, none⟩ = some (.int .i64 ps))) w') := fun w' hw => ⟨(by rw [hw.cell (p := ⟨b, off + k * 2, none⟩) hbb]; exact c0), (by rw [hw.cell (p := ⟨b, off + k * 2 + 1, none⟩) hbb]; exact c1), (by rw [hw.cell (p := ⟨b, off + (k - 1) * 2, none⟩) hbb]; exact cp)⟩
    go_upto_region 6 with fail
    refine wp_region_held_drew (S := (fun w' => w'.cell? ⟨b, off + k * 2, none⟩ = some (.int .i64 x0) ∧ w'.cell? ⟨b, off + k * 2 + 1, none⟩ = some (.int .i64 x1) ∧ w'.cell? ⟨b, off + (k - 1) * 2, none⟩ = some (.int .i64 ps))) (by kernel_rfl) ?_ (fun hHeld => ?_)
    ·first | exact SK.out _ XB | exact SK.out _ (Below.drew (Below.refl _ _))
    have XB : Below wr.heap.size wr wr.drew := Below.drew (Below.refl _ _)
    generalize wr.drew = vx at *
    refine zTk 0 ?_
    refine zTk 1 ?_
    refine zTk 2 ?_
    refine zTk 3 ?_
    refine zTk 4 ?_
    refine wpAnyH_ready (rs := [5]) (by kernel_rfl) (by simp) ?_
    refine AllReadyH.cons (by rw [List.getElem?_toArray]; rfl) (fun K hK => ?_) AllReadyH.nil
    go_simp
    refine (CA vx).mono ?_; rintro ee vy ⟨rfl, hvy⟩; (subst hvy)
    (try go_wp2_with fail)
    refine hK.out _ _ ?_ (fun hHeld => ?_)
    ·first | exact SK.out _ XB | exact SK.out _ (Below.drew (Below.refl _ _))
    clear hK K
    (try simp only [Act.put, zSb, zS0, zS1])
    refine zTk 6 ?_
    refine zTk 7 ?_
    refine zTk 8 ?_
    refine zTk 9 ?_
    refine zTk 10 ?_
    refine zTk 11 ?_
    refine zTk 12 ?_
    refine wpAnyH_ready (rs := [13]) (by kernel_rfl) (by simp) ?_
    refine AllReadyH.cons (by rw [List.getElem?_toArray]; rfl) (fun K hK => ?_) AllReadyH.nil
    go_simp
    refine (CB vx).mono ?_; rintro ee vy ⟨rfl, hvy⟩; (subst hvy)
    (try go_wp2_with fail)
    refine hK.out _ _ ?_ (fun hHeld => ?_)
    ·first | exact SK.out _ XB | exact SK.out _ (Below.drew (Below.refl _ _))
    clear hK K
    (try simp only [Act.put, zSb, zS0, zS1])
    refine zTk 14 ?_
    refine zTk 15 ?_
    refine zTk 16 ?_
    refine zTk 17 ?_
    refine zTk 18 ?_
    (try simp only [hd0, hd0n])
    refine zTk 19 ?_
    refine zTk 20 ?_
    refine zTk 21 ?_
    refine zTk 22 ?_
    (try simp only [hw1, hx1])
    refine zTk 23 ?_
    refine zTk 24 ?_
    refine zTk 25 ?_
    refine zTk 26 ?_
    refine zTk 27 ?_
    refine zTk 28 ?_
    refine zTk 29 ?_
    refine zTk 30 ?_
    refine zTk 31 ?_
    (try simp only [hdx])
    refine zTk 32 ?_
    refine zTk 33 ?_
    refine wpAnyH_done (by kernel_rfl) ?_ _
    replace B := B.trans (XB.mono B.size)
    clear SK XB
    go_wp2_with fail
    go_roundw
    case rel => exact ⟨k + 1, HLT.out, by go_num, HT.out, B⟩
    case measure => have hlt' := HLT.out; simp [intOf]; omega
  ·have hkn : k = n := by omega
   subst hkn
   have HA : Hid (hrA M k = true) := hA
   clear hA hlt HS
   go_wp2_with fail
   go_ret
   exact ⟨ret_bool (by rw [e0.out, HA.out]), B⟩
end Go.Proofs.YtddijpjgkifngaaGreat
