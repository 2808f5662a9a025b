/- The text of a number: TextOf in the specification. -/
import Derived.Deep.OwnRows
import Derived.Deep.RegionHeld
import Derived.Laws.BytesArg
import Derived.Deep.RegionHeld3
import Derived.Test.YtddjiamollfplaaGreatDoorML1
namespace Go.Proofs.YtddjiamollfplaaGreatDoor
open Go.RowKit
set_option linter.unusedVariables false
def tdS : Nat → Nat → ByteArray → ByteArray
 | 0, _, s => s
 | f + 1, K, s => if K = 0 then s else tdS f (K / 10) (strOfNums [48 + (K : Int) % 10] ++ s)
theorem tdS_go {f K : Nat} {s : ByteArray} (h : K ≠ 0) : tdS (f + 1) K s = tdS f (K / 10) (strOfNums [48 + (K : Int) % 10] ++ s) := by rw [tdS, if_neg h]
theorem tdS_end {s : ByteArray} : ∀ f, tdS f 0 s = s
 | 0 => rfl
 | f + 1 => by rw [tdS, if_pos rfl]
def dgs (K : Nat) : ByteArray := tdS 20 K ⟨#[]⟩
def txI (n : Int) : ByteArray := if n = 0 then ⟨#[48]⟩ else if n < 0 then ⟨#[45]⟩ ++ dgs n.natAbs else dgs n.natAbs
theorem txI_p {K : Nat} (h : K ≠ 0) : txI (K : Int) = dgs K := by
 rw [txI, if_neg (by omega), if_neg (by omega)]; rfl
theorem txI_n {K : Nat} (h : K ≠ 0) : txI (-(K : Int)) = ⟨#[45]⟩ ++ dgs K := by
 rw [txI, if_neg (by omega), if_pos (by omega), Int.natAbs_neg]; rfl
theorem ten_step {f K : Nat} (h : K < 10 ^ (f + 1)) : K / 10 < 10 ^ f := by rw [Nat.pow_succ] at h; omega
theorem ten_pos {f K : Nat} (h : K < 10 ^ f) (hz : K ≠ 0) : ∃ g, f = g + 1 := by
 cases f with
 | zero => exact absurd h (by simp; omega)
 | succ g => exact ⟨g, rfl⟩
theorem tmod_neg (K : Nat) : Int.tmod (-(K : Int)) 10 = -((K % 10 : Nat) : Int) := by rw [Int.neg_tmod]; rfl
theorem tdiv_neg (K : Nat) : Int.tdiv (-(K : Int)) 10 = -((K / 10 : Nat) : Int) := by rw [Int.neg_tdiv]; rfl
theorem tmod_pos (K : Nat) : Int.tmod (K : Int) 10 = ((K % 10 : Nat) : Int) := rfl
theorem tdiv_pos (K : Nat) : Int.tdiv (K : Int) 10 = ((K / 10 : Nat) : Int) := rfl
set_option maxRecDepth 100000 in
set_option maxHeartbeats 4000000 in
theorem specTextOf_p (K0 : Nat) (w : World) (hz0 : K0 ≠ 0) (h1 : K0 ≤ 9223372036854775808) :
 Calls Tryz.prog 73 #[.int .i64 ((K0 : Int))] w fun e w' => e = .returned (.string (txI ((K0 : Int)))) ∧ Below w.heap.size w w' := by
 have HX : Hid (txI ((K0 : Int)) = dgs K0) := txI_p hz0
 have hne : (((K0 : Int)) == 0) = false := by (simp; try omega)
 have hlt : decide (((K0 : Int)) < 0) = false := by (simp; try omega)
 have hK0 : K0 < 10 ^ 20 := by omega
 go_enter Tryz.func73, Tryz.ntmps73
 go_wp2_with fail
 go_loopw [3, 4] (fun s kv wr => ∃ (f K : Nat) (o : ByteArray), kv = .int .i64 ((K : Int)) ∧ K ≤ K0 ∧ K < 10 ^ f ∧ s = .string o ∧ o.size + f = 20 ∧ tdS f K o = dgs K0 ∧ Below w.heap.size w wr) (fun _ kv _ => (intOf kv).natAbs)
 case atStart => exact ⟨20, K0, ⟨#[]⟩, rfl, Nat.le_refl _, hK0, rfl, rfl, rfl, Below.refl _ _⟩
 case round =>
  obtain ⟨f, K, o, rfl, hK, hKf, rfl, hos, hd, hB⟩ := hrel
  have HD : Hid (tdS f K o = dgs K0) := hd
  clear hd
  by_cases hz : K = 0
  ·subst hz
   have hE : o = dgs K0 := by rw [← HD.out, tdS_end]
   have hle : ¬ 9223372036854775807 < 1 + o.size := by omega
   subst hE
   have hq0 : (((0 : Int) != 0) = false) := by simp
   go_wp2_with fail
   go_ret
   exact ⟨by rw [HX.out]; rfl, hB⟩
  ·obtain ⟨g, rfl⟩ := ten_pos hKf hz
   have HG := tdS_go (f := g) (s := o) hz
   have hq0 : (((K : Int)) != 0) = true := by (simp; try omega)
   have hqt : Int.tdiv ((K : Int)) 10 = ((K / 10 : Nat) : Int) := tdiv_pos K
   have hqm : Int.tmod ((K : Int)) 10 = ((K % 10 : Nat) : Int) := tmod_pos K
   have hKs := ten_step hKf
   have hw8 : IntKind.u8.wrap (48 + (K : Int) % 10) = 48 + (K : Int) % 10 := Go.IntWalk.u8_in _ ⟨by omega, by omega⟩
   have hcs : ((K % 10 : Nat) : Int) = (K : Int) % 10 := by omega
   have hcv : (convert 22 9 (.slice (some ⟨wr.heap.size, 0, none⟩) 1 1)).run Tryz.prog (wr.alloc (.cells #[.int .u8 (48 + (K : Int) % 10)] 5)) = .ok (.string (strOfNums [48 + (K : Int) % 10])) (wr.alloc (.cells #[.int .u8 (48 + (K : Int) % 10)] 5)) :=
    run_convert_bytes_arg _ 22 5 Tryz.underlying22 Tryz.underlying5 wr.heap.size 0 1 1 [48 + (K : Int) % 10] rfl (fun i hi => by (obtain rfl : i = 0 := by omega); simp) 9 Tryz.underlying9
   have hle : ¬ 9223372036854775807 < (strOfNums [48 + (K : Int) % 10]).size + o.size := by rw [strOfNums_size]; simp; omega
   have hz1 : (strOfNums [48 + (K : Int) % 10] ++ o).size = 1 + o.size := by rw [ByteArray.size_append, strOfNums_size]; rfl
   rw [hcs] at hqm
   have hd0 : decide ((K : Int) % 10 < 0) = false := by simp; omega
   go_wp2_with fail
   go_roundw
   case rel => exact ⟨g, K / 10, _, by simp, by omega, hKs, rfl, by rw [hz1]; omega, by rw [← HG]; exact HD.out, hB.alloc hB.size _⟩
   case measure => simp [intOf]; omega
set_option maxRecDepth 100000 in
set_option maxHeartbeats 4000000 in
theorem specTextOf_n (K0 : Nat) (w : World) (hz0 : K0 ≠ 0) (h1 : K0 ≤ 9223372036854775808) :
 Calls Tryz.prog 73 #[.int .i64 (-(K0 : Int))] w fun e w' => e = .returned (.string (txI (-(K0 : Int)))) ∧ Below w.heap.size w w' := by
 have HX : Hid (txI (-(K0 : Int)) = ⟨#[45]⟩ ++ dgs K0) := txI_n hz0
 have hne : ((-(K0 : Int)) == 0) = false := by (simp; try omega)
 have hlt : decide ((-(K0 : Int)) < 0) = true := by (simp; try omega)
 have hK0 : K0 < 10 ^ 20 := by omega
 go_enter Tryz.func73, Tryz.ntmps73
 go_wp2_with fail
 go_loopw [3, 4] (fun s kv wr => ∃ (f K : Nat) (o : ByteArray), kv = .int .i64 (-(K : Int)) ∧ K ≤ K0 ∧ K < 10 ^ f ∧ s = .string o ∧ o.size + f = 20 ∧ tdS f K o = dgs K0 ∧ Below w.heap.size w wr) (fun _ kv _ => (intOf kv).natAbs)
 case atStart => exact ⟨20, K0, ⟨#[]⟩, rfl, Nat.le_refl _, hK0, rfl, rfl, rfl, Below.refl _ _⟩
 case round =>
  obtain ⟨f, K, o, rfl, hK, hKf, rfl, hos, hd, hB⟩ := hrel
  have HD : Hid (tdS f K o = dgs K0) := hd
  clear hd
  by_cases hz : K = 0
  ·subst hz
   have hE : o = dgs K0 := by rw [← HD.out, tdS_end]
   have hle : ¬ 9223372036854775807 < 1 + o.size := by omega
   subst hE
   have hq0 : (((0 : Int) != 0) = false) := by simp
   go_wp2_with fail
   go_ret
   exact ⟨by rw [HX.out]; rfl, hB⟩
  ·obtain ⟨g, rfl⟩ := ten_pos hKf hz
   have HG := tdS_go (f := g) (s := o) hz
   have hq0 : ((-(K : Int)) != 0) = true := by (simp; try omega)
   have hqt : Int.tdiv (-(K : Int)) 10 = -((K / 10 : Nat) : Int) := tdiv_neg K
   have hqm : Int.tmod (-(K : Int)) 10 = -((K % 10 : Nat) : Int) := tmod_neg K
   have hKs := ten_step hKf
   have hw8 : IntKind.u8.wrap (48 + (K : Int) % 10) = 48 + (K : Int) % 10 := Go.IntWalk.u8_in _ ⟨by omega, by omega⟩
   have hcs : ((K % 10 : Nat) : Int) = (K : Int) % 10 := by omega
   have hcv : (convert 22 9 (.slice (some ⟨wr.heap.size, 0, none⟩) 1 1)).run Tryz.prog (wr.alloc (.cells #[.int .u8 (48 + (K : Int) % 10)] 5)) = .ok (.string (strOfNums [48 + (K : Int) % 10])) (wr.alloc (.cells #[.int .u8 (48 + (K : Int) % 10)] 5)) :=
    run_convert_bytes_arg _ 22 5 Tryz.underlying22 Tryz.underlying5 wr.heap.size 0 1 1 [48 + (K : Int) % 10] rfl (fun i hi => by (obtain rfl : i = 0 := by omega); simp) 9 Tryz.underlying9
   have hle : ¬ 9223372036854775807 < (strOfNums [48 + (K : Int) % 10]).size + o.size := by rw [strOfNums_size]; simp; omega
   have hz1 : (strOfNums [48 + (K : Int) % 10] ++ o).size = 1 + o.size := by rw [ByteArray.size_append, strOfNums_size]; rfl
   by_cases hm0 : K % 10 = 0
   ·have hm1 : (K : Int) % 10 = 0 := by omega
    rw [hm0] at hqm
    simp only [hm1, Int.add_zero] at hcv hle hz1 hw8
    have HG2 : Hid (tdS (g + 1) K o = tdS g (K / 10) (strOfNums [48] ++ o)) := by (show tdS (g + 1) K o = _; rw [HG, hm1]; rfl)
    clear HG
    go_wp2_with fail
    go_roundw
    case rel => exact ⟨g, K / 10, _, by simp, by omega, hKs, rfl, by rw [hz1]; omega, by rw [← HG2.out]; exact HD.out, hB.alloc hB.size _⟩
    case measure => simp [intOf]; omega
   ·have hd0 : decide (-((K : Int) % 10) < 0) = true := by simp; omega
    rw [hcs] at hqm
    have HG2 : Hid (tdS (g + 1) K o = tdS g (K / 10) (strOfNums [48 + (K : Int) % 10] ++ o)) := HG
    clear HG
    go_wp2_with fail
    go_roundw
    case rel => exact ⟨g, K / 10, _, by simp, by omega, hKs, rfl, by rw [hz1]; omega, by rw [← HG2.out]; exact HD.out, hB.alloc hB.size _⟩
    case measure => simp [intOf]; omega
set_option maxHeartbeats 400000 in
theorem specTextOf_any (n : Int) (w : World) (h0 : -9223372036854775808 ≤ n) (h1 : n ≤ 9223372036854775807) :
 Calls Tryz.prog 73 #[.int .i64 n] w fun e w' => e = .returned (.string (txI n)) ∧ Below w.heap.size w w' := by
 by_cases hz : n = 0
 ·subst hz
  go_enter Tryz.func73, Tryz.ntmps73
  go_wp2_with fail
  go_ret
  exact ⟨rfl, Below.refl _ _⟩
 ·by_cases hp : 0 < n
  ·obtain ⟨K, rfl⟩ := Int.eq_ofNat_of_zero_le (show 0 ≤ n by omega)
   exact specTextOf_p K w (by omega) (by omega)
  ·obtain ⟨K, hK⟩ := Int.eq_ofNat_of_zero_le (show 0 ≤ -n by omega)
   have hn : n = -(K : Int) := by omega
   subst hn
   exact specTextOf_n K w (by omega) (by omega)
end Go.Proofs.YtddjiamollfplaaGreatDoor
