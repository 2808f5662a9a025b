/- The text of a number: TextOf in the specification. Numbers of texts: the digits of a number. The text of a number and the numerals of the library: the same (pure). Looks and readings, one by one. Rows of readings: what the laws make of them, and whether two are the same. Rows of readings told by lists; an append of one. TextOf and NumOf in the program. What the listed variables give; a world in which they stand. -/
import Derived.Stop.LaidErr
import Derived.Stop.LaidTwo
import Derived.LaidLaws
import Derived.LaidSub
import Derived.LaidHandle
import Derived.OpenShut
import Derived.RowKitTokens
import Derived.Lib.LaidTab
import Derived.ChangeArms
import Derived.Test.YtddijpjgkifngaaGreatDoorM25
namespace Go.Proofs.YtddijpjgkifngaaGreatDoor
open Go.RowKit
set_option linter.unusedVariables false
def tdS : Nat → Nat → ByteArray → ByteArray
 | 0, _, s => s
 | f + 1, K, s => if K = 0 then s else tdS f (K / 10) (strOfNums [48 + (K : Int) % 10] ++ s)
theorem tdS_go {f K : Nat} {s : ByteArray} (h : K ≠ 0) : tdS (f + 1) K s = tdS f (K / 10) (strOfNums [48 + (K : Int) % 10] ++ s) := by rw [tdS, if_neg h]
theorem tdS_end {s : ByteArray} : ∀ f, tdS f 0 s = s
 | 0 => rfl
 | f + 1 => by rw [tdS, if_pos rfl]
def dgs (K : Nat) : ByteArray := tdS 20 K ⟨#[]⟩
def txI (n : Int) : ByteArray := if n = 0 then ⟨#[48]⟩ else if n < 0 then ⟨#[45]⟩ ++ dgs n.natAbs else dgs n.natAbs
theorem txI_p {K : Nat} (h : K ≠ 0) : txI (K : Int) = dgs K := by
 rw [txI, if_neg (by omega), if_neg (by omega)]; rfl
theorem txI_n {K : Nat} (h : K ≠ 0) : txI (-(K : Int)) = ⟨#[45]⟩ ++ dgs K := by
 rw [txI, if_neg (by omega), if_pos (by omega), Int.natAbs_neg]; rfl
theorem ten_step {f K : Nat} (h : K < 10 ^ (f + 1)) : K / 10 < 10 ^ f := by rw [Nat.pow_succ] at h; omega
theorem ten_pos {f K : Nat} (h : K < 10 ^ f) (hz : K ≠ 0) : ∃ g, f = g + 1 := by
 cases f with
 | zero => exact absurd h (by simp; omega)
 | succ g => exact ⟨g, rfl⟩
theorem tmod_neg (K : Nat) : Int.tmod (-(K : Int)) 10 = -((K % 10 : Nat) : Int) := by rw [Int.neg_tmod]; rfl
theorem tdiv_neg (K : Nat) : Int.tdiv (-(K : Int)) 10 = -((K / 10 : Nat) : Int) := by rw [Int.neg_tdiv]; rfl
theorem tmod_pos (K : Nat) : Int.tmod (K : Int) 10 = ((K % 10 : Nat) : Int) := rfl
theorem tdiv_pos (K : Nat) : Int.tdiv (K : Int) 10 = ((K / 10 : Nat) : Int) := rfl
set_option maxRecDepth 100000 in
set_option maxHeartbeats 4000000 in
theorem specTextOf_p (K0 : Nat) (w : World) (hz0 : K0 ≠ 0) (h1 : K0 ≤ 9223372036854775808) :
 Calls Tryz.prog 23 #[.int .i64 ((K0 : Int))] w fun e w' => e = .returned (.string (txI ((K0 : Int)))) ∧ Below w.heap.size w w' := by
 have HX : Hid (txI ((K0 : Int)) = dgs K0) := txI_p hz0
 have hne : (((K0 : Int)) == 0) = false := by (simp; try omega)
 have hlt : decide (((K0 : Int)) < 0) = false := by (simp; try omega)
 have hK0 : K0 < 10 ^ 20 := by omega
 go_enter Tryz.func23, Tryz.ntmps23
 go_wp2_with fail
 go_loopw [3, 4] (fun s kv wr => ∃ (f K : Nat) (o : ByteArray), kv = .int .i64 ((K : Int)) ∧ K ≤ K0 ∧ K < 10 ^ f ∧ s = .string o ∧ o.size + f = 20 ∧ tdS f K o = dgs K0 ∧ Below w.heap.size w wr) (fun _ kv _ => (intOf kv).natAbs)
 case atStart => exact ⟨20, K0, ⟨#[]⟩, rfl, Nat.le_refl _, hK0, rfl, rfl, rfl, Below.refl _ _⟩
 case round =>
  obtain ⟨f, K, o, rfl, hK, hKf, rfl, hos, hd, hB⟩ := hrel
  have HD : Hid (tdS f K o = dgs K0) := hd
  clear hd
  by_cases hz : K = 0
  ·subst hz
   have hE : o = dgs K0 := by rw [← HD.out, tdS_end]
   have hle : ¬ 9223372036854775807 < 1 + o.size := by omega
   subst hE
   have hq0 : (((0 : Int) != 0) = false) := by simp
   go_wp2_with fail
   go_ret
   exact ⟨by rw [HX.out]; rfl, hB⟩
  ·obtain ⟨g, rfl⟩ := ten_pos hKf hz
   have HG := tdS_go (f := g) (s := o) hz
   have hq0 : (((K : Int)) != 0) = true := by (simp; try omega)
   have hqt : Int.tdiv ((K : Int)) 10 = ((K / 10 : Nat) : Int) := tdiv_pos K
   have hqm : Int.tmod ((K : Int)) 10 = ((K % 10 : Nat) : Int) := tmod_pos K
   have hKs := ten_step hKf
   have hw8 : IntKind.u8.wrap (48 + (K : Int) % 10) = 48 + (K : Int) % 10 := Go.IntWalk.u8_in _ ⟨by omega, by omega⟩
   have hcs : ((K % 10 : Nat) : Int) = (K : Int) % 10 := by omega
   have hcv : (convert 132 9 (.slice (some ⟨wr.heap.size, 0, none⟩) 1 1)).run Tryz.prog (wr.alloc (.cells #[.int .u8 (48 + (K : Int) % 10)] 5)) = .ok (.string (strOfNums [48 + (K : Int) % 10])) (wr.alloc (.cells #[.int .u8 (48 + (K : Int) % 10)] 5)) :=
    run_convert_bytes_arg _ 132 5 Tryz.underlying132 Tryz.underlying5 wr.heap.size 0 1 1 [48 + (K : Int) % 10] rfl (fun i hi => by (obtain rfl : i = 0 := by omega); simp) 9 Tryz.underlying9
   have hle : ¬ 9223372036854775807 < (strOfNums [48 + (K : Int) % 10]).size + o.size := by rw [strOfNums_size]; simp; omega
   have hz1 : (strOfNums [48 + (K : Int) % 10] ++ o).size = 1 + o.size := by rw [ByteArray.size_append, strOfNums_size]; rfl
   rw [hcs] at hqm
   have hd0 : decide ((K : Int) % 10 < 0) = false := by simp; omega
   go_wp2_with fail
   go_roundw
   case rel => exact ⟨g, K / 10, _, by simp, by omega, hKs, rfl, by rw [hz1]; omega, by rw [← HG]; exact HD.out, hB.alloc hB.size _⟩
   case measure => simp [intOf]; omega
set_option maxRecDepth 100000 in
set_option maxHeartbeats 4000000 in
theorem specTextOf_n (K0 : Nat) (w : World) (hz0 : K0 ≠ 0) (h1 : K0 ≤ 9223372036854775808) :
 Calls Tryz.prog 23 #[.int .i64 (-(K0 : Int))] w fun e w' => e = .returned (.string (txI (-(K0 : Int)))) ∧ Below w.heap.size w w' := by
 have HX : Hid (txI (-(K0 : Int)) = ⟨#[45]⟩ ++ dgs K0) := txI_n hz0
 have hne : ((-(K0 : Int)) == 0) = false := by (simp; try omega)
 have hlt : decide ((-(K0 : Int)) < 0) = true := by (simp; try omega)
 have hK0 : K0 < 10 ^ 20 := by omega
 go_enter Tryz.func23, Tryz.ntmps23
 go_wp2_with fail
 go_loopw [3, 4] (fun s kv wr => ∃ (f K : Nat) (o : ByteArray), kv = .int .i64 (-(K : Int)) ∧ K ≤ K0 ∧ K < 10 ^ f ∧ s = .string o ∧ o.size + f = 20 ∧ tdS f K o = dgs K0 ∧ Below w.heap.size w wr) (fun _ kv _ => (intOf kv).natAbs)
 case atStart => exact ⟨20, K0, ⟨#[]⟩, rfl, Nat.le_refl _, hK0, rfl, rfl, rfl, Below.refl _ _⟩
 case round =>
  obtain ⟨f, K, o, rfl, hK, hKf, rfl, hos, hd, hB⟩ := hrel
  have HD : Hid (tdS f K o = dgs K0) := hd
  clear hd
  by_cases hz : K = 0
  ·subst hz
   have hE : o = dgs K0 := by rw [← HD.out, tdS_end]
   have hle : ¬ 9223372036854775807 < 1 + o.size := by omega
   subst hE
   have hq0 : (((0 : Int) != 0) = false) := by simp
   go_wp2_with fail
   go_ret
   exact ⟨by rw [HX.out]; rfl, hB⟩
  ·obtain ⟨g, rfl⟩ := ten_pos hKf hz
   have HG := tdS_go (f := g) (s := o) hz
   have hq0 : ((-(K : Int)) != 0) = true := by (simp; try omega)
   have hqt : Int.tdiv (-(K : Int)) 10 = -((K / 10 : Nat) : Int) := tdiv_neg K
   have hqm : Int.tmod (-(K : Int)) 10 = -((K % 10 : Nat) : Int) := tmod_neg K
   have hKs := ten_step hKf
   have hw8 : IntKind.u8.wrap (48 + (K : Int) % 10) = 48 + (K : Int) % 10 := Go.IntWalk.u8_in _ ⟨by omega, by omega⟩
   have hcs : ((K % 10 : Nat) : Int) = (K : Int) % 10 := by omega
   have hcv : (convert 132 9 (.slice (some ⟨wr.heap.size, 0, none⟩) 1 1)).run Tryz.prog (wr.alloc (.cells #[.int .u8 (48 + (K : Int) % 10)] 5)) = .ok (.string (strOfNums [48 + (K : Int) % 10])) (wr.alloc (.cells #[.int .u8 (48 + (K : Int) % 10)] 5)) :=
    run_convert_bytes_arg _ 132 5 Tryz.underlying132 Tryz.underlying5 wr.heap.size 0 1 1 [48 + (K : Int) % 10] rfl (fun i hi => by (obtain rfl : i = 0 := by omega); simp) 9 Tryz.underlying9
   have hle : ¬ 9223372036854775807 < (strOfNums [48 + (K : Int) % 10]).size + o.size := by rw [strOfNums_size]; simp; omega
   have hz1 : (strOfNums [48 + (K : Int) % 10] ++ o).size = 1 + o.size := by rw [ByteArray.size_append, strOfNums_size]; rfl
   by_cases hm0 : K % 10 = 0
   ·have hm1 : (K : Int) % 10 = 0 := by omega
    rw [hm0] at hqm
    simp only [hm1, Int.add_zero] at hcv hle hz1 hw8
    have HG2 : Hid (tdS (g + 1) K o = tdS g (K / 10) (strOfNums [48] ++ o)) := by (show tdS (g + 1) K o = _; rw [HG, hm1]; rfl)
    clear HG
    go_wp2_with fail
    go_roundw
    case rel => exact ⟨g, K / 10, _, by simp, by omega, hKs, rfl, by rw [hz1]; omega, by rw [← HG2.out]; exact HD.out, hB.alloc hB.size _⟩
    case measure => simp [intOf]; omega
   ·have hd0 : decide (-((K : Int) % 10) < 0) = true := by simp; omega
    rw [hcs] at hqm
    have HG2 : Hid (tdS (g + 1) K o = tdS g (K / 10) (strOfNums [48 + (K : Int) % 10] ++ o)) := HG
    clear HG
    go_wp2_with fail
    go_roundw
    case rel => exact ⟨g, K / 10, _, by simp, by omega, hKs, rfl, by rw [hz1]; omega, by rw [← HG2.out]; exact HD.out, hB.alloc hB.size _⟩
    case measure => simp [intOf]; omega
set_option maxHeartbeats 400000 in
theorem specTextOf_any (n : Int) (w : World) (h0 : -9223372036854775808 ≤ n) (h1 : n ≤ 9223372036854775807) :
 Calls Tryz.prog 23 #[.int .i64 n] w fun e w' => e = .returned (.string (txI n)) ∧ Below w.heap.size w w' := by
 by_cases hz : n = 0
 ·subst hz
  go_enter Tryz.func23, Tryz.ntmps23
  go_wp2_with fail
  go_ret
  exact ⟨rfl, Below.refl _ _⟩
 ·by_cases hp : 0 < n
  ·obtain ⟨K, rfl⟩ := Int.eq_ofNat_of_zero_le (show 0 ≤ n by omega)
   exact specTextOf_p K w (by omega) (by omega)
  ·obtain ⟨K, hK⟩ := Int.eq_ofNat_of_zero_le (show 0 ≤ -n by omega)
   have hn : n = -(K : Int) := by omega
   subst hn
   exact specTextOf_n K w (by omega) (by omega)
end Go.Proofs.YtddijpjgkifngaaGreatDoor
namespace Go.Proofs.YtddijpjgkifngaaGreatDoor
open Go.RowKit
set_option linter.unusedVariables false
def dL : Nat → Nat → List Int → List Int
 | 0, _, L => L
 | f + 1, K, L => if K = 0 then L else dL f (K / 10) ((48 + (K : Int) % 10) :: L)
theorem str_cons (a : Int) (L : List Int) : strOfNums [a] ++ strOfNums L = strOfNums (a :: L) := by
 apply ByteArray.ext
 rw [ByteArray.data_append, strOfNums, strOfNums, strOfNums]
 simp
theorem tdS_dL : ∀ (f K : Nat) (L : List Int), tdS f K (strOfNums L) = strOfNums (dL f K L)
 | 0, _, _ => rfl
 | f + 1, K, L => by
  rw [tdS, dL]
  by_cases h : K = 0
  ·rw [if_pos h, if_pos h]
  ·rw [if_neg h, if_neg h, str_cons, tdS_dL f]
theorem dgs_eq (K : Nat) : dgs K = strOfNums (dL 20 K []) := tdS_dL 20 K []
end Go.Proofs.YtddijpjgkifngaaGreatDoor
namespace Go.Proofs.YtddijpjgkifngaaGreatDoor
open Go.RowKit
set_option linter.unusedVariables false
theorem dL_dec : ∀ (f K : Nat) (L : List Int), K ≠ 0 → K < 10 ^ f → dL f K L = ((Go.Lib.decDigits K).map fun c => (c.toNat : Int)) ++ L
 | 0, K, L, hz, h => absurd (by simpa using h) hz
 | f + 1, K, L, hz, h => by
  rw [dL, if_neg hz]
  by_cases h10 : K < 10
  ·have e : K / 10 = 0 := by omega
   have e2 : dL f 0 ((48 + (K : Int) % 10) :: L) = (48 + (K : Int) % 10) :: L := by cases f <;> simp [dL]
   have e3 : ((UInt8.ofNat (48 + K)).toNat : Int) = 48 + (K : Int) % 10 := by rw [UInt8.toNat_ofNat']; omega
   rw [e, e2, Go.Lib.decDigits_one h10, List.map_cons, e3]
   rfl
  ·have e3 : ((UInt8.ofNat (48 + K % 10)).toNat : Int) = 48 + (K : Int) % 10 := by rw [UInt8.toNat_ofNat']; omega
   have e4 : Go.Lib.decDigits K = Go.Lib.decDigits (K / 10) ++ [UInt8.ofNat (48 + K % 10)] := by rw [Go.Lib.decDigits, dif_neg h10]
   rw [dL_dec f (K / 10) _ (by omega) (ten_step h), e4, List.map_append, List.append_assoc, List.map_cons, e3]
   rfl
theorem str_back (l : List UInt8) : strOfNums (l.map fun c => (c.toNat : Int)) = ⟨l.toArray⟩ := by
 apply ByteArray.ext
 rw [strOfNums, List.map_map]
 have : ((fun n : Int => UInt8.ofNat n.toNat) ∘ fun c : UInt8 => (c.toNat : Int)) = id := by
  funext c; simp
 rw [this, List.map_id]
theorem dgs_dec {K : Nat} (hz : K ≠ 0) (h : K < 10 ^ 20) : dgs K = ⟨(Go.Lib.decDigits K).toArray⟩ := by
 rw [dgs_eq, dL_dec 20 K [] hz h, List.append_nil, str_back]
theorem txI_itoa (n : Int) (h0 : -9223372036854775808 ≤ n) (h1 : n ≤ 9223372036854775807) : (⟨(Go.Lib.itoa n).toArray⟩ : ByteArray) = txI n := by
 by_cases hz : n = 0
 ·subst hz
  have e : Go.Lib.itoa 0 = [48] := by rw [Go.Lib.itoa, if_neg (by omega)]; exact Go.Lib.decDigits_one (by decide)
  rw [e]; rfl
 ·by_cases hp : 0 < n
  ·obtain ⟨K, rfl⟩ := Int.eq_ofNat_of_zero_le (show 0 ≤ n by omega)
   rw [txI_p (by omega), dgs_dec (by omega) (by omega), Go.Lib.itoa, if_neg (by omega)]
   rfl
  ·obtain ⟨K, hK⟩ := Int.eq_ofNat_of_zero_le (show 0 ≤ -n by omega)
   have hn : n = -(K : Int) := by omega
   subst hn
   rw [txI_n (by omega), dgs_dec (by omega) (by omega), Go.Lib.itoa, if_pos (by omega), Int.natAbs_neg]
   apply ByteArray.ext
   rw [ByteArray.data_append]
   simp
end Go.Proofs.YtddijpjgkifngaaGreatDoor
namespace Go.Proofs.YtddijpjgkifngaaGreatDoor
open Go.RowKit
set_option linter.unusedVariables false
abbrev RgT : Type := Int × Bool × Int
def zRg : RgT := (0, false, 0)
end Go.Proofs.YtddijpjgkifngaaGreatDoor
namespace Go.Proofs.YtddijpjgkifngaaGreatDoor
open Go.RowKit
set_option linter.unusedVariables false
def MCReading (M : RgT) : Nat → Value
 | 0 => .int .i64 M.1
 | 1 => .bool M.2.1
 | _ => .int .i64 M.2.2
def MFReading (M : Nat → RgT) (c : Nat) : Value := MCReading (M (c / 3)) (c % 3)
end Go.Proofs.YtddijpjgkifngaaGreatDoor
namespace Go.Proofs.YtddijpjgkifngaaGreatDoor
open Go.RowKit
set_option linter.unusedVariables false
def gG (L : List RgT) (i : Nat) : RgT := L.getD i zRg
def grow (L : List RgT) : List Value := (List.range (L.length * 3)).map (MFReading (gG L))
end Go.Proofs.YtddijpjgkifngaaGreatDoor
namespace Go.Proofs.YtddijpjgkifngaaGreatDoor
open Go.RowKit
set_option linter.unusedVariables false
def T10 (w : World) : Prop := Go.Lib.TabBelow Tryz.prog w.heap.size w "internal/strconv.uint64pow10" .u64 Go.Lib.pow10Tab
theorem T10.below {w w' : World} (h : T10 w) (hb : Below w.heap.size w w') : T10 w' := fun u hu => h u (hb.trans (hu.mono hb.size))
def ErC (w : World) (g : Nat) : Prop := (∃ u v, w.cell? ⟨g, 0, none⟩ = some (.iface u v)) ∧ g < w.heap.size
theorem ErC.below {w w' : World} {g : Nat} (h : ErC w g) (hb : Below w.heap.size w w') : ErC w' g := by
 obtain ⟨⟨u, v, hc⟩, hg⟩ := h
 exact ⟨⟨u, v, by rw [hb.cell (p := ⟨g, 0, none⟩) hg]; exact hc⟩, Nat.lt_of_lt_of_le hg hb.size⟩
theorem below_grownX (w : World) (q : Nat) (os : Array Obj) : Below w.heap.size w (Go.Sort.grow (w.drewN q) os) :=
 ⟨rfl, rfl, rfl, by first | (simp [Go.Sort.grow]; done) | (simp [Go.Sort.grow]; omega), fun i hi => by
  show ((w.drewN q).heap ++ os)[i]? = _
  rw [Array.getElem?_append_left (by show i < w.heap.size; omega)]
  rfl⟩
theorem itoa_any (n : Int) (w : World) (h0 : -9223372036854775808 ≤ n) (h1 : n ≤ 9223372036854775807) (hT : T10 w) :
 Calls Tryz.prog 118 #[.int .i64 n] w fun e w' => e = .returned (.string (txI n)) ∧ Below w.heap.size w w' := by
 have h := Any.strconv_Itoa itoaA n h0 h1 w (hT w (Below.refl _ _))
 change Calls Tryz.prog 118 _ _ _ at h
 refine h.mono ?_
 rintro e w' ⟨rfl, k, os, rfl⟩
 exact ⟨by rw [txI_itoa n h0 h1], below_grownX w k os⟩
theorem implTextOf_any (n : Int) (w : World) (h0 : -9223372036854775808 ≤ n) (h1 : n ≤ 9223372036854775807) (hT : T10 w) :
 Calls Tryz.prog 69 #[.int .i64 n] w fun e w' => e = .returned (.string (txI n)) ∧ Below w.heap.size w w' := by
 have CI := itoa_any n w h0 h1 hT
 generalize txI n = x at *
 clear hT
 go_enter Tryz.func69, Tryz.ntmps69
 go_wp2_with fail
 refine CI.mono ?_
 rintro e w1 ⟨rfl, hb⟩
 go_wp2_with fail
 go_ret
 exact ⟨rfl, hb⟩
end Go.Proofs.YtddijpjgkifngaaGreatDoor
namespace Go.Proofs.YtddijpjgkifngaaGreatDoor
open Go.RowKit
set_option linter.unusedVariables false
theorem t10_at {W : World} {l : List (String × DataW Unit)} (h : laidMetH Tryz.prog l W) (hf : l.filter (fun x => x.1 == "internal/strconv.uint64pow10") = [("internal/strconv.uint64pow10", Rows.laid_internal_strconv_uint64pow10)]) : T10 W := by
 have h1 := h.filter (fun x => x.1 == "internal/strconv.uint64pow10")
 rw [hf] at h1
 have e0 : (Rows.laid_internal_strconv_uint64pow10 : DataW Unit) = Go.Lib.tabData .u64 Go.Lib.pow10Tab := by kernel_rfl
 have h2 : laidMet Tryz.prog [("internal/strconv.uint64pow10", (Rows.laid_internal_strconv_uint64pow10 : DataW Unit))] W := h1
 rw [e0] at h2
 exact Go.Lib.tabBelow_of_tabIs (Go.Lib.tabIs_of_head (g := 1) (t := 261) (e := 250) (n := 20) (by kernel_rfl) (by kernel_rfl) Tryz.underlying261 Tryz.underlying250 (by kernel_rfl) (by kernel_rfl) h2)
noncomputable def laidWorld (os : Os) : World :=
 let w0 := World.holding Tryz.prog os ⟨#[], #[], []⟩
 { w0 with heap := (((w0.heap.modify 2 fun | .cells _ t frozen => .cells #[.int .u8 0, .int .u8 1, .int .u8 28, .int .u8 2, .int .u8 29, .int .u8 14, .int .u8 24, .int .u8 3, .int .u8 30, .int .u8 22, .int .u8 20, .int .u8 15, .int .u8 25, .int .u8 17, .int .u8 4, .int .u8 8, .int .u8 31, .int .u8 27, .int .u8 13, .int .u8 23, .int .u8 21, .int .u8 19, .int .u8 16, .int .u8 7, .int .u8 26, .int .u8 12, .int .u8 18, .int .u8 6, .int .u8 11, .int .u8 5, .int .u8 10, .int .u8 9] t frozen | o => o).modify 3 fun | .cells _ t frozen => .cells #[.int .u8 0, .int .u8 1, .int .u8 56, .int .u8 2, .int .u8 57, .int .u8 49, .int .u8 28, .int .u8 3, .int .u8 61, .int .u8 58, .int .u8 42, .int .u8 50, .int .u8 38, .int .u8 29, .int .u8 17, .int .u8 4, .int .u8 62, .int .u8 47, .int .u8 59, .int .u8 36, .int .u8 45, .int .u8 43, .int .u8 51, .int .u8 22, .int .u8 53, .int .u8 39, .int .u8 33, .int .u8 30, .int .u8 24, .int .u8 18, .int .u8 12, .int .u8 5, .int .u8 63, .int .u8 55, .int .u8 48, .int .u8 27, .int .u8 60, .int .u8 41, .int .u8 37, .int .u8 16, .int .u8 46, .int .u8 35, .int .u8 44, .int .u8 21, .int .u8 52, .int .u8 32, .int .u8 23, .int .u8 11, .int .u8 54, .int .u8 26, .int .u8 40, .int .u8 15, .int .u8 34, .int .u8 20, .int .u8 31, .int .u8 10, .int .u8 25, .int .u8 14, .int .u8 19, .int .u8 9, .int .u8 13, .int .u8 8, .int .u8 7, .int .u8 6] t frozen | o => o).modify 1 fun | .cells _ t frozen => .cells #[.int .u64 1, .int .u64 10, .int .u64 100, .int .u64 1000, .int .u64 10000, .int .u64 100000, .int .u64 1000000, .int .u64 10000000, .int .u64 100000000, .int .u64 1000000000, .int .u64 10000000000, .int .u64 100000000000, .int .u64 1000000000000, .int .u64 10000000000000, .int .u64 100000000000000, .int .u64 1000000000000000, .int .u64 10000000000000000, .int .u64 100000000000000000, .int .u64 1000000000000000000, .int .u64 10000000000000000000] t frozen | o => o) }
end Go.Proofs.YtddijpjgkifngaaGreatDoor
