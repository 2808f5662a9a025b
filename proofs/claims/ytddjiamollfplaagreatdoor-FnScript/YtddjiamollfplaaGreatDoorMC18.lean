/- HexOf and FromHex in the program; strings.IndexByte at the digits. -/
import Derived.Laws.Externs
import Derived.Lib.Bytealg
import Derived.Laws.MakeOwn
import Derived.Test.YtddjiamollfplaaGreatDoorMC0
import Derived.Test.YtddjiamollfplaaGreatDoorMC5
namespace Go.Proofs.YtddjiamollfplaaGreatDoor
open Go.RowKit
set_option linter.unusedVariables false
theorem ix_vl : ∀ k, k < 256 → Lib.indexByte [48, 49, 50, 51, 52, 53, 54, 55, 56, 57, 97, 98, 99, 100, 101, 102] (k : Nat).toUInt8 = vlI (k : Int) := by decide +kernel
theorem mW {b : Int} (h0 : 0 ≤ b) (h1 : b ≤ 255) : Lib.indexByte [48, 49, 50, 51, 52, 53, 54, 55, 56, 57, 97, 98, 99, 100, 101, 102] b.toNat.toUInt8 = vlI b := by
 obtain ⟨k, rfl⟩ := Int.eq_ofNat_of_zero_le h0
 exact ix_vl k (by omega)
theorem mc (b : Int) (w : World) (h0 : 0 ≤ b) (h1 : b ≤ 255) : (callFunc 108 #[.string ⟨#[48, 49, 50, 51, 52, 53, 54, 55, 56, 57, 97, 98, 99, 100, 101, 102]⟩, .int .u8 b]).run Tryz.prog w = .ok (.value (.int .i64 (vlI b))) w := by
 rw [run_callFunc_extern Tryz.func108 (by kernel_rfl) (by kernel_rfl) (by kernel_rfl) (e := Extern.BytealgIndexByte.indexByte) (by kernel_rfl), Lib.run_indexByteString, ← mW h0 h1]
 rfl
theorem kW (b : Int) (w : World) (h0 : 0 ≤ b) (h1 : b ≤ 255) :
 Calls Tryz.prog 96 #[.string ⟨#[48, 49, 50, 51, 52, 53, 54, 55, 56, 57, 97, 98, 99, 100, 101, 102]⟩, .int .u8 b] w fun e w' => e = .returned (.int .i64 (vlI b)) ∧ w = w' := by
 have he := fun w => mc b w h0 h1
 go_enter Tryz.func96, Tryz.ntmps96
 go_wp2_with fail
 go_ret
 exact ⟨rfl, rfl⟩
theorem fy (b : Int) (w : World) (h0 : 0 ≤ b) (h1 : b ≤ 255) :
 Calls Tryz.prog 86 #[.string ⟨#[48, 49, 50, 51, 52, 53, 54, 55, 56, 57, 97, 98, 99, 100, 101, 102]⟩, .int .u8 b] w fun e w' => e = .returned (.int .i64 (vlI b)) ∧ w = w' := by
 go_enter Tryz.func86, Tryz.ntmps86
 go_wp2_with fail
 refine (kW b _ h0 h1).mono ?_
 rintro e w1 ⟨rfl, rfl⟩
 go_wp2_with fail
 go_ret
 exact ⟨rfl, rfl⟩
theorem shr4 (b : Int) (w : World) : Sem.run Tryz.prog (Op.shift BinOp.shr IntKind.u8 b IntKind.u64 4) w = .ok (.int .u8 (b / 16)) w := by
 show Result.ok (Value.int .u8 (Int.fdiv b (2 ^ 4))) w = _
 rw [Int.fdiv_eq_ediv_of_nonneg _ (by decide)]
 rfl
theorem mH : ∀ z : Fin 256, bits .and .u8 (z.val : Int) 15 = (z.val : Int) % 16 := by decide +kernel
theorem and15 {b : Int} (h0 : 0 ≤ b) (h1 : b ≤ 255) : bits .and .u8 b 15 = b % 16 := by
 obtain ⟨k, rfl⟩ := Int.eq_ofNat_of_zero_le h0
 exact mH ⟨k, by omega⟩
theorem or16_ : ∀ y z : Fin 16, bits .or .i64 (16 * (y.val : Int)) (z.val : Int) = 16 * (y.val : Int) + (z.val : Int) := by decide +kernel
theorem or16 {p r : Int} (h0 : 0 ≤ p) (h1 : p ≤ 15) (h2 : 0 ≤ r) (h3 : r ≤ 15) : bits .or .i64 (16 * p) r = 16 * p + r := by
 obtain ⟨k, rfl⟩ := Int.eq_ofNat_of_zero_le h0
 obtain ⟨m, rfl⟩ := Int.eq_ofNat_of_zero_le h2
 exact or16_ ⟨k, by omega⟩ ⟨m, by omega⟩
theorem gR (c : Nat) (h : c ≤ 1048576) (w : World) : (Instr.makeSlice 22 (.int .i64 0) (.int .i64 (c : Int))).run Tryz.prog w = .ok (.slice (some ⟨w.heap.size, 0, none⟩) 0 c) (w.alloc (.cells (madeCells #[.int .u8 0] c) 5)) := by
 obtain ⟨i0, hi0, hz0, hz1, hz2⟩ := info_parts infoByte
 have hr := run_make (P := Tryz.prog) w 22 5 i0 _ Tryz.underlying22 hi0 hz0 .i64 .i64 0 c (by omega) (by omega) (by rw [hz2]; omega) (by omega)
 rw [hz1, Nat.mul_one] at hr
 simp only [Int.toNat_natCast] at hr
 exact hr
theorem kG {p : Int} (h0 : 0 ≤ p) (h1 : p ≤ 15) (w : World) : (Instr.index 9 (.string ⟨#[48, 49, 50, 51, 52, 53, 54, 55, 56, 57, 97, 98, 99, 100, 101, 102]⟩) (.int .u8 p)).run Tryz.prog w = .ok (.int .u8 (hxD p)) w := by
 obtain ⟨k, rfl⟩ := Int.eq_ofNat_of_zero_le h0
 have hi : 0 ≤ (k : Int) ∧ (k : Int) < ((cQ.size : Nat) : Int) := by (have : cQ.size = 16 := rfl); omega
 show (Instr.index 9 (.string cQ) (.int .u8 (k : Int))).run Tryz.prog w = _
 rw [run_index_string w 9 cQ .u8 k Tryz.underlying9, dif_pos hi, ← kM k (by omega)]
 have e : ((cQ[(k : Int).toNat]'(by omega)).toNat : Int) = bt cQ k := by
  unfold bt
  rw [Array.getD_eq_getD_getElem?]
  have h' : k < cQ.data.size := by (have : cQ.data.size = 16 := rfl); omega
  rw [Array.getElem?_eq_getElem h']
  rfl
 rw [e]
set_option maxRecDepth 100000 in
set_option maxHeartbeats 8000000 in
theorem eY (s : ByteArray) (w : World) (hm : s.size ≤ maxLen) :
 Calls Tryz.prog 65 #[.string s] w fun e w' => e = .returned (.string (aZ s)) ∧ Below w.heap.size w w' := by
 unfold maxLen at hm
 obtain ⟨i0, hi0, hz0, hz1, hz2⟩ := info_parts infoByte
 by_cases h1 : 64 < s.size
 ·have e1 : decide (64 < (s.size : Int)) = true := by simp; omega
  have HE : Hid (aZ s = ⟨#[]⟩) := if_pos h1
  go_enter Tryz.func65, Tryz.ntmps65
  go_wp2_with fail
  go_ret
  exact ⟨by rw [HE.out]; rfl, Below.refl _ _⟩
 have e1 : decide (64 < (s.size : Int)) = false := by simp; omega
 by_cases h2 : s.size = 0
 ·have HE : Hid (aZ s = ⟨#[45]⟩) := by (show aZ s = _; rw [aZ, if_neg h1, if_pos h2])
  have e2 := jn h2
  clear h2
  go_enter Tryz.func65, Tryz.ntmps65
  go_wp2_with fail
  go_ret
  exact ⟨by rw [HE.out]; rfl, Below.refl _ _⟩
 have e2 := gC h2
 have HE : Hid (aZ s = strOfNums (hxL s s.size)) := by (show aZ s = _; rw [aZ, if_neg h1, if_neg h2])
 have B0 := Below.nw w (.cells (madeCells #[.int .u8 0] (2 * s.size)) 5)
 have O0 : (w.alloc (.cells (madeCells #[.int .u8 0] (2 * s.size)) 5)).ownsRow w.heap.size 5 1 (.slice (some ⟨w.heap.size, 0, none⟩) 0 (2 * s.size)) ([] : List Int).length (bts []) := World.ownsRow_made w _ (2 * s.size) (Nat.le_refl _) (by unfold maxLen; omega) (by rw [size_madeCells, Nat.mul_one])
 have hmk := fun w => gR (2 * s.size) (by omega) w
 have hcm : (2 : Int) * (s.size : Int) = ((2 * s.size : Nat) : Int) := by omega
 have hwm : IntKind.i64.wrap ((2 * s.size : Nat) : Int) = ((2 * s.size : Nat) : Int) := Go.IntWalk.i64_in _ ⟨by omega, by omega⟩
 generalize 2 * s.size = c2 at *
 go_enter Tryz.func65, Tryz.ntmps65
 go_upto_region 6 with fail
 generalize hw0 : w.alloc (.cells (madeCells #[.int .u8 0] c2) 5) = w0 at *
 clear hw0 e1 e2 hmk hcm hwm
 go_wp2_with fail
 go_loopw [3, 16] (fun v i wr => ∃ k : Nat, k ≤ s.size ∧ i = .int .i64 (k : Int) ∧ wr.ownsRow w.heap.size 5 1 v (hxL s k).length (bts (hxL s k)) ∧ Below w.heap.size w wr) (fun _ i _ => s.size - (intOf i).toNat)
 case atStart => exact ⟨0, Nat.zero_le _, rfl, O0, B0⟩
 case round =>
  obtain ⟨k, hk, rfl, OW, B⟩ := hrel
  by_cases hlt : k < s.size
  ·have hx := cJ s k hlt
   have hli : (k : Int) < (s.size : Int) := by omega
   have hln := cG s k
   obtain ⟨hb0, hb1⟩ := cP s k
   have HL : Hid (hxL s (k + 1) = hxL s k ++ [hxD (bt s k / 16), hxD (bt s k % 16)]) := rfl
   have hsh := fun w => shr4 (bt s k) w
   have han := and15 hb0 hb1
   have hp0 : 0 ≤ bt s k / 16 := by omega
   have hp1 : bt s k / 16 ≤ 15 := by omega
   have hr0 : 0 ≤ bt s k % 16 := by omega
   have hr1 : bt s k % 16 ≤ 15 := by omega
   generalize hpe : bt s k / 16 = p at *
   generalize hre : bt s k % 16 = r at *
   have hdp := fun w => kG hp0 hp1 w
   have hdr := fun w => kG hr0 hr1 w
   generalize bt s k = b at *
   generalize hxL s k = LL at *
   go_upto_region 9 with fail
   refine wp_region_held_drew (S := (fun _ => True)) (by kernel_rfl) ?_ (fun hHeld => ?_)
   ·exact trivial
   replace B := Below.drew B
   replace OW := World.ownsRow.drew OW
   generalize wr.drew = vx at *
   refine zT8 0 ?_
   refine zT2 8 ?_
   refine zTk 10 ?_
   refine zQ 11 fun K hK => ?_
   go_simp
   (have HF : Hid (∀ j u, (bts [hxD p, hxD r])[j]? = some u → (vx.alloc (.cells #[.int .u8 (hxD p), .int .u8 (hxD r)] 5)).cell? ((⟨vx.heap.size, 0, none⟩ : Addr).add j) = some u) := gF vx (hxD p) (hxD r)); (replace OW := World.ownsRow.alloc OW (.cells #[.int .u8 (hxD p), .int .u8 (hxD r)] 5)); (replace B := B.alloc B.size (.cells #[.int .u8 (hxD p), .int .u8 (hxD r)] 5)); (generalize vx.alloc (.cells #[.int .u8 (hxD p), .int .u8 (hxD r)] 5) = v2 at *); (generalize vx.heap.size = jz at *); (have hsz : w.heap.size ≤ v2.heap.size := B.size)
   refine hK.out _ _ ?_ (fun hHeld => ?_)
   ·exact trivial
   clear hK K
   (try simp only [zA])
   refine zQ 12 fun K hK => ?_
   rw [if_pos (by rfl)]; refine wp_append_own _ _ _ 22 rfl w.heap.size 5 i0 (.int .u8 0) 1 1 Tryz.underlying22 hi0 hz0 hz1 hz2 rfl (by decide) _ _ _ rfl OW ⟨jz, 0, none⟩ _ _ (bts [hxD p, hxD r]) rfl rfl HF.out (iN _) (by unfold maxLen; omega) (by omega) hsz ?_; intro v' wn hown' hgrow _; (have G := ap OW hgrow hsz); (replace B := B.trans G); (rw [show (bts LL ++ bts [hxD p, hxD r]) = bts (LL ++ [hxD p, hxD r]) from (iM _ _).symm] at hown'); (clear hgrow G HF)
   refine hK.out _ _ ?_ (fun hHeld => ?_)
   ·exact trivial
   clear hK K
   (try simp only [zA])
   refine zTk 13 ?_
   refine wpAnyH_done (by kernel_rfl) ?_ _
   go_wp2_with fail
   go_roundw
   case rel => exact ⟨k + 1, by omega, by go_num, by rw [HL.out, List.length_append]; exact hown', B⟩
   case measure => simp [intOf]; omega
  ·have hkn : k = s.size := by omega
   subst hkn
   have hcv := ez OW
   have hli : ¬ (s.size : Int) < (s.size : Int) := by omega
   go_wp2_with fail
   go_ret
   exact ⟨by rw [HE.out]; rfl, B⟩
set_option maxRecDepth 100000 in
set_option maxHeartbeats 8000000 in
theorem dU (s : ByteArray) (w : World) (hm : s.size ≤ maxLen) :
 Calls Tryz.prog 68 #[.string s] w fun e w' => e = .returned (.tuple #[.string (fhO s), .bool (fhB s)]) ∧ Below w.heap.size w w' := by
 unfold maxLen at hm
 obtain ⟨i0, hi0, hz0, hz1, hz2⟩ := info_parts infoByte
 cases hd : dq s
 rotate_left
 ·have HO : Hid (fhO s = ⟨#[]⟩ ∧ fhB s = true) := ⟨by rw [fhO, hd], by rw [fhB, hd]; rfl⟩
  have hd' : (s.toList == [45]) = true := hd
  clear hd
  go_enter Tryz.func68, Tryz.ntmps68
  go_wp2_with fail
  go_ret2
  exact ⟨by rw [HO.out.1, HO.out.2]; rfl, Below.refl _ _⟩
 have hd' : (s.toList == [45]) = false := hd
 have HNO : Hid (fhB s = false → fhO s = ⟨#[]⟩) := fun h => fh_no hd h
 have HYE : Hid (fhB s = true → fhO s = strOfNums (fhL s (s.size / 2))) := fun h => kJ hd h
 by_cases h1 : s.size ≠ 0 ∧ s.size % 2 = 0 ∧ s.size ≤ 128
 rotate_left
 ·have HB : Hid (fhB s = false) := by (show fhB s = false; rw [fhB, hd, decide_eq_false h1]; rfl)
  clear hd
  by_cases c1 : s.size = 0
  ·have e1 := jn c1
   clear h1
   go_enter Tryz.func68, Tryz.ntmps68
   go_wp2_with fail
   go_ret2
   exact ⟨by rw [HNO.out HB.out, HB.out]; rfl, Below.refl _ _⟩
  have e1 := gC c1
  have hqm : Int.tmod (s.size : Int) 2 = ((s.size % 2 : Nat) : Int) := rfl
  by_cases c2 : s.size % 2 = 1
  ·rw [c2] at hqm
   clear h1
   go_enter Tryz.func68, Tryz.ntmps68
   go_wp2_with fail
   go_ret2
   exact ⟨by rw [HNO.out HB.out, HB.out]; rfl, Below.refl _ _⟩
  rw [show s.size % 2 = 0 by omega] at hqm
  have e3 : decide (128 < (s.size : Int)) = true := by simp; omega
  clear h1
  go_enter Tryz.func68, Tryz.ntmps68
  go_wp2_with fail
  go_ret2
  exact ⟨by rw [HNO.out HB.out, HB.out]; rfl, Below.refl _ _⟩
 obtain ⟨h1a, h1b, h1c⟩ := h1
 have HB : Hid (fhB s = fhD s (s.size / 2)) := by (show fhB s = _; rw [fhB, hd, decide_eq_true ⟨h1a, h1b, h1c⟩]; rfl)
 clear hd
 have e1 := gC h1a
 have hqm : Int.tmod (s.size : Int) 2 = 0 := by (have : Int.tmod (s.size : Int) 2 = ((s.size % 2 : Nat) : Int) := rfl); rw [this, h1b]; rfl
 have e3 : decide (128 < (s.size : Int)) = false := by simp; omega
 obtain ⟨h, hh⟩ : ∃ h, s.size = 2 * h := ⟨s.size / 2, by omega⟩
 have hh2 : s.size / 2 = h := by omega
 have hqd : Int.tdiv (s.size : Int) 2 = (h : Int) := by (have : Int.tdiv (s.size : Int) 2 = ((s.size / 2 : Nat) : Int) := rfl); rw [this, hh2]
 rw [hh2] at HB HYE
 have hhs : h ≤ 64 := by omega
 have B0 := Below.nw w (.cells (madeCells #[.int .u8 0] h) 5)
 have O0 : (w.alloc (.cells (madeCells #[.int .u8 0] h) 5)).ownsRow w.heap.size 5 1 (.slice (some ⟨w.heap.size, 0, none⟩) 0 h) ([] : List Int).length (bts []) := World.ownsRow_made w _ h (Nat.le_refl _) (by unfold maxLen; omega) (by rw [size_madeCells, Nat.mul_one])
 have hmk := fun w => gR h (by omega) w
 have hwh : IntKind.i64.wrap (h : Int) = (h : Int) := Go.IntWalk.i64_in _ ⟨by omega, by omega⟩
 have HH : Hid (s.size = 2 * h) := hh
 clear hh hh2 h1a h1b
 go_enter Tryz.func68, Tryz.ntmps68
 go_upto_region 6 with fail
 generalize hw0 : w.alloc (.cells (madeCells #[.int .u8 0] h) 5) = w0 at *
 clear hw0 e1 e3 hqm hd' hmk hqd hwh
 go_wp2_with fail
 go_loopw [4, 5] (fun v i wr => ∃ k : Nat, k ≤ h ∧ i = .int .i64 ((2 * k : Nat) : Int) ∧ fhD s k = true ∧ wr.ownsRow w.heap.size 5 1 v (fhL s k).length (bts (fhL s k)) ∧ Below w.heap.size w wr) (fun _ i _ => s.size - (intOf i).toNat)
 case atStart => exact ⟨0, Nat.zero_le _, rfl, rfl, O0, B0⟩
 case round =>
  obtain ⟨k, hk, rfl, hD, OW, B⟩ := hrel
  have hH := HH.out
  by_cases hlt : k < h
  ·have hx := cJ s (2 * k) (by omega)
   have hx2 := cJ s (2 * k + 1) (by omega)
   have hli : ((2 * k : Nat) : Int) < (s.size : Int) := by omega
   have hln := fR s k
   have HL : Hid (fhL s (k + 1) = fhL s k ++ [16 * vlI (bt s (2 * k)) + vlI (bt s (2 * k + 1))]) := rfl
   have HT : Hid (0 ≤ vlI (bt s (2 * k)) → 0 ≤ vlI (bt s (2 * k + 1)) → fhD s (k + 1) = true) := fun p q => by rw [fhD, hD, decide_eq_true p, decide_eq_true q]; rfl
   have HF : Hid ((decide (0 ≤ vlI (bt s (2 * k))) && decide (0 ≤ vlI (bt s (2 * k + 1)))) = false → fhB s = false) := fun p => by rw [HB.out]; exact mD hlt p
   obtain ⟨b0, b1⟩ := cP s (2 * k)
   obtain ⟨c0, c1⟩ := cP s (2 * k + 1)
   obtain ⟨p0, p1⟩ := lP (bt s (2 * k))
   obtain ⟨r0, r1⟩ := lP (bt s (2 * k + 1))
   have hk64 : k ≤ 64 := by omega
   clear hD hH
   have hj2 : ((2 * k + 1 : Nat) : Int) = ((2 * k : Nat) : Int) + 1 := by omega
   rw [hj2] at hx2
   clear hj2
   generalize bt s (2 * k) = b at *
   generalize bt s (2 * k + 1) = c at *
   have hsj : s.size ≤ 128 := h1c
   generalize hj : 2 * k = j at *
   have HJ : Hid (2 * k = j) := hj
   have hwj : IntKind.i64.wrap ((j : Int) + 1) = (j : Int) + 1 := Go.IntWalk.i64_in _ ⟨by omega, by omega⟩
   clear hj
   go_upto_region 9 with fail
   refine wp_region_held_drew (S := (fun _ => True)) (by kernel_rfl) ?_ (fun hHeld => ?_)
   ·exact trivial
   replace B := Below.drew B
   replace OW := World.ownsRow.drew OW
   generalize wr.drew = vx at *
   refine zT2 0 ?_
   refine zTk 2 ?_
   refine zT4 4 ?_
   refine zQ 3 fun K hK => ?_
   go_simp
   refine (fy b _ b0 b1).mono ?_; rintro ee w9 ⟨rfl, rfl⟩
   (try go_wp2_with fail)
   refine hK.out _ _ ?_ (fun hHeld => ?_)
   ·exact trivial
   clear hK K
   (try simp only [zA])
   refine zQ 8 fun K hK => ?_
   go_simp
   refine (fy c _ c0 c1).mono ?_; rintro ee w9 ⟨rfl, rfl⟩
   (try go_wp2_with fail)
   refine hK.out _ _ ?_ (fun hHeld => ?_)
   ·exact trivial
   clear hK K
   (try simp only [zA])
   refine zT2 9 ?_
   refine wpAnyH_done (by kernel_rfl) ?_ _
   have hpp : vlI b = vlI b := rfl
   generalize vlI b = p at *
   generalize vlI c = r at *
   by_cases hp : 0 ≤ p
   rotate_left
   ·have HBF : Hid (fhB s = false) := HF.out (by rw [decide_eq_false hp]; rfl)
    have d1 : decide (p < 0) = true := by simp; omega
    clear HF HT HB
    go_wp2_with fail
    go_ret2
    exact ⟨by rw [HNO.out HBF.out, HBF.out]; rfl, B⟩
   have d1 : decide (p < 0) = false := by simp; omega
   by_cases hr : 0 ≤ r
   rotate_left
   ·have HBF : Hid (fhB s = false) := HF.out (by rw [decide_eq_false hr]; simp)
    have d2 : decide (r < 0) = true := by simp; omega
    clear HF HT HB
    go_wp2_with fail
    go_ret2
    exact ⟨by rw [HNO.out HBF.out, HBF.out]; rfl, B⟩
   have d2 : decide (r < 0) = false := by simp; omega
   have HTT : Hid (fhD s (k + 1) = true) := HT.out hp hr
   have hor : bits .or .i64 (p * 16) r = 16 * p + r := by (rw [Int.mul_comm p 16]; exact or16 hp p1 hr r1)
   have hz8 : (16 * p + r) % 256 = 16 * p + r := Int.emod_eq_of_lt (by omega) (by omega)
   generalize 16 * p + r = z at *
   have HF8 : Hid (∀ j u, (bts [z])[j]? = some u → (vx.alloc (.cells #[.int .u8 z] 5)).cell? ((⟨vx.heap.size, 0, none⟩ : Addr).add j) = some u) := j2 vx z
   have OW2 := World.ownsRow.alloc OW (.cells #[.int .u8 z] 5)
   have B2 := B.alloc B.size (.cells #[.int .u8 z] 5)
   have hsz : w.heap.size ≤ (vx.alloc (.cells #[.int .u8 z] 5)).heap.size := B2.size
   clear HF HT hpp
   generalize fhL s k = LL at *
   go_wp2_with (at_builtin; refine wpList_append_own _ rfl _ _ 22 rfl w.heap.size 5 i0 (.int .u8 0) 1 1 Tryz.underlying22 hi0 hz0 hz1 hz2 rfl (by decide) _ _ _ rfl OW2 ⟨vx.heap.size, 0, none⟩ 1 1 (bts [z]) rfl rfl HF8.out (iN _) (by unfold maxLen; omega) (by omega) hsz ?_; intro v' wn hown' hgrow _)
   have G := ap OW2 hgrow hsz
   have B3 := B2.trans G
   rw [show (bts LL ++ bts [z]) = bts (LL ++ [z]) from (iM _ _).symm] at hown'
   clear hgrow G HF8 OW2 OW B B2 hsz
   go_wp2_with fail
   go_roundw
   case rel => exact ⟨k + 1, by omega, by (have := HJ.out; rw [show 2 * (k + 1) = j + 2 by omega]; go_num), HTT.out, by rw [HL.out, List.length_append]; exact hown', B3⟩
   case measure => have hH := HH.out; have hJ := HJ.out; simp [intOf]; omega
  ·have hkn : k = h := by omega
   subst hkn
   have hcv := ez OW
   have HBT : Hid (fhB s = true) := by (show fhB s = true; rw [HB.out]; exact hD)
   have hli : ¬ ((2 * k : Nat) : Int) < (s.size : Int) := by omega
   clear hD HB hH
   generalize 2 * k = j at *
   go_wp2_with fail
   go_ret2
   exact ⟨by rw [HYE.out HBT.out, HBT.out]; rfl, B⟩
end Go.Proofs.YtddjiamollfplaaGreatDoor
