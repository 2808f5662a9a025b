/- HexOf and FromHex in the specification. -/
import Derived.Laws.OwnMore
import Derived.Lib.BufferRead
import Derived.Test.YtddjiamollfplaaGreatDoorML0
import Derived.Test.YtddjiamollfplaaGreatDoorML3
import Derived.Test.YtddjiamollfplaaGreatDoorML5
namespace Go.Proofs.YtddjiamollfplaaGreatDoor
open Go.RowKit
set_option linter.unusedVariables false
theorem bts_ap (L M : List Int) : bts (L ++ M) = bts L ++ bts M := by simp [bts]
theorem bts_on (M : List Int) : ∀ u ∈ bts M, u.oneCell' = true := by
 intro u hu
 simp only [bts, List.mem_map] at hu
 obtain ⟨z, _, rfl⟩ := hu
 rfl
def hxL (s : ByteArray) : Nat → List Int
 | 0 => []
 | k + 1 => hxL s k ++ [hxD (bt s k / 16), hxD (bt s k % 16)]
theorem hxL_len (s : ByteArray) : ∀ k, (hxL s k).length = 2 * k
 | 0 => rfl
 | k + 1 => by rw [hxL, List.length_append, hxL_len s k]; simp; omega
def hexO (s : ByteArray) : ByteArray := if 64 < s.size then ⟨#[]⟩ else if s.size = 0 then ⟨#[45]⟩ else strOfNums (hxL s s.size)
theorem byte_two (v : World) (a b : Int) : ∀ j u, (bts [a, b])[j]? = some u → (v.alloc (.cells #[.int .u8 a, .int .u8 b] 5)).cell? ((⟨v.heap.size, 0, none⟩ : Addr).add j) = some u := by
 intro j u h
 match j, h with
 | 0, h => simp [bts] at h; subst h; simp [Addr.add]
 | 1, h => simp [bts] at h; subst h; simp [Addr.add]
theorem byte_one1 (v : World) (a : Int) : ∀ j u, (bts [a])[j]? = some u → (v.alloc (.cells #[.int .u8 a] 5)).cell? ((⟨v.heap.size, 0, none⟩ : Addr).add j) = some u := by
 intro j u h
 match j, h with
 | 0, h => simp [bts] at h; subst h; simp [Addr.add]
theorem own_conv {w : World} {base : Nat} {v : Value} {L : List Int} (h : w.ownsRow base 5 1 v L.length (bts L)) : (convert 22 9 v).run Tryz.prog w = .ok (.string (strOfNums L)) w := by
 rcases h.2 with ⟨rfl, h0⟩ | ⟨g, cap, cur, rfl, _⟩
 ·have e : L = [] := List.length_eq_zero_iff.1 h0
  subst e
  exact Go.Lib.run_convert_nil_bytes w 22 9 5 0 Tryz.underlying22 Tryz.underlying5 Tryz.underlying9
 ·refine run_convert_bytes_arg w 22 5 Tryz.underlying22 Tryz.underlying5 g 0 L.length cap L rfl (fun i hi => ?_) 9 Tryz.underlying9
  have q := World.ownsRow.cellAt h i (by omega)
  rw [show (⟨g, 0 + i, none⟩ : Addr) = ⟨g, i, none⟩ by rw [Nat.zero_add]] at *
  rw [q, bts, List.getElem?_map, List.getElem?_eq_getElem hi, List.getD_eq_getElem?_getD, List.getElem?_eq_getElem hi]
  rfl
theorem ba_len (s : ByteArray) : s.toList.length = s.size := by rw [ByteArray.toList_eq]; exact Array.length_toList
theorem ba_eq {s : ByteArray} (h : s.size = 0) : s.toList.isEmpty = true := by rw [List.isEmpty_iff_length_eq_zero, ba_len]; exact h
theorem ba_ne {s : ByteArray} (h : s.size ≠ 0) : s.toList.isEmpty = false := by
 rw [Bool.eq_false_iff]
 intro e
 rw [List.isEmpty_iff_length_eq_zero, ba_len] at e
 exact h e
set_option maxRecDepth 100000 in
set_option maxHeartbeats 8000000 in
theorem specHexOf_any (s : ByteArray) (w : World) (hm : s.size ≤ maxLen) :
 Calls Tryz.prog 75 #[.string s] w fun e w' => e = .returned (.string (hexO s)) ∧ Below w.heap.size w w' := by
 unfold maxLen at hm
 obtain ⟨i0, hi0, hz0, hz1, hz2⟩ := info_parts infoByte
 by_cases h1 : 64 < s.size
 ·have e1 : decide (64 < (s.size : Int)) = true := by simp; omega
  have HE : Hid (hexO s = ⟨#[]⟩) := if_pos h1
  go_enter Tryz.func75, Tryz.ntmps75
  go_wp2_with fail
  go_ret
  exact ⟨by rw [HE.out]; rfl, Below.refl _ _⟩
 have e1 : decide (64 < (s.size : Int)) = false := by simp; omega
 by_cases h2 : s.size = 0
 ·have HE : Hid (hexO s = ⟨#[45]⟩) := by (show hexO s = _; rw [hexO, if_neg h1, if_pos h2])
  have e2 := ba_eq h2
  clear h2
  go_enter Tryz.func75, Tryz.ntmps75
  go_wp2_with fail
  go_ret
  exact ⟨by rw [HE.out]; rfl, Below.refl _ _⟩
 have e2 := ba_ne h2
 have HE : Hid (hexO s = strOfNums (hxL s s.size)) := by (show hexO s = _; rw [hexO, if_neg h1, if_neg h2])
 have B0 := Below.nw w (.cells #[] 5)
 have O0 : (w.alloc (.cells #[] 5)).ownsRow w.heap.size 5 1 (.slice (some ⟨w.heap.size, 0, none⟩) 0 0) ([] : List Int).length (bts []) := World.ownsRow_made w #[] 0 (Nat.le_refl _) (by simp [maxLen]) (by simp)
 go_enter Tryz.func75, Tryz.ntmps75
 go_upto_region 6 with fail
 generalize hw0 : w.alloc (.cells #[] 5) = w0 at *
 clear hw0 e1 e2
 go_wp2_with fail
 go_loopw [3, 4] (fun v i wr => ∃ k : Nat, k ≤ s.size ∧ i = .int .i64 (k : Int) ∧ wr.ownsRow w.heap.size 5 1 v (hxL s k).length (bts (hxL s k)) ∧ Below w.heap.size w wr) (fun _ i _ => s.size - (intOf i).toNat)
 case atStart => exact ⟨0, Nat.zero_le _, rfl, O0, B0⟩
 case round =>
  obtain ⟨k, hk, rfl, OW, B⟩ := hrel
  by_cases hlt : k < s.size
  ·have hx := run_idx s k hlt
   have hli : (k : Int) < (s.size : Int) := by omega
   have hln := hxL_len s k
   obtain ⟨hb0, hb1⟩ := bt_rng s k
   have HL : Hid (hxL s (k + 1) = hxL s k ++ [hxD (bt s k / 16), hxD (bt s k % 16)]) := rfl
   have hqd : Int.tdiv (bt s k) 16 = bt s k / 16 := Int.tdiv_eq_ediv_of_nonneg hb0
   have hqm : Int.tmod (bt s k) 16 = bt s k % 16 := Int.tmod_eq_emod_of_nonneg hb0
   have hp0 : 0 ≤ bt s k / 16 := by omega
   have hp1 : bt s k / 16 ≤ 15 := by omega
   have hr0 : 0 ≤ bt s k % 16 := by omega
   have hr1 : bt s k % 16 ≤ 15 := by omega
   have hw1 : IntKind.i64.wrap (bt s k) = bt s k := Go.IntWalk.i64_in _ ⟨by omega, by omega⟩
   generalize bt s k / 16 = p at *
   have hwp : IntKind.i64.wrap p = p := Go.IntWalk.i64_in _ ⟨by omega, by omega⟩
   generalize bt s k % 16 = r at *
   generalize bt s k = b at *
   generalize hxL s k = LL at *
   go_upto_region 9 with fail
   refine wp_region_held_drew (S := (fun _ => True)) (by kernel_rfl) ?_ (fun hHeld => ?_)
   ·exact trivial
   replace B := Below.drew B
   replace OW := World.ownsRow.drew OW
   generalize wr.drew = vx at *
   refine zTk 0 ?_
   refine zTk 1 ?_
   refine zTk 2 ?_
   refine zTk 3 ?_
   refine zTk 4 ?_
   refine zTk 5 ?_
   refine zTk 7 ?_
   refine zTk 8 ?_
   refine zTk 9 ?_
   refine zTk 10 ?_
   refine zTk 11 ?_
   refine wpAnyH_ready (rs := [6]) (by kernel_rfl) (by simp) ?_
   refine (AllReadyH.cons (by rw [List.getElem?_toArray]; rfl) (fun K hK => ?_) AllReadyH.nil)
   go_simp
   refine (specDigit_any p _ (by omega) (by omega)).mono ?_; rintro ee w9 ⟨rfl, rfl⟩
   (try go_wp2_with fail)
   refine hK.out _ _ ?_ (fun hHeld => ?_)
   ·exact trivial
   clear hK K
   (try simp only [Act.put, zSb, zS0, zS1])
   refine wpAnyH_ready (rs := [12]) (by kernel_rfl) (by simp) ?_
   refine (AllReadyH.cons (by rw [List.getElem?_toArray]; rfl) (fun K hK => ?_) AllReadyH.nil)
   go_simp
   refine (specDigit_any r _ (by omega) (by omega)).mono ?_; rintro ee w9 ⟨rfl, rfl⟩
   (try go_wp2_with fail)
   refine hK.out _ _ ?_ (fun hHeld => ?_)
   ·exact trivial
   clear hK K
   (try simp only [Act.put, zSb, zS0, zS1])
   refine wpAnyH_ready (rs := [13]) (by kernel_rfl) (by simp) ?_
   refine (AllReadyH.cons (by rw [List.getElem?_toArray]; rfl) (fun K hK => ?_) AllReadyH.nil)
   go_simp
   (have HF : Hid (∀ j u, (bts [hxD p, hxD r])[j]? = some u → (vx.alloc (.cells #[.int .u8 (hxD p), .int .u8 (hxD r)] 5)).cell? ((⟨vx.heap.size, 0, none⟩ : Addr).add j) = some u) := byte_two vx (hxD p) (hxD r)); (replace OW := World.ownsRow.alloc OW (.cells #[.int .u8 (hxD p), .int .u8 (hxD r)] 5)); (replace B := B.alloc B.size (.cells #[.int .u8 (hxD p), .int .u8 (hxD r)] 5)); (generalize vx.alloc (.cells #[.int .u8 (hxD p), .int .u8 (hxD r)] 5) = v2 at *); (generalize vx.heap.size = jz at *); (have hsz : w.heap.size ≤ v2.heap.size := B.size)
   refine hK.out _ _ ?_ (fun hHeld => ?_)
   ·exact trivial
   clear hK K
   (try simp only [Act.put, zSb, zS0, zS1])
   refine wpAnyH_ready (rs := [14]) (by kernel_rfl) (by simp) ?_
   refine (AllReadyH.cons (by rw [List.getElem?_toArray]; rfl) (fun K hK => ?_) AllReadyH.nil)
   rw [if_pos (by rfl)]; refine wp_append_own _ _ _ 22 rfl w.heap.size 5 i0 (.int .u8 0) 1 1 Tryz.underlying22 hi0 hz0 hz1 hz2 rfl (by decide) _ _ _ rfl OW ⟨jz, 0, none⟩ _ _ (bts [hxD p, hxD r]) rfl rfl HF.out (bts_on _) (by unfold maxLen; omega) (by omega) hsz ?_; intro v' wn hown' hgrow _; (have G := grownB_below OW hgrow hsz); (replace B := B.trans G); (rw [show (bts LL ++ bts [hxD p, hxD r]) = bts (LL ++ [hxD p, hxD r]) from (bts_ap _ _).symm] at hown'); (clear hgrow G HF)
   refine hK.out _ _ ?_ (fun hHeld => ?_)
   ·exact trivial
   clear hK K
   (try simp only [Act.put, zSb, zS0, zS1])
   refine zTk 15 ?_
   refine wpAnyH_done (by kernel_rfl) ?_ _
   go_wp2_with fail
   go_roundw
   case rel => exact ⟨k + 1, by omega, by go_num, by rw [HL.out, List.length_append]; exact hown', B⟩
   case measure => simp [intOf]; omega
  ·have hkn : k = s.size := by omega
   subst hkn
   have hcv := own_conv OW
   have hli : ¬ (s.size : Int) < (s.size : Int) := by omega
   go_wp2_with fail
   go_ret
   exact ⟨by rw [HE.out]; rfl, B⟩
def fhL (s : ByteArray) : Nat → List Int
 | 0 => []
 | k + 1 => fhL s k ++ [16 * vlI (bt s (2 * k)) + vlI (bt s (2 * k + 1))]
def fhD (s : ByteArray) : Nat → Bool
 | 0 => true
 | k + 1 => fhD s k && (decide (0 ≤ vlI (bt s (2 * k))) && decide (0 ≤ vlI (bt s (2 * k + 1))))
theorem fhL_len (s : ByteArray) : ∀ k, (fhL s k).length = k
 | 0 => rfl
 | k + 1 => by rw [fhL, List.length_append, fhL_len s k]; rfl
theorem fhD_f {s : ByteArray} : ∀ {n k : Nat}, k < n → (decide (0 ≤ vlI (bt s (2 * k))) && decide (0 ≤ vlI (bt s (2 * k + 1)))) = false → fhD s n = false
 | 0, _, h, _ => absurd h (Nat.not_lt_zero _)
 | n + 1, k, h, h1 => by
  by_cases e : k = n
  ·subst e; rw [fhD, h1]; simp
  ·rw [fhD, fhD_f (Nat.lt_of_le_of_ne (Nat.le_of_lt_succ h) e) h1]; rfl
def dashB (s : ByteArray) : Bool := s.toList == [45]
def fhB (s : ByteArray) : Bool := dashB s || (decide (s.size ≠ 0 ∧ s.size % 2 = 0 ∧ s.size ≤ 128) && fhD s (s.size / 2))
def fhO (s : ByteArray) : ByteArray := match dashB s with | true => ⟨#[]⟩ | false => (match fhB s with | true => strOfNums (fhL s (s.size / 2)) | false => ⟨#[]⟩)
theorem fh_no {s : ByteArray} (hd : dashB s = false) (h : fhB s = false) : fhO s = ⟨#[]⟩ := by rw [fhO, hd, h]
theorem fh_yes {s : ByteArray} (hd : dashB s = false) (h : fhB s = true) : fhO s = strOfNums (fhL s (s.size / 2)) := by rw [fhO, hd, h]
set_option maxRecDepth 100000 in
set_option maxHeartbeats 8000000 in
theorem specFromHex_any (s : ByteArray) (w : World) (hm : s.size ≤ maxLen) :
 Calls Tryz.prog 38 #[.string s] w fun e w' => e = .returned (.tuple #[.string (fhO s), .bool (fhB s)]) ∧ Below w.heap.size w w' := by
 unfold maxLen at hm
 obtain ⟨i0, hi0, hz0, hz1, hz2⟩ := info_parts infoByte
 cases hd : dashB s
 rotate_left
 ·have HO : Hid (fhO s = ⟨#[]⟩ ∧ fhB s = true) := ⟨by rw [fhO, hd], by rw [fhB, hd]; rfl⟩
  have hd' : (s.toList == [45]) = true := hd
  clear hd
  go_enter Tryz.func38, Tryz.ntmps38
  go_wp2_with fail
  go_ret2
  exact ⟨by rw [HO.out.1, HO.out.2]; rfl, Below.refl _ _⟩
 have hd' : (s.toList == [45]) = false := hd
 have HNO : Hid (fhB s = false → fhO s = ⟨#[]⟩) := fun h => fh_no hd h
 have HYE : Hid (fhB s = true → fhO s = strOfNums (fhL s (s.size / 2))) := fun h => fh_yes hd h
 by_cases h1 : s.size ≠ 0 ∧ s.size % 2 = 0 ∧ s.size ≤ 128
 rotate_left
 ·have HB : Hid (fhB s = false) := by (show fhB s = false; rw [fhB, hd, decide_eq_false h1]; rfl)
  clear hd
  by_cases c1 : s.size = 0
  ·have e1 : ((s.size : Int) == 0) = true := by (rw [beq_iff_eq]; omega)
   clear h1
   go_enter Tryz.func38, Tryz.ntmps38
   go_wp2_with fail
   go_ret2
   exact ⟨by rw [HNO.out HB.out, HB.out]; rfl, Below.refl _ _⟩
  have e1 : ((s.size : Int) == 0) = false := by (rw [beq_eq_false_iff_ne]; omega)
  have hqm : Int.tmod (s.size : Int) 2 = ((s.size % 2 : Nat) : Int) := rfl
  by_cases c2 : s.size % 2 = 1
  ·rw [c2] at hqm
   clear h1
   go_enter Tryz.func38, Tryz.ntmps38
   go_wp2_with fail
   go_ret2
   exact ⟨by rw [HNO.out HB.out, HB.out]; rfl, Below.refl _ _⟩
  rw [show s.size % 2 = 0 by omega] at hqm
  have e3 : decide (128 < (s.size : Int)) = true := by simp; omega
  clear h1
  go_enter Tryz.func38, Tryz.ntmps38
  go_wp2_with fail
  go_ret2
  exact ⟨by rw [HNO.out HB.out, HB.out]; rfl, Below.refl _ _⟩
 obtain ⟨h1a, h1b, h1c⟩ := h1
 have HB : Hid (fhB s = fhD s (s.size / 2)) := by (show fhB s = _; rw [fhB, hd, decide_eq_true ⟨h1a, h1b, h1c⟩]; rfl)
 clear hd
 have e1 : ((s.size : Int) == 0) = false := by (rw [beq_eq_false_iff_ne]; omega)
 have hqm : Int.tmod (s.size : Int) 2 = 0 := by (have : Int.tmod (s.size : Int) 2 = ((s.size % 2 : Nat) : Int) := rfl); rw [this, h1b]; rfl
 have e3 : decide (128 < (s.size : Int)) = false := by simp; omega
 obtain ⟨h, hh⟩ : ∃ h, s.size = 2 * h := ⟨s.size / 2, by omega⟩
 have hh2 : s.size / 2 = h := by omega
 rw [hh2] at HB HYE
 have B0 := Below.nw w (.cells #[] 5)
 have O0 : (w.alloc (.cells #[] 5)).ownsRow w.heap.size 5 1 (.slice (some ⟨w.heap.size, 0, none⟩) 0 0) ([] : List Int).length (bts []) := World.ownsRow_made w #[] 0 (Nat.le_refl _) (by simp [maxLen]) (by simp)
 have HH : Hid (s.size = 2 * h) := hh
 clear hh hh2 h1a h1b
 go_enter Tryz.func38, Tryz.ntmps38
 go_upto_region 6 with fail
 generalize hw0 : w.alloc (.cells #[] 5) = w0 at *
 clear hw0 e1 e3 hqm hd'
 go_wp2_with fail
 go_loopw [4, 5] (fun v i wr => ∃ k : Nat, k ≤ h ∧ i = .int .i64 ((2 * k : Nat) : Int) ∧ fhD s k = true ∧ wr.ownsRow w.heap.size 5 1 v (fhL s k).length (bts (fhL s k)) ∧ Below w.heap.size w wr) (fun _ i _ => s.size - (intOf i).toNat)
 case atStart => exact ⟨0, Nat.zero_le _, rfl, rfl, O0, B0⟩
 case round =>
  obtain ⟨k, hk, rfl, hD, OW, B⟩ := hrel
  have hH := HH.out
  by_cases hlt : k < h
  ·have hx := run_idx s (2 * k) (by omega)
   have hx2 := run_idx s (2 * k + 1) (by omega)
   have hli : ((2 * k : Nat) : Int) < (s.size : Int) := by omega
   have hln := fhL_len s k
   have HL : Hid (fhL s (k + 1) = fhL s k ++ [16 * vlI (bt s (2 * k)) + vlI (bt s (2 * k + 1))]) := rfl
   have HT : Hid (0 ≤ vlI (bt s (2 * k)) → 0 ≤ vlI (bt s (2 * k + 1)) → fhD s (k + 1) = true) := fun p q => by rw [fhD, hD, decide_eq_true p, decide_eq_true q]; rfl
   have HF : Hid ((decide (0 ≤ vlI (bt s (2 * k))) && decide (0 ≤ vlI (bt s (2 * k + 1)))) = false → fhB s = false) := fun p => by rw [HB.out]; exact fhD_f hlt p
   obtain ⟨p0, p1⟩ := vl_rng (bt s (2 * k))
   obtain ⟨r0, r1⟩ := vl_rng (bt s (2 * k + 1))
   have hk64 : k ≤ 64 := by omega
   clear hD hH
   have hj2 : ((2 * k + 1 : Nat) : Int) = ((2 * k : Nat) : Int) + 1 := by omega
   rw [hj2] at hx2
   clear hj2
   generalize bt s (2 * k) = b at *
   generalize bt s (2 * k + 1) = c at *
   have hsj : s.size ≤ 128 := h1c
   generalize hj : 2 * k = j at *
   have HJ : Hid (2 * k = j) := hj
   have hwj : IntKind.i64.wrap ((j : Int) + 1) = (j : Int) + 1 := Go.IntWalk.i64_in _ ⟨by omega, by omega⟩
   clear hj
   go_upto_region 9 with fail
   refine wp_region_held_drew (S := (fun _ => True)) (by kernel_rfl) ?_ (fun hHeld => ?_)
   ·exact trivial
   replace B := Below.drew B
   replace OW := World.ownsRow.drew OW
   generalize wr.drew = vx at *
   refine zTk 0 ?_
   refine zTk 1 ?_
   refine zTk 2 ?_
   refine zTk 4 ?_
   refine zTk 5 ?_
   refine zTk 6 ?_
   refine zTk 7 ?_
   refine wpAnyH_ready (rs := [3]) (by kernel_rfl) (by simp) ?_
   refine AllReadyH.cons (by rw [List.getElem?_toArray]; rfl) (fun K hK => ?_) AllReadyH.nil
   go_simp
   refine (specValue_any b _).mono ?_; rintro ee w9 ⟨rfl, rfl⟩
   (try go_wp2_with fail)
   refine hK.out _ _ ?_ (fun hHeld => ?_)
   ·exact trivial
   clear hK K
   (try simp only [Act.put, zSb, zS0, zS1])
   refine wpAnyH_ready (rs := [8]) (by kernel_rfl) (by simp) ?_
   refine AllReadyH.cons (by rw [List.getElem?_toArray]; rfl) (fun K hK => ?_) AllReadyH.nil
   go_simp
   refine (specValue_any c _).mono ?_; rintro ee w9 ⟨rfl, rfl⟩
   (try go_wp2_with fail)
   refine hK.out _ _ ?_ (fun hHeld => ?_)
   ·exact trivial
   clear hK K
   (try simp only [Act.put, zSb, zS0, zS1])
   refine zTk 9 ?_
   refine zTk 10 ?_
   refine wpAnyH_done (by kernel_rfl) ?_ _
   have hpp : vlI b = vlI b := rfl
   generalize vlI b = p at *
   generalize vlI c = r at *
   by_cases hp : 0 ≤ p
   rotate_left
   ·have HBF : Hid (fhB s = false) := HF.out (by rw [decide_eq_false hp]; rfl)
    have d1 : decide (p < 0) = true := by simp; omega
    clear HF HT HB
    go_wp2_with fail
    go_ret2
    exact ⟨by rw [HNO.out HBF.out, HBF.out]; rfl, B⟩
   have d1 : decide (p < 0) = false := by simp; omega
   by_cases hr : 0 ≤ r
   rotate_left
   ·have HBF : Hid (fhB s = false) := HF.out (by rw [decide_eq_false hr]; simp)
    have d2 : decide (r < 0) = true := by simp; omega
    clear HF HT HB
    go_wp2_with fail
    go_ret2
    exact ⟨by rw [HNO.out HBF.out, HBF.out]; rfl, B⟩
   have d2 : decide (r < 0) = false := by simp; omega
   have HTT : Hid (fhD s (k + 1) = true) := HT.out hp hr
   have hw8 : IntKind.u8.wrap (16 * p + r) = 16 * p + r := Go.IntWalk.u8_in _ ⟨by omega, by omega⟩
   have HF8 : Hid (∀ j u, (bts [16 * p + r])[j]? = some u → (vx.alloc (.cells #[.int .u8 (16 * p + r)] 5)).cell? ((⟨vx.heap.size, 0, none⟩ : Addr).add j) = some u) := byte_one1 vx (16 * p + r)
   have OW2 := World.ownsRow.alloc OW (.cells #[.int .u8 (16 * p + r)] 5)
   have B2 := B.alloc B.size (.cells #[.int .u8 (16 * p + r)] 5)
   have hsz : w.heap.size ≤ (vx.alloc (.cells #[.int .u8 (16 * p + r)] 5)).heap.size := B2.size
   clear HF HT hpp
   generalize fhL s k = LL at *
   go_wp2_with (at_builtin; refine wpList_append_own _ rfl _ _ 22 rfl w.heap.size 5 i0 (.int .u8 0) 1 1 Tryz.underlying22 hi0 hz0 hz1 hz2 rfl (by decide) _ _ _ rfl OW2 ⟨vx.heap.size, 0, none⟩ 1 1 (bts [16 * p + r]) rfl rfl HF8.out (bts_on _) (by unfold maxLen; omega) (by omega) hsz ?_; intro v' wn hown' hgrow _)
   have G := grownB_below OW2 hgrow hsz
   have B3 := B2.trans G
   rw [show (bts LL ++ bts [16 * p + r]) = bts (LL ++ [16 * p + r]) from (bts_ap _ _).symm] at hown'
   clear hgrow G HF8 OW2 OW B B2 hsz
   go_wp2_with fail
   go_roundw
   case rel => exact ⟨k + 1, by omega, by (have := HJ.out; rw [show 2 * (k + 1) = j + 2 by omega]; go_num), HTT.out, by rw [HL.out, List.length_append]; exact hown', B3⟩
   case measure => have hH := HH.out; have hJ := HJ.out; simp [intOf]; omega
  ·have hkn : k = h := by omega
   subst hkn
   have hcv := own_conv OW
   have HBT : Hid (fhB s = true) := by (show fhB s = true; rw [HB.out]; exact hD)
   have hli : ¬ ((2 * k : Nat) : Int) < (s.size : Int) := by omega
   clear hD HB hH
   generalize 2 * k = j at *
   go_wp2_with fail
   go_ret2
   exact ⟨by rw [HYE.out HBT.out, HBT.out]; rfl, B⟩
end Go.Proofs.YtddjiamollfplaaGreatDoor
