/- HexOf and FromHex in the specification. -/
import Derived.Test.YtddjiamollfplaaGreatDoorMC0
import Derived.Test.YtddjiamollfplaaGreatDoorMC3
import Derived.Test.YtddjiamollfplaaGreatDoorMC4
namespace Go.Proofs.YtddjiamollfplaaGreatDoor
open Go.RowKit
set_option linter.unusedVariables false
theorem iM (L M : List Int) : bts (L ++ M) = bts L ++ bts M := by simp [bts]
theorem iN (M : List Int) : ∀ u ∈ bts M, u.oneCell' = true := by
 intro u hu
 simp only [bts, List.mem_map] at hu
 obtain ⟨z, _, rfl⟩ := hu
 rfl
def hxL (s : ByteArray) : Nat → List Int
 | 0 => []
 | k + 1 => hxL s k ++ [hxD (bt s k / 16), hxD (bt s k % 16)]
theorem cG (s : ByteArray) : ∀ k, (hxL s k).length = 2 * k
 | 0 => rfl
 | k + 1 => by rw [hxL, List.length_append, cG s k]; simp; omega
def aZ (s : ByteArray) : ByteArray := if 64 < s.size then ⟨#[]⟩ else if s.size = 0 then ⟨#[45]⟩ else strOfNums (hxL s s.size)
theorem gF (v : World) (a b : Int) : ∀ j u, (bts [a, b])[j]? = some u → (v.alloc (.cells #[.int .u8 a, .int .u8 b] 5)).cell? ((⟨v.heap.size, 0, none⟩ : Addr).add j) = some u := by
 intro j u h
 match j, h with
 | 0, h => simp [bts] at h; subst h; simp [Addr.add]
 | 1, h => simp [bts] at h; subst h; simp [Addr.add]
theorem j2 (v : World) (a : Int) : ∀ j u, (bts [a])[j]? = some u → (v.alloc (.cells #[.int .u8 a] 5)).cell? ((⟨v.heap.size, 0, none⟩ : Addr).add j) = some u := by
 intro j u h
 match j, h with
 | 0, h => simp [bts] at h; subst h; simp [Addr.add]
theorem ez {w : World} {base : Nat} {v : Value} {L : List Int} (h : w.ownsRow base 5 1 v L.length (bts L)) : (convert 22 9 v).run Tryz.prog w = .ok (.string (strOfNums L)) w := by
 rcases h.2 with ⟨rfl, h0⟩ | ⟨g, cap, cur, rfl, _⟩
 ·have e : L = [] := List.length_eq_zero_iff.1 h0
  subst e
  exact Go.Lib.run_convert_nil_bytes w 22 9 5 0 Tryz.underlying22 Tryz.underlying5 Tryz.underlying9
 ·refine run_convert_bytes_arg w 22 5 Tryz.underlying22 Tryz.underlying5 g 0 L.length cap L rfl (fun i hi => ?_) 9 Tryz.underlying9
  have q := World.ownsRow.cellAt h i (by omega)
  rw [show (⟨g, 0 + i, none⟩ : Addr) = ⟨g, i, none⟩ by rw [Nat.zero_add]] at *
  rw [q, bts, List.getElem?_map, List.getElem?_eq_getElem hi, List.getD_eq_getElem?_getD, List.getElem?_eq_getElem hi]
  rfl
theorem iL (s : ByteArray) : s.toList.length = s.size := by rw [ByteArray.toList_eq]; exact Array.length_toList
theorem jn {s : ByteArray} (h : s.size = 0) : s.toList.isEmpty = true := by rw [List.isEmpty_iff_length_eq_zero, iL]; exact h
theorem gC {s : ByteArray} (h : s.size ≠ 0) : s.toList.isEmpty = false := by
 rw [Bool.eq_false_iff]
 intro e
 rw [List.isEmpty_iff_length_eq_zero, iL] at e
 exact h e
set_option maxRecDepth 100000 in
set_option maxHeartbeats 8000000 in
theorem fk (s : ByteArray) (w : World) (hm : s.size ≤ maxLen) :
 Calls Tryz.prog 75 #[.string s] w fun e w' => e = .returned (.string (aZ s)) ∧ Below w.heap.size w w' := by
 unfold maxLen at hm
 obtain ⟨i0, hi0, hz0, hz1, hz2⟩ := info_parts infoByte
 by_cases h1 : 64 < s.size
 ·have e1 : decide (64 < (s.size : Int)) = true := by simp; omega
  have HE : Hid (aZ s = ⟨#[]⟩) := if_pos h1
  go_enter Tryz.func75, Tryz.ntmps75
  go_wp2_with fail
  go_ret
  exact ⟨by rw [HE.out]; rfl, Below.refl _ _⟩
 have e1 : decide (64 < (s.size : Int)) = false := by simp; omega
 by_cases h2 : s.size = 0
 ·have HE : Hid (aZ s = ⟨#[45]⟩) := by (show aZ s = _; rw [aZ, if_neg h1, if_pos h2])
  have e2 := jn h2
  clear h2
  go_enter Tryz.func75, Tryz.ntmps75
  go_wp2_with fail
  go_ret
  exact ⟨by rw [HE.out]; rfl, Below.refl _ _⟩
 have e2 := gC h2
 have HE : Hid (aZ s = strOfNums (hxL s s.size)) := by (show aZ s = _; rw [aZ, if_neg h1, if_neg h2])
 have B0 := Below.nw w (.cells #[] 5)
 have O0 : (w.alloc (.cells #[] 5)).ownsRow w.heap.size 5 1 (.slice (some ⟨w.heap.size, 0, none⟩) 0 0) ([] : List Int).length (bts []) := World.ownsRow_made w #[] 0 (Nat.le_refl _) (by simp [maxLen]) (by simp)
 go_enter Tryz.func75, Tryz.ntmps75
 go_upto_region 6 with fail
 generalize hw0 : w.alloc (.cells #[] 5) = w0 at *
 clear hw0 e1 e2
 go_wp2_with fail
 go_loopw [3, 4] (fun v i wr => ∃ k : Nat, k ≤ s.size ∧ i = .int .i64 (k : Int) ∧ wr.ownsRow w.heap.size 5 1 v (hxL s k).length (bts (hxL s k)) ∧ Below w.heap.size w wr) (fun _ i _ => s.size - (intOf i).toNat)
 case atStart => exact ⟨0, Nat.zero_le _, rfl, O0, B0⟩
 case round =>
  obtain ⟨k, hk, rfl, OW, B⟩ := hrel
  by_cases hlt : k < s.size
  ·have hx := cJ s k hlt
   have hli : (k : Int) < (s.size : Int) := by omega
   have hln := cG s k
   obtain ⟨hb0, hb1⟩ := cP s k
   have HL : Hid (hxL s (k + 1) = hxL s k ++ [hxD (bt s k / 16), hxD (bt s k % 16)]) := rfl
   have hqd : Int.tdiv (bt s k) 16 = bt s k / 16 := Int.tdiv_eq_ediv_of_nonneg hb0
   have hqm : Int.tmod (bt s k) 16 = bt s k % 16 := Int.tmod_eq_emod_of_nonneg hb0
   have hp0 : 0 ≤ bt s k / 16 := by omega
   have hp1 : bt s k / 16 ≤ 15 := by omega
   have hr0 : 0 ≤ bt s k % 16 := by omega
   have hr1 : bt s k % 16 ≤ 15 := by omega
   have hw1 : IntKind.i64.wrap (bt s k) = bt s k := Go.IntWalk.i64_in _ ⟨by omega, by omega⟩
   generalize bt s k / 16 = p at *
   have hwp : IntKind.i64.wrap p = p := Go.IntWalk.i64_in _ ⟨by omega, by omega⟩
   generalize bt s k % 16 = r at *
   generalize bt s k = b at *
   generalize hxL s k = LL at *
   go_upto_region 9 with fail
   refine wp_region_held_drew (S := (fun _ => True)) (by kernel_rfl) ?_ (fun hHeld => ?_)
   ·exact trivial
   replace B := Below.drew B
   replace OW := World.ownsRow.drew OW
   generalize wr.drew = vx at *
   refine zT4 0 ?_
   refine zT2 4 ?_
   refine zT4 7 ?_
   refine zTk 11 ?_
   refine zQ 6 fun K hK => ?_
   go_simp
   refine (dc p _ (by omega) (by omega)).mono ?_; rintro ee w9 ⟨rfl, rfl⟩
   (try go_wp2_with fail)
   refine hK.out _ _ ?_ (fun hHeld => ?_)
   ·exact trivial
   clear hK K
   (try simp only [zA])
   refine zQ 12 fun K hK => ?_
   go_simp
   refine (dc r _ (by omega) (by omega)).mono ?_; rintro ee w9 ⟨rfl, rfl⟩
   (try go_wp2_with fail)
   refine hK.out _ _ ?_ (fun hHeld => ?_)
   ·exact trivial
   clear hK K
   (try simp only [zA])
   refine zQ 13 fun K hK => ?_
   go_simp
   (have HF : Hid (∀ j u, (bts [hxD p, hxD r])[j]? = some u → (vx.alloc (.cells #[.int .u8 (hxD p), .int .u8 (hxD r)] 5)).cell? ((⟨vx.heap.size, 0, none⟩ : Addr).add j) = some u) := gF vx (hxD p) (hxD r)); (replace OW := World.ownsRow.alloc OW (.cells #[.int .u8 (hxD p), .int .u8 (hxD r)] 5)); (replace B := B.alloc B.size (.cells #[.int .u8 (hxD p), .int .u8 (hxD r)] 5)); (generalize vx.alloc (.cells #[.int .u8 (hxD p), .int .u8 (hxD r)] 5) = v2 at *); (generalize vx.heap.size = jz at *); (have hsz : w.heap.size ≤ v2.heap.size := B.size)
   refine hK.out _ _ ?_ (fun hHeld => ?_)
   ·exact trivial
   clear hK K
   (try simp only [zA])
   refine zQ 14 fun K hK => ?_
   rw [if_pos (by rfl)]; refine wp_append_own _ _ _ 22 rfl w.heap.size 5 i0 (.int .u8 0) 1 1 Tryz.underlying22 hi0 hz0 hz1 hz2 rfl (by decide) _ _ _ rfl OW ⟨jz, 0, none⟩ _ _ (bts [hxD p, hxD r]) rfl rfl HF.out (iN _) (by unfold maxLen; omega) (by omega) hsz ?_; intro v' wn hown' hgrow _; (have G := ap OW hgrow hsz); (replace B := B.trans G); (rw [show (bts LL ++ bts [hxD p, hxD r]) = bts (LL ++ [hxD p, hxD r]) from (iM _ _).symm] at hown'); (clear hgrow G HF)
   refine hK.out _ _ ?_ (fun hHeld => ?_)
   ·exact trivial
   clear hK K
   (try simp only [zA])
   refine zTk 15 ?_
   refine wpAnyH_done (by kernel_rfl) ?_ _
   go_wp2_with fail
   go_roundw
   case rel => exact ⟨k + 1, by omega, by go_num, by rw [HL.out, List.length_append]; exact hown', B⟩
   case measure => simp [intOf]; omega
  ·have hkn : k = s.size := by omega
   subst hkn
   have hcv := ez OW
   have hli : ¬ (s.size : Int) < (s.size : Int) := by omega
   go_wp2_with fail
   go_ret
   exact ⟨by rw [HE.out]; rfl, B⟩
def fhL (s : ByteArray) : Nat → List Int
 | 0 => []
 | k + 1 => fhL s k ++ [16 * vlI (bt s (2 * k)) + vlI (bt s (2 * k + 1))]
def fhD (s : ByteArray) : Nat → Bool
 | 0 => true
 | k + 1 => fhD s k && (decide (0 ≤ vlI (bt s (2 * k))) && decide (0 ≤ vlI (bt s (2 * k + 1))))
theorem fR (s : ByteArray) : ∀ k, (fhL s k).length = k
 | 0 => rfl
 | k + 1 => by rw [fhL, List.length_append, fR s k]; rfl
theorem mD {s : ByteArray} : ∀ {n k : Nat}, k < n → (decide (0 ≤ vlI (bt s (2 * k))) && decide (0 ≤ vlI (bt s (2 * k + 1)))) = false → fhD s n = false
 | 0, _, h, _ => absurd h (Nat.not_lt_zero _)
 | n + 1, k, h, h1 => by
  by_cases e : k = n
  ·subst e; rw [fhD, h1]; simp
  ·rw [fhD, mD (Nat.lt_of_le_of_ne (Nat.le_of_lt_succ h) e) h1]; rfl
def dq (s : ByteArray) : Bool := s.toList == [45]
def fhB (s : ByteArray) : Bool := dq s || (decide (s.size ≠ 0 ∧ s.size % 2 = 0 ∧ s.size ≤ 128) && fhD s (s.size / 2))
def fhO (s : ByteArray) : ByteArray := match dq s with | true => ⟨#[]⟩ | false => (match fhB s with | true => strOfNums (fhL s (s.size / 2)) | false => ⟨#[]⟩)
theorem fh_no {s : ByteArray} (hd : dq s = false) (h : fhB s = false) : fhO s = ⟨#[]⟩ := by rw [fhO, hd, h]
theorem kJ {s : ByteArray} (hd : dq s = false) (h : fhB s = true) : fhO s = strOfNums (fhL s (s.size / 2)) := by rw [fhO, hd, h]
end Go.Proofs.YtddjiamollfplaaGreatDoor
