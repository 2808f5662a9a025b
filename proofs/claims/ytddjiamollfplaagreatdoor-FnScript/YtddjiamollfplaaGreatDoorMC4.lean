/- The text of a number: TextOf in the specification. NumOf in the specification. A digit of sixteen, and its number (the specification). Numbers of texts: the digits of a number. -/
import Derived.Deep.OwnRows
import Derived.Deep.RegionHeld
import Derived.Laws.BytesArg
import Derived.Deep.RegionHeld3
import Derived.Deep.DeepCutAuto
import Derived.Laws.Strings
import Derived.Laws.OwnMore
import Derived.Lib.BufferRead
import Derived.Test.YtddjiamollfplaaGreatDoorMC1
namespace Go.Proofs.YtddjiamollfplaaGreatDoor
open Go.RowKit
set_option linter.unusedVariables false
def tdS : Nat → Nat → ByteArray → ByteArray
 | 0, _, s => s
 | f + 1, K, s => if K = 0 then s else tdS f (K / 10) (strOfNums [48 + (K : Int) % 10] ++ s)
theorem jh {f K : Nat} {s : ByteArray} (h : K ≠ 0) : tdS (f + 1) K s = tdS f (K / 10) (strOfNums [48 + (K : Int) % 10] ++ s) := by rw [tdS, if_neg h]
theorem gv {s : ByteArray} : ∀ f, tdS f 0 s = s
 | 0 => rfl
 | f + 1 => by rw [tdS, if_pos rfl]
def dgs (K : Nat) : ByteArray := tdS 20 K ⟨#[]⟩
def txI (n : Int) : ByteArray := if n = 0 then ⟨#[48]⟩ else if n < 0 then ⟨#[45]⟩ ++ dgs n.natAbs else dgs n.natAbs
theorem lO {K : Nat} (h : K ≠ 0) : txI (K : Int) = dgs K := by
 rw [txI, if_neg (by omega), if_neg (by omega)]; rfl
theorem lN {K : Nat} (h : K ≠ 0) : txI (-(K : Int)) = ⟨#[45]⟩ ++ dgs K := by
 rw [txI, if_neg (by omega), if_pos (by omega), Int.natAbs_neg]; rfl
theorem cT {f K : Nat} (h : K < 10 ^ (f + 1)) : K / 10 < 10 ^ f := by rw [Nat.pow_succ] at h; omega
theorem jV {f K : Nat} (h : K < 10 ^ f) (hz : K ≠ 0) : ∃ g, f = g + 1 := by
 cases f with
 | zero => exact absurd h (by simp; omega)
 | succ g => exact ⟨g, rfl⟩
theorem lL (K : Nat) : Int.tmod (-(K : Int)) 10 = -((K % 10 : Nat) : Int) := by rw [Int.neg_tmod]; rfl
theorem lJ (K : Nat) : Int.tdiv (-(K : Int)) 10 = -((K / 10 : Nat) : Int) := by rw [Int.neg_tdiv]; rfl
theorem lM (K : Nat) : Int.tmod (K : Int) 10 = ((K % 10 : Nat) : Int) := rfl
theorem lK (K : Nat) : Int.tdiv (K : Int) 10 = ((K / 10 : Nat) : Int) := rfl
set_option maxRecDepth 100000 in
set_option maxHeartbeats 4000000 in
theorem gr (K0 : Nat) (w : World) (hz0 : K0 ≠ 0) (h1 : K0 ≤ 9223372036854775808) :
 Calls Tryz.prog 73 #[.int .i64 ((K0 : Int))] w fun e w' => e = .returned (.string (txI ((K0 : Int)))) ∧ Below w.heap.size w w' := by
 have HX : Hid (txI ((K0 : Int)) = dgs K0) := lO hz0
 have hne : (((K0 : Int)) == 0) = false := by (simp; try omega)
 have hlt : decide (((K0 : Int)) < 0) = false := by (simp; try omega)
 have hK0 : K0 < 10 ^ 20 := by omega
 go_enter Tryz.func73, Tryz.ntmps73
 go_wp2_with fail
 go_loopw [3, 4] (fun s kv wr => ∃ (f K : Nat) (o : ByteArray), kv = .int .i64 ((K : Int)) ∧ K ≤ K0 ∧ K < 10 ^ f ∧ s = .string o ∧ o.size + f = 20 ∧ tdS f K o = dgs K0 ∧ Below w.heap.size w wr) (fun _ kv _ => (intOf kv).natAbs)
 case atStart => exact ⟨20, K0, ⟨#[]⟩, rfl, Nat.le_refl _, hK0, rfl, rfl, rfl, Below.refl _ _⟩
 case round =>
  obtain ⟨f, K, o, rfl, hK, hKf, rfl, hos, hd, hB⟩ := hrel
  have HD : Hid (tdS f K o = dgs K0) := hd
  clear hd
  by_cases hz : K = 0
  ·subst hz
   have hE : o = dgs K0 := by rw [← HD.out, gv]
   have hle : ¬ 9223372036854775807 < 1 + o.size := by omega
   subst hE
   have hq0 : (((0 : Int) != 0) = false) := by simp
   go_wp2_with fail
   go_ret
   exact ⟨by rw [HX.out]; rfl, hB⟩
  ·obtain ⟨g, rfl⟩ := jV hKf hz
   have HG := jh (f := g) (s := o) hz
   have hq0 : (((K : Int)) != 0) = true := by (simp; try omega)
   have hqt : Int.tdiv ((K : Int)) 10 = ((K / 10 : Nat) : Int) := lK K
   have hqm : Int.tmod ((K : Int)) 10 = ((K % 10 : Nat) : Int) := lM K
   have hKs := cT hKf
   have hw8 : IntKind.u8.wrap (48 + (K : Int) % 10) = 48 + (K : Int) % 10 := Go.IntWalk.u8_in _ ⟨by omega, by omega⟩
   have hcs : ((K % 10 : Nat) : Int) = (K : Int) % 10 := by omega
   have hcv : (convert 22 9 (.slice (some ⟨wr.heap.size, 0, none⟩) 1 1)).run Tryz.prog (wr.alloc (.cells #[.int .u8 (48 + (K : Int) % 10)] 5)) = .ok (.string (strOfNums [48 + (K : Int) % 10])) (wr.alloc (.cells #[.int .u8 (48 + (K : Int) % 10)] 5)) :=
    run_convert_bytes_arg _ 22 5 Tryz.underlying22 Tryz.underlying5 wr.heap.size 0 1 1 [48 + (K : Int) % 10] rfl (fun i hi => by (obtain rfl : i = 0 := by omega); simp) 9 Tryz.underlying9
   have hle : ¬ 9223372036854775807 < (strOfNums [48 + (K : Int) % 10]).size + o.size := by rw [strOfNums_size]; simp; omega
   have hz1 : (strOfNums [48 + (K : Int) % 10] ++ o).size = 1 + o.size := by rw [ByteArray.size_append, strOfNums_size]; rfl
   rw [hcs] at hqm
   have hd0 : decide ((K : Int) % 10 < 0) = false := by simp; omega
   go_wp2_with fail
   go_roundw
   case rel => exact ⟨g, K / 10, _, by simp, by omega, hKs, rfl, by rw [hz1]; omega, by rw [← HG]; exact HD.out, hB.alloc hB.size _⟩
   case measure => simp [intOf]; omega
set_option maxRecDepth 100000 in
set_option maxHeartbeats 4000000 in
theorem gn (K0 : Nat) (w : World) (hz0 : K0 ≠ 0) (h1 : K0 ≤ 9223372036854775808) :
 Calls Tryz.prog 73 #[.int .i64 (-(K0 : Int))] w fun e w' => e = .returned (.string (txI (-(K0 : Int)))) ∧ Below w.heap.size w w' := by
 have HX : Hid (txI (-(K0 : Int)) = ⟨#[45]⟩ ++ dgs K0) := lN hz0
 have hne : ((-(K0 : Int)) == 0) = false := by (simp; try omega)
 have hlt : decide ((-(K0 : Int)) < 0) = true := by (simp; try omega)
 have hK0 : K0 < 10 ^ 20 := by omega
 go_enter Tryz.func73, Tryz.ntmps73
 go_wp2_with fail
 go_loopw [3, 4] (fun s kv wr => ∃ (f K : Nat) (o : ByteArray), kv = .int .i64 (-(K : Int)) ∧ K ≤ K0 ∧ K < 10 ^ f ∧ s = .string o ∧ o.size + f = 20 ∧ tdS f K o = dgs K0 ∧ Below w.heap.size w wr) (fun _ kv _ => (intOf kv).natAbs)
 case atStart => exact ⟨20, K0, ⟨#[]⟩, rfl, Nat.le_refl _, hK0, rfl, rfl, rfl, Below.refl _ _⟩
 case round =>
  obtain ⟨f, K, o, rfl, hK, hKf, rfl, hos, hd, hB⟩ := hrel
  have HD : Hid (tdS f K o = dgs K0) := hd
  clear hd
  by_cases hz : K = 0
  ·subst hz
   have hE : o = dgs K0 := by rw [← HD.out, gv]
   have hle : ¬ 9223372036854775807 < 1 + o.size := by omega
   subst hE
   have hq0 : (((0 : Int) != 0) = false) := by simp
   go_wp2_with fail
   go_ret
   exact ⟨by rw [HX.out]; rfl, hB⟩
  ·obtain ⟨g, rfl⟩ := jV hKf hz
   have HG := jh (f := g) (s := o) hz
   have hq0 : ((-(K : Int)) != 0) = true := by (simp; try omega)
   have hqt : Int.tdiv (-(K : Int)) 10 = -((K / 10 : Nat) : Int) := lJ K
   have hqm : Int.tmod (-(K : Int)) 10 = -((K % 10 : Nat) : Int) := lL K
   have hKs := cT hKf
   have hw8 : IntKind.u8.wrap (48 + (K : Int) % 10) = 48 + (K : Int) % 10 := Go.IntWalk.u8_in _ ⟨by omega, by omega⟩
   have hcs : ((K % 10 : Nat) : Int) = (K : Int) % 10 := by omega
   have hcv : (convert 22 9 (.slice (some ⟨wr.heap.size, 0, none⟩) 1 1)).run Tryz.prog (wr.alloc (.cells #[.int .u8 (48 + (K : Int) % 10)] 5)) = .ok (.string (strOfNums [48 + (K : Int) % 10])) (wr.alloc (.cells #[.int .u8 (48 + (K : Int) % 10)] 5)) :=
    run_convert_bytes_arg _ 22 5 Tryz.underlying22 Tryz.underlying5 wr.heap.size 0 1 1 [48 + (K : Int) % 10] rfl (fun i hi => by (obtain rfl : i = 0 := by omega); simp) 9 Tryz.underlying9
   have hle : ¬ 9223372036854775807 < (strOfNums [48 + (K : Int) % 10]).size + o.size := by rw [strOfNums_size]; simp; omega
   have hz1 : (strOfNums [48 + (K : Int) % 10] ++ o).size = 1 + o.size := by rw [ByteArray.size_append, strOfNums_size]; rfl
   by_cases hm0 : K % 10 = 0
   ·have hm1 : (K : Int) % 10 = 0 := by omega
    rw [hm0] at hqm
    simp only [hm1, Int.add_zero] at hcv hle hz1 hw8
    have HG2 : Hid (tdS (g + 1) K o = tdS g (K / 10) (strOfNums [48] ++ o)) := by (show tdS (g + 1) K o = _; rw [HG, hm1]; rfl)
    clear HG
    go_wp2_with fail
    go_roundw
    case rel => exact ⟨g, K / 10, _, by simp, by omega, hKs, rfl, by rw [hz1]; omega, by rw [← HG2.out]; exact HD.out, hB.alloc hB.size _⟩
    case measure => simp [intOf]; omega
   ·have hd0 : decide (-((K : Int) % 10) < 0) = true := by simp; omega
    rw [hcs] at hqm
    have HG2 : Hid (tdS (g + 1) K o = tdS g (K / 10) (strOfNums [48 + (K : Int) % 10] ++ o)) := HG
    clear HG
    go_wp2_with fail
    go_roundw
    case rel => exact ⟨g, K / 10, _, by simp, by omega, hKs, rfl, by rw [hz1]; omega, by rw [← HG2.out]; exact HD.out, hB.alloc hB.size _⟩
    case measure => simp [intOf]; omega
set_option maxHeartbeats 400000 in
theorem eM (n : Int) (w : World) (h0 : -9223372036854775808 ≤ n) (h1 : n ≤ 9223372036854775807) :
 Calls Tryz.prog 73 #[.int .i64 n] w fun e w' => e = .returned (.string (txI n)) ∧ Below w.heap.size w w' := by
 by_cases hz : n = 0
 ·subst hz
  go_enter Tryz.func73, Tryz.ntmps73
  go_wp2_with fail
  go_ret
  exact ⟨rfl, Below.refl _ _⟩
 ·by_cases hp : 0 < n
  ·obtain ⟨K, rfl⟩ := Int.eq_ofNat_of_zero_le (show 0 ≤ n by omega)
   exact gr K w (by omega) (by omega)
  ·obtain ⟨K, hK⟩ := Int.eq_ofNat_of_zero_le (show 0 ≤ -n by omega)
   have hn : n = -(K : Int) := by omega
   subst hn
   exact gn K w (by omega) (by omega)
end Go.Proofs.YtddjiamollfplaaGreatDoor
namespace Go.Proofs.YtddjiamollfplaaGreatDoor
open Go.RowKit
set_option linter.unusedVariables false
def bt (s : ByteArray) (i : Nat) : Int := ((s.data.getD i 0).toNat : Int)
theorem cP (s : ByteArray) (i : Nat) : 0 ≤ bt s i ∧ bt s i ≤ 255 := by
 have := (s.data.getD i 0).toNat_lt
 unfold bt; omega
theorem cJ (s : ByteArray) (i : Nat) (h : i < s.size) (w : World) : (Instr.index 9 (.string s) (.int .i64 (i : Int))).run Tryz.prog w = .ok (.int .u8 (bt s i)) w := by
 have hi : 0 ≤ (i : Int) ∧ (i : Int) < (s.size : Int) := by omega
 rw [run_index_string w 9 s .i64 i Tryz.underlying9, dif_pos hi]
 have e : ((s[(i : Int).toNat]'(by omega)).toNat : Int) = bt s i := by
  unfold bt
  rw [Array.getD_eq_getD_getElem?]
  have h' : i < s.data.size := h
  simp only [Int.toNat_natCast]
  rw [Array.getElem?_eq_getElem h']
  rfl
 rw [e]
def frN (s : ByteArray) : Nat := if bt s 0 = 45 then 1 else 0
def nmV (s : ByteArray) (a : Nat) : Nat → Int
 | 0 => 0
 | k + 1 => 10 * nmV s a k + bt s (a + k) - 48
def nmD (s : ByteArray) (a : Nat) : Nat → Bool
 | 0 => true
 | k + 1 => nmD s a k && decide (48 ≤ bt s (a + k) ∧ bt s (a + k) ≤ 57)
def nmX (s : ByteArray) : Int := if frN s = 1 then -(nmV s (frN s) (s.size - frN s)) else nmV s (frN s) (s.size - frN s)
def nuB (s : ByteArray) : Bool := decide (0 < s.size ∧ s.size ≤ 10) && (decide (s.size - frN s ≤ 9) && (nmD s (frN s) (s.size - frN s) && ((txI (nmX s)).toList == s.toList)))
def nuI (s : ByteArray) : Int := match nuB s with | true => nmX s | false => 0
theorem jG {s : ByteArray} {a : Nat} : ∀ {k : Nat}, nmD s a k = true → 0 ≤ nmV s a k ∧ nmV s a k < 10 ^ k
 | 0, _ => ⟨Int.le_refl _, by show (0 : Int) < 1; decide⟩
 | k + 1, h => by
  rw [nmD, Bool.and_eq_true] at h
  have h2 := of_decide_eq_true h.2
  obtain ⟨q1, q2⟩ := jG h.1
  have e : (10 : Int) ^ (k + 1) = 10 ^ k * 10 := rfl
  rw [nmV, e]
  omega
theorem ka {s : ByteArray} {a k : Nat} (h : nmD s a k = true) (hk : k ≤ 9) : 0 ≤ nmV s a k ∧ nmV s a k ≤ 999999999 := by
 obtain ⟨q1, q2⟩ := jG h
 have h9 : (10 : Int) ^ k ≤ 10 ^ 9 := by
  have : (10 : Nat) ^ k ≤ 10 ^ 9 := Nat.pow_le_pow_right (by decide) hk
  exact_mod_cast this
 omega
theorem jI {s : ByteArray} (h : nuB s = false) : nuI s = 0 := by rw [nuI, h]
theorem fZ {s : ByteArray} (h : nuB s = true) : nuI s = nmX s := by rw [nuI, h]
end Go.Proofs.YtddjiamollfplaaGreatDoor
namespace Go.Proofs.YtddjiamollfplaaGreatDoor
open Go.RowKit
set_option linter.unusedVariables false
def cQ : ByteArray := ⟨#[48, 49, 50, 51, 52, 53, 54, 55, 56, 57, 97, 98, 99, 100, 101, 102]⟩
def hxD (x : Int) : Int := if x < 10 then 48 + x else 87 + x
def vlI (b : Int) : Int := if 48 ≤ b ∧ b ≤ 57 then b - 48 else if 97 ≤ b ∧ b ≤ 102 then b - 87 else -1
theorem kM : ∀ k, k < 16 → bt cQ k = hxD (k : Int) := by decide
theorem cV {x : Int} (h0 : 0 ≤ x) (h1 : x ≤ 15) : 48 ≤ hxD x ∧ hxD x ≤ 102 := by unfold hxD; split <;> omega
theorem kP {x : Int} (h0 : 0 ≤ x) (h1 : x ≤ 15) : vlI (hxD x) = x := by unfold hxD vlI; split <;> split <;> (try split) <;> omega
theorem lP (b : Int) : -1 ≤ vlI b ∧ vlI b ≤ 15 := by unfold vlI; split <;> (try split) <;> omega
set_option maxHeartbeats 400000 in
theorem dc (x : Int) (w : World) (h0 : 0 ≤ x) (h1 : x ≤ 15) :
 Calls Tryz.prog 88 #[.int .i64 x] w fun e w' => e = .returned (.int .u8 (hxD x)) ∧ w = w' := by
 obtain ⟨k, rfl⟩ := Int.eq_ofNat_of_zero_le h0
 have hx := cJ cQ k (show k < 16 by omega)
 rw [kM k (by omega)] at hx
 unfold cQ at hx
 go_enter Tryz.func88, Tryz.ntmps88
 go_wp2_with fail
 go_ret
 exact ⟨rfl, rfl⟩
end Go.Proofs.YtddjiamollfplaaGreatDoor
namespace Go.Proofs.YtddjiamollfplaaGreatDoor
open Go.RowKit
set_option linter.unusedVariables false
def dL : Nat → Nat → List Int → List Int
 | 0, _, L => L
 | f + 1, K, L => if K = 0 then L else dL f (K / 10) ((48 + (K : Int) % 10) :: L)
theorem iB (a : Int) (L : List Int) : strOfNums [a] ++ strOfNums L = strOfNums (a :: L) := by
 apply ByteArray.ext
 rw [ByteArray.data_append, strOfNums, strOfNums, strOfNums]
 simp
theorem lI : ∀ (f K : Nat) (L : List Int), tdS f K (strOfNums L) = strOfNums (dL f K L)
 | 0, _, _ => rfl
 | f + 1, K, L => by
  rw [tdS, dL]
  by_cases h : K = 0
  ·rw [if_pos h, if_pos h]
  ·rw [if_neg h, if_neg h, iB, lI f]
theorem eh (K : Nat) : dgs K = strOfNums (dL 20 K []) := lI 20 K []
def evL (a : Int) (L : List Int) : Int := L.foldl (fun v z => 10 * v + z - 48) a
theorem kC : ∀ {f K : Nat} {L : List Int}, K < 10 ^ f → evL 0 (dL f K L) = evL (K : Int) L
 | 0, K, L, h => by
  have : K = 0 := by simpa using h
  subst this; rfl
 | f + 1, K, L, h => by
  rw [dL]
  by_cases hz : K = 0
  ·rw [if_pos hz, hz]; rfl
  ·rw [if_neg hz, kC (cT h)]
   show evL (10 * ((K / 10 : Nat) : Int) + (48 + (K : Int) % 10) - 48) L = _
   congr 1
   omega
theorem df : ∀ {f K : Nat} {L : List Int}, (∀ z ∈ L, 48 ≤ z ∧ z ≤ 57) → ∀ z ∈ dL f K L, 48 ≤ z ∧ z ≤ 57
 | 0, _, _, h => h
 | f + 1, K, L, h => by
  rw [dL]
  by_cases hz : K = 0
  ·rw [if_pos hz]; exact h
  ·rw [if_neg hz]
   refine df fun z hm => ?_
   rcases List.mem_cons.1 hm with rfl | hm
   ·omega
   ·exact h z hm
theorem kD : ∀ {f K : Nat} {L : List Int}, L.length ≤ (dL f K L).length
 | 0, _, _ => Nat.le_refl _
 | f + 1, K, L => by
  rw [dL]
  by_cases hz : K = 0
  ·rw [if_pos hz]; exact Nat.le_refl _
  ·rw [if_neg hz]
   have := @kD f (K / 10) ((48 + (K : Int) % 10) :: L)
   simp at this
   omega
theorem kE : ∀ {f K : Nat} {L : List Int}, K ≠ 0 → K < 10 ^ f → L.length < (dL f K L).length ∧ 10 ^ ((dL f K L).length - L.length - 1) ≤ K
 | 0, K, L, hz, h => absurd (by simpa using h) hz
 | f + 1, K, L, hz, h => by
  rw [dL, if_neg hz]
  have hle := @kD f (K / 10) ((48 + (K : Int) % 10) :: L)
  have hl1 : ((48 + (K : Int) % 10) :: L).length = L.length + 1 := rfl
  rw [hl1] at hle
  refine ⟨by omega, ?_⟩
  by_cases h0 : K / 10 = 0
  ·rw [h0]
   have e : dL f 0 ((48 + (K : Int) % 10) :: L) = (48 + (K : Int) % 10) :: L := by cases f <;> simp [dL]
   rw [e, hl1]
   simp
   omega
  ·obtain ⟨q1, q2⟩ := kE (L := (48 + (K : Int) % 10) :: L) h0 (cT h)
   rw [hl1] at q1 q2
   generalize (dL f (K / 10) ((48 + (K : Int) % 10) :: L)).length = n at *
   obtain ⟨m, rfl⟩ : ∃ m, n = L.length + 2 + m := ⟨n - (L.length + 2), by omega⟩
   rw [show L.length + 2 + m - (L.length + 1) - 1 = m by omega] at q2
   rw [show L.length + 2 + m - L.length - 1 = m + 1 by omega, Nat.pow_succ]
   omega
theorem ma (a : Int) (L : List Int) (z : Int) : evL a (L ++ [z]) = 10 * evL a L + z - 48 := by simp [evL]
theorem jH {s : ByteArray} {a : Nat} {M : List Int} (h : ∀ k, k < M.length → bt s (a + k) = M.getD k 0) (hd : ∀ z ∈ M, 48 ≤ z ∧ z ≤ 57) : ∀ k, k ≤ M.length → nmV s a k = evL 0 (M.take k) ∧ nmD s a k = true
 | 0, _ => ⟨rfl, rfl⟩
 | k + 1, hk => by
  obtain ⟨i1, i2⟩ := jH h hd k (by omega)
  have hb := h k (by omega)
  have hg : M.getD k 0 = M[k] := by rw [List.getD_eq_getElem?_getD, List.getElem?_eq_getElem (by omega)]; rfl
  have hz := hd M[k] (List.getElem_mem (by omega))
  rw [hg] at hb
  constructor
  ·rw [nmV, i1, hb, List.take_add_one, List.getElem?_eq_getElem (show k < M.length by omega)]
   exact (ma 0 (M.take k) M[k]).symm
  ·rw [nmD, i2, hb, decide_eq_true hz]; rfl
theorem mP {M : List Int} (hd : ∀ z ∈ M, 48 ≤ z ∧ z ≤ 57) : ∀ {a : Int} , 0 ≤ a → evL a M < (a + 1) * 10 ^ M.length := by
 induction M with
 | nil => intro a _; simp [evL]; omega
 | cons z M ih =>
  intro a ha
  have hz := hd z (List.mem_cons_self ..)
  have q := ih (fun y hy => hd y (List.mem_cons_of_mem _ hy)) (a := 10 * a + z - 48) (by omega)
  show evL (10 * a + z - 48) M < _
  refine Int.lt_of_lt_of_le q ?_
  rw [List.length_cons, Int.pow_succ, Int.mul_comm (10 ^ M.length) 10, ← Int.mul_assoc]
  exact Int.mul_le_mul_of_nonneg_right (by omega) (Int.le_of_lt (Int.pow_pos (by decide)))
theorem jv {K : Nat} (hz : K ≠ 0) (h : K < 10 ^ 20) : 0 < (dL 20 K []).length ∧ ((dL 20 K []).length ≤ 9 ↔ K ≤ 999999999) := by
 obtain ⟨q1, q2⟩ := kE (L := []) hz h
 have hd := @df 20 K [] (fun z hz => nomatch hz)
 have he := kC (L := []) h
 have hv := mP hd (a := 0) (Int.le_refl _)
 rw [he] at hv
 simp only [List.length_nil, Nat.sub_zero] at q1 q2
 have hv' : (K : Int) < 10 ^ (dL 20 K []).length := by simpa [evL] using hv
 generalize (dL 20 K []).length = n at *
 refine ⟨q1, ⟨fun h9 => ?_, fun hk => ?_⟩⟩
 ·have : (10 : Nat) ^ n ≤ 10 ^ 9 := Nat.pow_le_pow_right (by decide) h9
  have hv2 : K < 10 ^ n := by exact_mod_cast hv'
  omega
 ·by_cases h9 : n ≤ 9
  ·exact h9
  ·have : (10 : Nat) ^ 9 ≤ 10 ^ (n - 1) := Nat.pow_le_pow_right (by decide) (by omega)
   omega
end Go.Proofs.YtddjiamollfplaaGreatDoor
