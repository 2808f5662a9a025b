/- Numbers of texts: what is written is read as it was. Numbers of texts: the digits of a number. Numbers of texts: a number is read from its own text. -/
import Derived.Test.YtddjiamollfplaaGreatDoorML6
namespace Go.Proofs.YtddjiamollfplaaGreatDoor
open Go.RowKit
set_option linter.unusedVariables false
theorem bt_strOf {L : List Int} (h : ∀ z ∈ L, 0 ≤ z ∧ z ≤ 255) {i : Nat} (hi : i < L.length) : bt (strOfNums L) i = L.getD i 0 := by
 have hz := h L[i] (List.getElem_mem hi)
 have hlt : L[i].toNat < 256 := by omega
 have e : (strOfNums L).data.getD i 0 = UInt8.ofNat L[i].toNat := by
  rw [strOfNums, Array.getD_eq_getD_getElem?]
  simp [List.getElem?_map, List.getElem?_eq_getElem hi]
 unfold bt
 rw [e, List.getD_eq_getElem?_getD, List.getElem?_eq_getElem hi]
 show ((UInt8.ofNat L[i].toNat).toNat : Int) = L[i]
 rw [UInt8.toNat_ofNat', Nat.mod_eq_of_lt (by simpa using hlt)]
 omega
theorem two_at {L : List Int} {a b : Int} {n : Nat} (hn : L.length = n) : (L ++ [a, b]).getD n 0 = a ∧ (L ++ [a, b]).getD (n + 1) 0 = b := by
 subst hn
 constructor <;> simp [List.getD_eq_getElem?_getD]
theorem old_at {L M : List Int} {i : Nat} (hi : i < L.length) : (L ++ M).getD i 0 = L.getD i 0 := by
 rw [List.getD_eq_getElem?_getD, List.getD_eq_getElem?_getD, List.getElem?_append_left hi]
theorem hxL_at (s : ByteArray) : ∀ {n k : Nat}, k < n → (hxL s n).getD (2 * k) 0 = hxD (bt s k / 16) ∧ (hxL s n).getD (2 * k + 1) 0 = hxD (bt s k % 16)
 | 0, _, h => absurd h (Nat.not_lt_zero _)
 | n + 1, k, h => by
  have hl := hxL_len s n
  by_cases e : k = n
  ·subst e; rw [hxL]; exact two_at hl
  ·have hk : k < n := by omega
   rw [hxL, old_at (by omega), old_at (by omega)]
   exact hxL_at s hk
theorem hxL_rng (s : ByteArray) : ∀ n, ∀ z ∈ hxL s n, 0 ≤ z ∧ z ≤ 255
 | 0, z, h => nomatch h
 | n + 1, z, h => by
  rw [hxL, List.mem_append] at h
  rcases h with h | h
  ·exact hxL_rng s n z h
  ·obtain ⟨b0, b1⟩ := bt_rng s n
   have q1 := hxD_rng (x := bt s n / 16) (by omega) (by omega)
   have q2 := hxD_rng (x := bt s n % 16) (by omega) (by omega)
   simp at h
   rcases h with rfl | rfl <;> omega
theorem str_self (s : ByteArray) : strOfNums ((List.range s.size).map (bt s)) = s := by
 have e : (List.range s.size).map (bt s) = s.data.toList.map fun b => (b.toNat : Int) := by
  apply List.ext_getElem?
  intro i
  by_cases hi : i < s.size
  ·have hi' : i < s.data.size := hi
   rw [List.getElem?_map, List.getElem?_range hi, List.getElem?_map, Array.getElem?_toList, Array.getElem?_eq_getElem hi']
   show some (bt s i) = some _
   unfold bt
   rw [Array.getD_eq_getD_getElem?, Array.getElem?_eq_getElem hi']
   rfl
  ·have hi' : ¬ i < s.data.size := hi
   rw [List.getElem?_eq_none (by simp; omega), List.getElem?_eq_none (by simp; omega)]
 rw [e, strOfNums, List.map_map]
 obtain ⟨⟨d⟩⟩ := s
 have e2 : ((fun n : Int => UInt8.ofNat n.toNat) ∘ fun b : UInt8 => (b.toNat : Int)) = id := by
  funext b
  simp
 simp only [e2, List.map_id]
theorem hex_back (s : ByteArray) (h : s.size ≤ 64) : fhB (hexO s) = true ∧ fhO (hexO s) = s := by
 by_cases h0 : s.size = 0
 ·have e : hexO s = ⟨#[45]⟩ := by rw [hexO, if_neg (by omega), if_pos h0]
  have hd : dashB (⟨#[45]⟩ : ByteArray) = true := by unfold dashB; rw [ByteArray.toList_eq]; rfl
  have es : s = ⟨#[]⟩ := by
   obtain ⟨d⟩ := s
   have : d = #[] := Array.eq_empty_of_size_eq_zero h0
   rw [this]
  rw [e]
  exact ⟨by rw [fhB, hd]; rfl, by rw [fhO, hd]; exact es.symm⟩
 ·have e : hexO s = strOfNums (hxL s s.size) := by rw [hexO, if_neg (by omega), if_neg h0]
  rw [e]
  have hs : (strOfNums (hxL s s.size)).size = 2 * s.size := by rw [strOfNums_size, hxL_len]
  have hd : dashB (strOfNums (hxL s s.size)) = false := by
   unfold dashB
   rw [beq_eq_false_iff_ne]
   intro q
   have := congrArg List.length q
   rw [ba_len, hs] at this
   simp at this
   omega
  have hb : ∀ k, k < s.size → bt (strOfNums (hxL s s.size)) (2 * k) = hxD (bt s k / 16) ∧ bt (strOfNums (hxL s s.size)) (2 * k + 1) = hxD (bt s k % 16) := fun k hk => by
   have hl := hxL_len s s.size
   obtain ⟨q1, q2⟩ := hxL_at s hk
   rw [bt_strOf (hxL_rng s _) (by omega), bt_strOf (hxL_rng s _) (by omega)]
   exact ⟨q1, q2⟩
  have hk : ∀ k, k ≤ s.size → fhD (strOfNums (hxL s s.size)) k = true ∧ fhL (strOfNums (hxL s s.size)) k = (List.range k).map (bt s) := by
   intro k
   induction k with
   | zero => exact fun _ => ⟨rfl, rfl⟩
   | succ k ih =>
    intro hle
    obtain ⟨i1, i2⟩ := ih (by omega)
    obtain ⟨q1, q2⟩ := hb k (by omega)
    obtain ⟨b0, b1⟩ := bt_rng s k
    have v1 : vlI (hxD (bt s k / 16)) = bt s k / 16 := hxD_vl (by omega) (by omega)
    have v2 : vlI (hxD (bt s k % 16)) = bt s k % 16 := hxD_vl (by omega) (by omega)
    constructor
    ·rw [fhD, i1, q1, q2, v1, v2, decide_eq_true (p := 0 ≤ bt s k / 16) (by omega), decide_eq_true (p := 0 ≤ bt s k % 16) (by omega)]; rfl
    ·rw [fhL, i2, q1, q2, v1, v2, List.range_succ, List.map_append]
     have : 16 * (bt s k / 16) + bt s k % 16 = bt s k := by omega
     rw [this]; rfl
  obtain ⟨k1, k2⟩ := hk s.size (Nat.le_refl _)
  have hh : (strOfNums (hxL s s.size)).size / 2 = s.size := by omega
  have hB : fhB (strOfNums (hxL s s.size)) = true := by
   rw [fhB, hd, hh, k1, decide_eq_true ⟨by omega, by omega, by omega⟩]; rfl
  exact ⟨hB, by rw [fh_yes hd hB, hh, k2, str_self]⟩
end Go.Proofs.YtddjiamollfplaaGreatDoor
namespace Go.Proofs.YtddjiamollfplaaGreatDoor
open Go.RowKit
set_option linter.unusedVariables false
def dL : Nat → Nat → List Int → List Int
 | 0, _, L => L
 | f + 1, K, L => if K = 0 then L else dL f (K / 10) ((48 + (K : Int) % 10) :: L)
theorem str_cons (a : Int) (L : List Int) : strOfNums [a] ++ strOfNums L = strOfNums (a :: L) := by
 apply ByteArray.ext
 rw [ByteArray.data_append, strOfNums, strOfNums, strOfNums]
 simp
theorem tdS_dL : ∀ (f K : Nat) (L : List Int), tdS f K (strOfNums L) = strOfNums (dL f K L)
 | 0, _, _ => rfl
 | f + 1, K, L => by
  rw [tdS, dL]
  by_cases h : K = 0
  ·rw [if_pos h, if_pos h]
  ·rw [if_neg h, if_neg h, str_cons, tdS_dL f]
theorem dgs_eq (K : Nat) : dgs K = strOfNums (dL 20 K []) := tdS_dL 20 K []
def evL (a : Int) (L : List Int) : Int := L.foldl (fun v z => 10 * v + z - 48) a
theorem dL_ev : ∀ {f K : Nat} {L : List Int}, K < 10 ^ f → evL 0 (dL f K L) = evL (K : Int) L
 | 0, K, L, h => by
  have : K = 0 := by simpa using h
  subst this; rfl
 | f + 1, K, L, h => by
  rw [dL]
  by_cases hz : K = 0
  ·rw [if_pos hz, hz]; rfl
  ·rw [if_neg hz, dL_ev (ten_step h)]
   show evL (10 * ((K / 10 : Nat) : Int) + (48 + (K : Int) % 10) - 48) L = _
   congr 1
   omega
theorem dL_dig : ∀ {f K : Nat} {L : List Int}, (∀ z ∈ L, 48 ≤ z ∧ z ≤ 57) → ∀ z ∈ dL f K L, 48 ≤ z ∧ z ≤ 57
 | 0, _, _, h => h
 | f + 1, K, L, h => by
  rw [dL]
  by_cases hz : K = 0
  ·rw [if_pos hz]; exact h
  ·rw [if_neg hz]
   refine dL_dig fun z hm => ?_
   rcases List.mem_cons.1 hm with rfl | hm
   ·omega
   ·exact h z hm
theorem dL_len : ∀ {f K : Nat} {L : List Int}, L.length ≤ (dL f K L).length
 | 0, _, _ => Nat.le_refl _
 | f + 1, K, L => by
  rw [dL]
  by_cases hz : K = 0
  ·rw [if_pos hz]; exact Nat.le_refl _
  ·rw [if_neg hz]
   have := @dL_len f (K / 10) ((48 + (K : Int) % 10) :: L)
   simp at this
   omega
theorem dL_low : ∀ {f K : Nat} {L : List Int}, K ≠ 0 → K < 10 ^ f → L.length < (dL f K L).length ∧ 10 ^ ((dL f K L).length - L.length - 1) ≤ K
 | 0, K, L, hz, h => absurd (by simpa using h) hz
 | f + 1, K, L, hz, h => by
  rw [dL, if_neg hz]
  have hle := @dL_len f (K / 10) ((48 + (K : Int) % 10) :: L)
  have hl1 : ((48 + (K : Int) % 10) :: L).length = L.length + 1 := rfl
  rw [hl1] at hle
  refine ⟨by omega, ?_⟩
  by_cases h0 : K / 10 = 0
  ·rw [h0]
   have e : dL f 0 ((48 + (K : Int) % 10) :: L) = (48 + (K : Int) % 10) :: L := by cases f <;> simp [dL]
   rw [e, hl1]
   simp
   omega
  ·obtain ⟨q1, q2⟩ := dL_low (L := (48 + (K : Int) % 10) :: L) h0 (ten_step h)
   rw [hl1] at q1 q2
   generalize (dL f (K / 10) ((48 + (K : Int) % 10) :: L)).length = n at *
   obtain ⟨m, rfl⟩ : ∃ m, n = L.length + 2 + m := ⟨n - (L.length + 2), by omega⟩
   rw [show L.length + 2 + m - (L.length + 1) - 1 = m by omega] at q2
   rw [show L.length + 2 + m - L.length - 1 = m + 1 by omega, Nat.pow_succ]
   omega
theorem evL_app (a : Int) (L : List Int) (z : Int) : evL a (L ++ [z]) = 10 * evL a L + z - 48 := by simp [evL]
theorem nm_list {s : ByteArray} {a : Nat} {M : List Int} (h : ∀ k, k < M.length → bt s (a + k) = M.getD k 0) (hd : ∀ z ∈ M, 48 ≤ z ∧ z ≤ 57) : ∀ k, k ≤ M.length → nmV s a k = evL 0 (M.take k) ∧ nmD s a k = true
 | 0, _ => ⟨rfl, rfl⟩
 | k + 1, hk => by
  obtain ⟨i1, i2⟩ := nm_list h hd k (by omega)
  have hb := h k (by omega)
  have hg : M.getD k 0 = M[k] := by rw [List.getD_eq_getElem?_getD, List.getElem?_eq_getElem (by omega)]; rfl
  have hz := hd M[k] (List.getElem_mem (by omega))
  rw [hg] at hb
  constructor
  ·rw [nmV, i1, hb, List.take_add_one, List.getElem?_eq_getElem (show k < M.length by omega)]
   exact (evL_app 0 (M.take k) M[k]).symm
  ·rw [nmD, i2, hb, decide_eq_true hz]; rfl
theorem ev_rng {M : List Int} (hd : ∀ z ∈ M, 48 ≤ z ∧ z ≤ 57) : ∀ {a : Int} , 0 ≤ a → evL a M < (a + 1) * 10 ^ M.length := by
 induction M with
 | nil => intro a _; simp [evL]; omega
 | cons z M ih =>
  intro a ha
  have hz := hd z (List.mem_cons_self ..)
  have q := ih (fun y hy => hd y (List.mem_cons_of_mem _ hy)) (a := 10 * a + z - 48) (by omega)
  show evL (10 * a + z - 48) M < _
  refine Int.lt_of_lt_of_le q ?_
  rw [List.length_cons, Int.pow_succ, Int.mul_comm (10 ^ M.length) 10, ← Int.mul_assoc]
  exact Int.mul_le_mul_of_nonneg_right (by omega) (Int.le_of_lt (Int.pow_pos (by decide)))
theorem dig_few {K : Nat} (hz : K ≠ 0) (h : K < 10 ^ 20) : 0 < (dL 20 K []).length ∧ ((dL 20 K []).length ≤ 9 ↔ K ≤ 999999999) := by
 obtain ⟨q1, q2⟩ := dL_low (L := []) hz h
 have hd := @dL_dig 20 K [] (fun z hz => nomatch hz)
 have he := dL_ev (L := []) h
 have hv := ev_rng hd (a := 0) (Int.le_refl _)
 rw [he] at hv
 simp only [List.length_nil, Nat.sub_zero] at q1 q2
 have hv' : (K : Int) < 10 ^ (dL 20 K []).length := by simpa [evL] using hv
 generalize (dL 20 K []).length = n at *
 refine ⟨q1, ⟨fun h9 => ?_, fun hk => ?_⟩⟩
 ·have : (10 : Nat) ^ n ≤ 10 ^ 9 := Nat.pow_le_pow_right (by decide) h9
  have hv2 : K < 10 ^ n := by exact_mod_cast hv'
  omega
 ·by_cases h9 : n ≤ 9
  ·exact h9
  ·have : (10 : Nat) ^ 9 ≤ 10 ^ (n - 1) := Nat.pow_le_pow_right (by decide) (by omega)
   omega
end Go.Proofs.YtddjiamollfplaaGreatDoor
namespace Go.Proofs.YtddjiamollfplaaGreatDoor
open Go.RowKit
set_option linter.unusedVariables false
theorem num_list {s : ByteArray} {a K : Nat} {M : List Int} (hM : M = dL 20 K []) (hz : K ≠ 0) (h20 : K < 10 ^ 20) (hs : s.size = a + M.length) (hb : ∀ k, k < M.length → bt s (a + k) = M.getD k 0) (ha : frN s = a) (ha1 : a ≤ 1) (ht : txI (if a = 1 then -(K : Int) else (K : Int)) = s) :
 nuB s = decide (K ≤ 999999999) ∧ nmX s = (if a = 1 then -(K : Int) else (K : Int)) := by
 have hd : ∀ z ∈ M, 48 ≤ z ∧ z ≤ 57 := by rw [hM]; exact dL_dig (fun z hz => nomatch hz)
 obtain ⟨v1, v2⟩ := nm_list hb hd M.length (Nat.le_refl _)
 have hv : nmV s a M.length = (K : Int) := by rw [v1, List.take_length, hM, dL_ev h20]; rfl
 have hsz : s.size - a = M.length := by omega
 have hX : nmX s = (if a = 1 then -(K : Int) else (K : Int)) := by rw [nmX, ha, hsz, hv]
 obtain ⟨l0, l9⟩ := dig_few hz h20
 rw [← hM] at l0 l9
 refine ⟨?_, hX⟩
 have hq : ((txI (nmX s)).toList == s.toList) = true := by rw [hX, ht]; simp
 rw [nuB, ha, hsz, v2, hq]
 by_cases hk : K ≤ 999999999
 ·have h9 := l9.2 hk
  rw [decide_eq_true hk, decide_eq_true ⟨by omega, by omega⟩, decide_eq_true h9]; rfl
 ·have h9 : ¬ M.length ≤ 9 := fun q => hk (l9.1 q)
  rw [decide_eq_false hk, decide_eq_false h9]; simp
theorem num_back (x : Int) (h0 : -9223372036854775808 ≤ x) (h1 : x ≤ 9223372036854775807) :
 nuB (txI x) = decide (-1000000000 < x ∧ x < 1000000000) ∧ (nuB (txI x) = true → nuI (txI x) = x) := by
 by_cases hz : x = 0
 ·subst hz
  have hX : nmX (txI 0) = 0 := by decide
  have hq : ((txI 0).toList == (txI 0).toList) = true := by simp
  have hB : nuB (txI 0) = true := by rw [nuB, hX, hq]; decide
  exact ⟨by rw [hB]; rfl, fun ht => by rw [nu_yes ht, hX]⟩
 ·by_cases hp : 0 < x
  ·obtain ⟨K, rfl⟩ := Int.eq_ofNat_of_zero_le (show 0 ≤ x by omega)
   have hK : K ≠ 0 := by omega
   have h20 : K < 10 ^ 20 := by omega
   have e : txI (K : Int) = strOfNums (dL 20 K []) := by rw [txI_p hK, dgs_eq]
   have hd := @dL_dig 20 K [] (fun z hz => nomatch hz)
   have hb : ∀ k, k < (dL 20 K []).length → bt (txI (K : Int)) (0 + k) = (dL 20 K []).getD k 0 := fun k hk => by
    rw [e, Nat.zero_add]; exact bt_strOf (fun z hz => by have := hd z hz; omega) hk
   have l0 := (dig_few hK h20).1
   have hf : frN (txI (K : Int)) = 0 := by
    have q := hb 0 l0
    rw [List.getD_eq_getElem?_getD, List.getElem?_eq_getElem l0] at q
    have z := hd _ (List.getElem_mem l0)
    rw [frN, if_neg (by simp at q; omega)]
   obtain ⟨r1, r2⟩ := num_list (a := 0) rfl hK h20 (by rw [e, strOfNums_size]; omega) hb hf (by omega) rfl
   refine ⟨?_, fun ht => by rw [nu_yes ht, r2]; rfl⟩
   rw [r1, Bool.eq_iff_iff]; simp; omega
  ·obtain ⟨K, hKx⟩ := Int.eq_ofNat_of_zero_le (show 0 ≤ -x by omega)
   have hx : x = -(K : Int) := by omega
   subst hx
   have hK : K ≠ 0 := by omega
   have h20 : K < 10 ^ 20 := by omega
   have e : txI (-(K : Int)) = strOfNums (45 :: dL 20 K []) := by
    rw [txI_n hK, dgs_eq, ← str_cons]; rfl
   have hd := @dL_dig 20 K [] (fun z hz => nomatch hz)
   have hr : ∀ z ∈ (45 : Int) :: dL 20 K [], 0 ≤ z ∧ z ≤ 255 := fun z hz => by
    rcases List.mem_cons.1 hz with rfl | hz
    ·omega
    ·have := hd z hz; omega
   have hb : ∀ k, k < (dL 20 K []).length → bt (txI (-(K : Int))) (1 + k) = (dL 20 K []).getD k 0 := fun k hk => by
    rw [e, bt_strOf hr (by simp; omega), Nat.add_comm]; rfl
   have hf : frN (txI (-(K : Int))) = 1 := by
    rw [frN, if_pos]
    rw [e, bt_strOf hr (by simp)]; rfl
   obtain ⟨r1, r2⟩ := num_list (a := 1) rfl hK h20 (by rw [e, strOfNums_size]; simp; omega) hb hf (by omega) rfl
   refine ⟨?_, fun ht => by rw [nu_yes ht, r2]; rfl⟩
   rw [r1, Bool.eq_iff_iff]; simp; omega
end Go.Proofs.YtddjiamollfplaaGreatDoor
