/- Numbers of texts: what is written is read as it was. Numbers of texts: a number is read from its own text. -/
import Derived.Test.YtddjiamollfplaaGreatDoorMC5
namespace Go.Proofs.YtddjiamollfplaaGreatDoor
open Go.RowKit
set_option linter.unusedVariables false
theorem cj {L : List Int} (h : ∀ z ∈ L, 0 ≤ z ∧ z ≤ 255) {i : Nat} (hi : i < L.length) : bt (strOfNums L) i = L.getD i 0 := by
 have hz := h L[i] (List.getElem_mem hi)
 have hlt : L[i].toNat < 256 := by omega
 have e : (strOfNums L).data.getD i 0 = UInt8.ofNat L[i].toNat := by
  rw [strOfNums, Array.getD_eq_getD_getElem?]
  simp [List.getElem?_map, List.getElem?_eq_getElem hi]
 unfold bt
 rw [e, List.getD_eq_getElem?_getD, List.getElem?_eq_getElem hi]
 show ((UInt8.ofNat L[i].toNat).toNat : Int) = L[i]
 rw [UInt8.toNat_ofNat', Nat.mod_eq_of_lt (by simpa using hlt)]
 omega
theorem nv {L : List Int} {a b : Int} {n : Nat} (hn : L.length = n) : (L ++ [a, b]).getD n 0 = a ∧ (L ++ [a, b]).getD (n + 1) 0 = b := by
 subst hn
 constructor <;> simp [List.getD_eq_getElem?_getD]
theorem lf {L M : List Int} {i : Nat} (hi : i < L.length) : (L ++ M).getD i 0 = L.getD i 0 := by
 rw [List.getD_eq_getElem?_getD, List.getD_eq_getElem?_getD, List.getElem?_append_left hi]
theorem kQ (s : ByteArray) : ∀ {n k : Nat}, k < n → (hxL s n).getD (2 * k) 0 = hxD (bt s k / 16) ∧ (hxL s n).getD (2 * k + 1) 0 = hxD (bt s k % 16)
 | 0, _, h => absurd h (Nat.not_lt_zero _)
 | n + 1, k, h => by
  have hl := cG s n
  by_cases e : k = n
  ·subst e; rw [hxL]; exact nv hl
  ·have hk : k < n := by omega
   rw [hxL, lf (by omega), lf (by omega)]
   exact kQ s hk
theorem fT (s : ByteArray) : ∀ n, ∀ z ∈ hxL s n, 0 ≤ z ∧ z ≤ 255
 | 0, z, h => nomatch h
 | n + 1, z, h => by
  rw [hxL, List.mem_append] at h
  rcases h with h | h
  ·exact fT s n z h
  ·obtain ⟨b0, b1⟩ := cP s n
   have q1 := cV (x := bt s n / 16) (by omega) (by omega)
   have q2 := cV (x := bt s n % 16) (by omega) (by omega)
   simp at h
   rcases h with rfl | rfl <;> omega
theorem lG (s : ByteArray) : strOfNums ((List.range s.size).map (bt s)) = s := by
 have e : (List.range s.size).map (bt s) = s.data.toList.map fun b => (b.toNat : Int) := by
  apply List.ext_getElem?
  intro i
  by_cases hi : i < s.size
  ·have hi' : i < s.data.size := hi
   rw [List.getElem?_map, List.getElem?_range hi, List.getElem?_map, Array.getElem?_toList, Array.getElem?_eq_getElem hi']
   show some (bt s i) = some _
   unfold bt
   rw [Array.getD_eq_getD_getElem?, Array.getElem?_eq_getElem hi']
   rfl
  ·have hi' : ¬ i < s.data.size := hi
   rw [List.getElem?_eq_none (by simp; omega), List.getElem?_eq_none (by simp; omega)]
 rw [e, strOfNums, List.map_map]
 obtain ⟨⟨d⟩⟩ := s
 have e2 : ((fun n : Int => UInt8.ofNat n.toNat) ∘ fun b : UInt8 => (b.toNat : Int)) = id := by
  funext b
  simp
 simp only [e2, List.map_id]
theorem kN (s : ByteArray) (h : s.size ≤ 64) : fhB (aZ s) = true ∧ fhO (aZ s) = s := by
 by_cases h0 : s.size = 0
 ·have e : aZ s = ⟨#[45]⟩ := by rw [aZ, if_neg (by omega), if_pos h0]
  have hd : dq (⟨#[45]⟩ : ByteArray) = true := by unfold dq; rw [ByteArray.toList_eq]; rfl
  have es : s = ⟨#[]⟩ := by
   obtain ⟨d⟩ := s
   have : d = #[] := Array.eq_empty_of_size_eq_zero h0
   rw [this]
  rw [e]
  exact ⟨by rw [fhB, hd]; rfl, by rw [fhO, hd]; exact es.symm⟩
 ·have e : aZ s = strOfNums (hxL s s.size) := by rw [aZ, if_neg (by omega), if_neg h0]
  rw [e]
  have hs : (strOfNums (hxL s s.size)).size = 2 * s.size := by rw [strOfNums_size, cG]
  have hd : dq (strOfNums (hxL s s.size)) = false := by
   unfold dq
   rw [beq_eq_false_iff_ne]
   intro q
   have := congrArg List.length q
   rw [iL, hs] at this
   simp at this
   omega
  have hb : ∀ k, k < s.size → bt (strOfNums (hxL s s.size)) (2 * k) = hxD (bt s k / 16) ∧ bt (strOfNums (hxL s s.size)) (2 * k + 1) = hxD (bt s k % 16) := fun k hk => by
   have hl := cG s s.size
   obtain ⟨q1, q2⟩ := kQ s hk
   rw [cj (fT s _) (by omega), cj (fT s _) (by omega)]
   exact ⟨q1, q2⟩
  have hk : ∀ k, k ≤ s.size → fhD (strOfNums (hxL s s.size)) k = true ∧ fhL (strOfNums (hxL s s.size)) k = (List.range k).map (bt s) := by
   intro k
   induction k with
   | zero => exact fun _ => ⟨rfl, rfl⟩
   | succ k ih =>
    intro hle
    obtain ⟨i1, i2⟩ := ih (by omega)
    obtain ⟨q1, q2⟩ := hb k (by omega)
    obtain ⟨b0, b1⟩ := cP s k
    have v1 : vlI (hxD (bt s k / 16)) = bt s k / 16 := kP (by omega) (by omega)
    have v2 : vlI (hxD (bt s k % 16)) = bt s k % 16 := kP (by omega) (by omega)
    constructor
    ·rw [fhD, i1, q1, q2, v1, v2, decide_eq_true (p := 0 ≤ bt s k / 16) (by omega), decide_eq_true (p := 0 ≤ bt s k % 16) (by omega)]; rfl
    ·rw [fhL, i2, q1, q2, v1, v2, List.range_succ, List.map_append]
     have : 16 * (bt s k / 16) + bt s k % 16 = bt s k := by omega
     rw [this]; rfl
  obtain ⟨k1, k2⟩ := hk s.size (Nat.le_refl _)
  have hh : (strOfNums (hxL s s.size)).size / 2 = s.size := by omega
  have hB : fhB (strOfNums (hxL s s.size)) = true := by
   rw [fhB, hd, hh, k1, decide_eq_true ⟨by omega, by omega, by omega⟩]; rfl
  exact ⟨hB, by rw [kJ hd hB, hh, k2, lG]⟩
end Go.Proofs.YtddjiamollfplaaGreatDoor
namespace Go.Proofs.YtddjiamollfplaaGreatDoor
open Go.RowKit
set_option linter.unusedVariables false
theorem gV {s : ByteArray} {a K : Nat} {M : List Int} (hM : M = dL 20 K []) (hz : K ≠ 0) (h20 : K < 10 ^ 20) (hs : s.size = a + M.length) (hb : ∀ k, k < M.length → bt s (a + k) = M.getD k 0) (ha : frN s = a) (ha1 : a ≤ 1) (ht : txI (if a = 1 then -(K : Int) else (K : Int)) = s) :
 nuB s = decide (K ≤ 999999999) ∧ nmX s = (if a = 1 then -(K : Int) else (K : Int)) := by
 have hd : ∀ z ∈ M, 48 ≤ z ∧ z ≤ 57 := by rw [hM]; exact df (fun z hz => nomatch hz)
 obtain ⟨v1, v2⟩ := jH hb hd M.length (Nat.le_refl _)
 have hv : nmV s a M.length = (K : Int) := by rw [v1, List.take_length, hM, kC h20]; rfl
 have hsz : s.size - a = M.length := by omega
 have hX : nmX s = (if a = 1 then -(K : Int) else (K : Int)) := by rw [nmX, ha, hsz, hv]
 obtain ⟨l0, l9⟩ := jv hz h20
 rw [← hM] at l0 l9
 refine ⟨?_, hX⟩
 have hq : ((txI (nmX s)).toList == s.toList) = true := by rw [hX, ht]; simp
 rw [nuB, ha, hsz, v2, hq]
 by_cases hk : K ≤ 999999999
 ·have h9 := l9.2 hk
  rw [decide_eq_true hk, decide_eq_true ⟨by omega, by omega⟩, decide_eq_true h9]; rfl
 ·have h9 : ¬ M.length ≤ 9 := fun q => hk (l9.1 q)
  rw [decide_eq_false hk, decide_eq_false h9]; simp
theorem gU (x : Int) (h0 : -9223372036854775808 ≤ x) (h1 : x ≤ 9223372036854775807) :
 nuB (txI x) = decide (-1000000000 < x ∧ x < 1000000000) ∧ (nuB (txI x) = true → nuI (txI x) = x) := by
 by_cases hz : x = 0
 ·subst hz
  have hX : nmX (txI 0) = 0 := by decide
  have hq : ((txI 0).toList == (txI 0).toList) = true := by simp
  have hB : nuB (txI 0) = true := by rw [nuB, hX, hq]; decide
  exact ⟨by rw [hB]; rfl, fun ht => by rw [fZ ht, hX]⟩
 ·by_cases hp : 0 < x
  ·obtain ⟨K, rfl⟩ := Int.eq_ofNat_of_zero_le (show 0 ≤ x by omega)
   have hK : K ≠ 0 := by omega
   have h20 : K < 10 ^ 20 := by omega
   have e : txI (K : Int) = strOfNums (dL 20 K []) := by rw [lO hK, eh]
   have hd := @df 20 K [] (fun z hz => nomatch hz)
   have hb : ∀ k, k < (dL 20 K []).length → bt (txI (K : Int)) (0 + k) = (dL 20 K []).getD k 0 := fun k hk => by
    rw [e, Nat.zero_add]; exact cj (fun z hz => by have := hd z hz; omega) hk
   have l0 := (jv hK h20).1
   have hf : frN (txI (K : Int)) = 0 := by
    have q := hb 0 l0
    rw [List.getD_eq_getElem?_getD, List.getElem?_eq_getElem l0] at q
    have z := hd _ (List.getElem_mem l0)
    rw [frN, if_neg (by simp at q; omega)]
   obtain ⟨r1, r2⟩ := gV (a := 0) rfl hK h20 (by rw [e, strOfNums_size]; omega) hb hf (by omega) rfl
   refine ⟨?_, fun ht => by rw [fZ ht, r2]; rfl⟩
   rw [r1, Bool.eq_iff_iff]; simp; omega
  ·obtain ⟨K, hKx⟩ := Int.eq_ofNat_of_zero_le (show 0 ≤ -x by omega)
   have hx : x = -(K : Int) := by omega
   subst hx
   have hK : K ≠ 0 := by omega
   have h20 : K < 10 ^ 20 := by omega
   have e : txI (-(K : Int)) = strOfNums (45 :: dL 20 K []) := by
    rw [lN hK, eh, ← iB]; rfl
   have hd := @df 20 K [] (fun z hz => nomatch hz)
   have hr : ∀ z ∈ (45 : Int) :: dL 20 K [], 0 ≤ z ∧ z ≤ 255 := fun z hz => by
    rcases List.mem_cons.1 hz with rfl | hz
    ·omega
    ·have := hd z hz; omega
   have hb : ∀ k, k < (dL 20 K []).length → bt (txI (-(K : Int))) (1 + k) = (dL 20 K []).getD k 0 := fun k hk => by
    rw [e, cj hr (by simp; omega), Nat.add_comm]; rfl
   have hf : frN (txI (-(K : Int))) = 1 := by
    rw [frN, if_pos]
    rw [e, cj hr (by simp)]; rfl
   obtain ⟨r1, r2⟩ := gV (a := 1) rfl hK h20 (by rw [e, strOfNums_size]; simp; omega) hb hf (by omega) rfl
   refine ⟨?_, fun ht => by rw [fZ ht, r2]; rfl⟩
   rw [r1, Bool.eq_iff_iff]; simp; omega
end Go.Proofs.YtddjiamollfplaaGreatDoor
