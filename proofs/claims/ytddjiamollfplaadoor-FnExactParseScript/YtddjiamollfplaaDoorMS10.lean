/- Numbers of texts: what is written is read as it was. Numbers of texts: a number is read from its own text. -/
import Derived.Test.YtddjiamollfplaaDoorMS9
namespace Go.Proofs.YtddjiamollfplaaDoor
open Go.RowKit
set_option linter.unusedVariables false
theorem bt_strOf {L : List Int} (h : ∀ z ∈ L, 0 ≤ z ∧ z ≤ 255) {i : Nat} (hi : i < L.length) : bt (strOfNums L) i = L.getD i 0 := by
 have hz := h L[i] (List.getElem_mem hi)
 have hlt : L[i].toNat < 256 := by omega
 have e : (strOfNums L).data.getD i 0 = UInt8.ofNat L[i].toNat := by
  rw [strOfNums, Array.getD_eq_getD_getElem?]
  simp [List.getElem?_map, List.getElem?_eq_getElem hi]
 unfold bt
 rw [e, List.getD_eq_getElem?_getD, List.getElem?_eq_getElem hi]
 show ((UInt8.ofNat L[i].toNat).toNat : Int) = L[i]
 rw [UInt8.toNat_ofNat', Nat.mod_eq_of_lt (by simpa using hlt)]
 omega
end Go.Proofs.YtddjiamollfplaaDoor
namespace Go.Proofs.YtddjiamollfplaaDoor
open Go.RowKit
set_option linter.unusedVariables false
theorem num_list {s : ByteArray} {a K : Nat} {M : List Int} (hM : M = dL 20 K []) (hz : K ≠ 0) (h20 : K < 10 ^ 20) (hs : s.size = a + M.length) (hb : ∀ k, k < M.length → bt s (a + k) = M.getD k 0) (ha : frN s = a) (ha1 : a ≤ 1) (ht : txI (if a = 1 then -(K : Int) else (K : Int)) = s) :
 nuB s = decide (K ≤ 999999999) ∧ nmX s = (if a = 1 then -(K : Int) else (K : Int)) := by
 have hd : ∀ z ∈ M, 48 ≤ z ∧ z ≤ 57 := by rw [hM]; exact dL_dig (fun z hz => nomatch hz)
 obtain ⟨v1, v2⟩ := nm_list hb hd M.length (Nat.le_refl _)
 have hv : nmV s a M.length = (K : Int) := by rw [v1, List.take_length, hM, dL_ev h20]; rfl
 have hsz : s.size - a = M.length := by omega
 have hX : nmX s = (if a = 1 then -(K : Int) else (K : Int)) := by rw [nmX, ha, hsz, hv]
 obtain ⟨l0, l9⟩ := dig_few hz h20
 rw [← hM] at l0 l9
 refine ⟨?_, hX⟩
 have hq : ((txI (nmX s)).toList == s.toList) = true := by rw [hX, ht]; simp
 rw [nuB, ha, hsz, v2, hq]
 by_cases hk : K ≤ 999999999
 ·have h9 := l9.2 hk
  rw [decide_eq_true hk, decide_eq_true ⟨by omega, by omega⟩, decide_eq_true h9]; rfl
 ·have h9 : ¬ M.length ≤ 9 := fun q => hk (l9.1 q)
  rw [decide_eq_false hk, decide_eq_false h9]; simp
theorem num_back (x : Int) (h0 : -9223372036854775808 ≤ x) (h1 : x ≤ 9223372036854775807) :
 nuB (txI x) = decide (-1000000000 < x ∧ x < 1000000000) ∧ (nuB (txI x) = true → nuI (txI x) = x) := by
 by_cases hz : x = 0
 ·subst hz
  have hX : nmX (txI 0) = 0 := by decide
  have hq : ((txI 0).toList == (txI 0).toList) = true := by simp
  have hB : nuB (txI 0) = true := by rw [nuB, hX, hq]; decide
  exact ⟨by rw [hB]; rfl, fun ht => by rw [nu_yes ht, hX]⟩
 ·by_cases hp : 0 < x
  ·obtain ⟨K, rfl⟩ := Int.eq_ofNat_of_zero_le (show 0 ≤ x by omega)
   have hK : K ≠ 0 := by omega
   have h20 : K < 10 ^ 20 := by omega
   have e : txI (K : Int) = strOfNums (dL 20 K []) := by rw [txI_p hK, dgs_eq]
   have hd := @dL_dig 20 K [] (fun z hz => nomatch hz)
   have hb : ∀ k, k < (dL 20 K []).length → bt (txI (K : Int)) (0 + k) = (dL 20 K []).getD k 0 := fun k hk => by
    rw [e, Nat.zero_add]; exact bt_strOf (fun z hz => by have := hd z hz; omega) hk
   have l0 := (dig_few hK h20).1
   have hf : frN (txI (K : Int)) = 0 := by
    have q := hb 0 l0
    rw [List.getD_eq_getElem?_getD, List.getElem?_eq_getElem l0] at q
    have z := hd _ (List.getElem_mem l0)
    rw [frN, if_neg (by simp at q; omega)]
   obtain ⟨r1, r2⟩ := num_list (a := 0) rfl hK h20 (by rw [e, strOfNums_size]; omega) hb hf (by omega) rfl
   refine ⟨?_, fun ht => by rw [nu_yes ht, r2]; rfl⟩
   rw [r1, Bool.eq_iff_iff]; simp; omega
  ·obtain ⟨K, hKx⟩ := Int.eq_ofNat_of_zero_le (show 0 ≤ -x by omega)
   have hx : x = -(K : Int) := by omega
   subst hx
   have hK : K ≠ 0 := by omega
   have h20 : K < 10 ^ 20 := by omega
   have e : txI (-(K : Int)) = strOfNums (45 :: dL 20 K []) := by
    rw [txI_n hK, dgs_eq, ← str_cons]; rfl
   have hd := @dL_dig 20 K [] (fun z hz => nomatch hz)
   have hr : ∀ z ∈ (45 : Int) :: dL 20 K [], 0 ≤ z ∧ z ≤ 255 := fun z hz => by
    rcases List.mem_cons.1 hz with rfl | hz
    ·omega
    ·have := hd z hz; omega
   have hb : ∀ k, k < (dL 20 K []).length → bt (txI (-(K : Int))) (1 + k) = (dL 20 K []).getD k 0 := fun k hk => by
    rw [e, bt_strOf hr (by simp; omega), Nat.add_comm]; rfl
   have hf : frN (txI (-(K : Int))) = 1 := by
    rw [frN, if_pos]
    rw [e, bt_strOf hr (by simp)]; rfl
   obtain ⟨r1, r2⟩ := num_list (a := 1) rfl hK h20 (by rw [e, strOfNums_size]; simp; omega) hb hf (by omega) rfl
   refine ⟨?_, fun ht => by rw [nu_yes ht, r2]; rfl⟩
   rw [r1, Bool.eq_iff_iff]; simp; omega
end Go.Proofs.YtddjiamollfplaaDoor
