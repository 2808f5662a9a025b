/- Numbers of texts: what is written is read as it was. -/
import Derived.Test.YtddjiamollfplaaDoorX213
import Derived.WalkKit
import Derived.WalkSpells
import Derived.WalkLawsBesides
import Derived.Deep.RegionHeld
namespace Go.Proofs.YtddjiamollfplaaDoor
open Go.RowKit
set_option linter.unusedVariables false
theorem bt_strOf {L : List Int} (h : ∀ z ∈ L, 0 ≤ z ∧ z ≤ 255) {i : Nat} (hi : i < L.length) : bt (strOfNums L) i = L.getD i 0 := by
  have hz := h L[i] (List.getElem_mem hi)
  have hlt : L[i].toNat < 256 := by omega
  have e : (strOfNums L).data.getD i 0 = UInt8.ofNat L[i].toNat := by
    rw [strOfNums, Array.getD_eq_getD_getElem?]
    simp [List.getElem?_map, List.getElem?_eq_getElem hi]
  unfold bt
  rw [e, List.getD_eq_getElem?_getD, List.getElem?_eq_getElem hi]
  show ((UInt8.ofNat L[i].toNat).toNat : Int) = L[i]
  rw [UInt8.toNat_ofNat', Nat.mod_eq_of_lt (by simpa using hlt)]
  omega
theorem two_at {L : List Int} {a b : Int} {n : Nat} (hn : L.length = n) : (L ++ [a, b]).getD n 0 = a ∧ (L ++ [a, b]).getD (n + 1) 0 = b := by
  subst hn
  constructor <;> simp [List.getD_eq_getElem?_getD]
theorem old_at {L M : List Int} {i : Nat} (hi : i < L.length) : (L ++ M).getD i 0 = L.getD i 0 := by
  rw [List.getD_eq_getElem?_getD, List.getD_eq_getElem?_getD, List.getElem?_append_left hi]
theorem hxL_at (s : ByteArray) : ∀ {n k : Nat}, k < n → (hxL s n).getD (2 * k) 0 = hxD (bt s k / 16) ∧ (hxL s n).getD (2 * k + 1) 0 = hxD (bt s k % 16)
  | 0, _, h => absurd h (Nat.not_lt_zero _)
  | n + 1, k, h => by
    have hl := hxL_len s n
    by_cases e : k = n
    · subst e; rw [hxL]; exact two_at hl
    · have hk : k < n := by omega
      rw [hxL, old_at (by omega), old_at (by omega)]
      exact hxL_at s hk
theorem hxL_rng (s : ByteArray) : ∀ n, ∀ z ∈ hxL s n, 0 ≤ z ∧ z ≤ 255
  | 0, z, h => nomatch h
  | n + 1, z, h => by
    rw [hxL, List.mem_append] at h
    rcases h with h | h
    · exact hxL_rng s n z h
    · obtain ⟨b0, b1⟩ := bt_rng s n
      have q1 := hxD_rng (x := bt s n / 16) (by omega) (by omega)
      have q2 := hxD_rng (x := bt s n % 16) (by omega) (by omega)
      simp at h
      rcases h with rfl | rfl <;> omega
theorem str_self (s : ByteArray) : strOfNums ((List.range s.size).map (bt s)) = s := by
  have e : (List.range s.size).map (bt s) = s.data.toList.map fun b => (b.toNat : Int) := by
    apply List.ext_getElem?
    intro i
    by_cases hi : i < s.size
    · have hi' : i < s.data.size := hi
      rw [List.getElem?_map, List.getElem?_range hi, List.getElem?_map, Array.getElem?_toList, Array.getElem?_eq_getElem hi']
      show some (bt s i) = some _
      unfold bt
      rw [Array.getD_eq_getD_getElem?, Array.getElem?_eq_getElem hi']
      rfl
    · have hi' : ¬ i < s.data.size := hi
      rw [List.getElem?_eq_none (by simp; omega), List.getElem?_eq_none (by simp; omega)]
  rw [e, strOfNums, List.map_map]
  obtain ⟨⟨d⟩⟩ := s
  have e2 : ((fun n : Int => UInt8.ofNat n.toNat) ∘ fun b : UInt8 => (b.toNat : Int)) = id := by
    funext b
    simp
  simp only [e2, List.map_id]
/- What HexOf writes FromHex reads. -/
theorem hex_back (s : ByteArray) (h : s.size ≤ 64) : fhB (hexO s) = true ∧ fhO (hexO s) = s := by
  by_cases h0 : s.size = 0
  · have e : hexO s = ⟨#[45]⟩ := by rw [hexO, if_neg (by omega), if_pos h0]
    have hd : dashB (⟨#[45]⟩ : ByteArray) = true := by unfold dashB; rw [ByteArray.toList_eq]; rfl
    have es : s = ⟨#[]⟩ := by
      obtain ⟨d⟩ := s
      have : d = #[] := Array.eq_empty_of_size_eq_zero h0
      rw [this]
    rw [e]
    exact ⟨by rw [fhB, hd]; rfl, by rw [fhO, hd]; exact es.symm⟩
  · have e : hexO s = strOfNums (hxL s s.size) := by rw [hexO, if_neg (by omega), if_neg h0]
    rw [e]
    have hs : (strOfNums (hxL s s.size)).size = 2 * s.size := by rw [strOfNums_size, hxL_len]
    have hd : dashB (strOfNums (hxL s s.size)) = false := by
      unfold dashB
      rw [beq_eq_false_iff_ne]
      intro q
      have := congrArg List.length q
      rw [ba_len, hs] at this
      simp at this
      omega
    have hb : ∀ k, k < s.size → bt (strOfNums (hxL s s.size)) (2 * k) = hxD (bt s k / 16) ∧ bt (strOfNums (hxL s s.size)) (2 * k + 1) = hxD (bt s k % 16) := fun k hk => by
      have hl := hxL_len s s.size
      obtain ⟨q1, q2⟩ := hxL_at s hk
      rw [bt_strOf (hxL_rng s _) (by omega), bt_strOf (hxL_rng s _) (by omega)]
      exact ⟨q1, q2⟩
    have hk : ∀ k, k ≤ s.size → fhD (strOfNums (hxL s s.size)) k = true ∧ fhL (strOfNums (hxL s s.size)) k = (List.range k).map (bt s) := by
      intro k
      induction k with
      | zero => exact fun _ => ⟨rfl, rfl⟩
      | succ k ih =>
        intro hle
        obtain ⟨i1, i2⟩ := ih (by omega)
        obtain ⟨q1, q2⟩ := hb k (by omega)
        obtain ⟨b0, b1⟩ := bt_rng s k
        have v1 : vlI (hxD (bt s k / 16)) = bt s k / 16 := hxD_vl (by omega) (by omega)
        have v2 : vlI (hxD (bt s k % 16)) = bt s k % 16 := hxD_vl (by omega) (by omega)
        constructor
        · rw [fhD, i1, q1, q2, v1, v2, decide_eq_true (p := 0 ≤ bt s k / 16) (by omega), decide_eq_true (p := 0 ≤ bt s k % 16) (by omega)]; rfl
        · rw [fhL, i2, q1, q2, v1, v2, List.range_succ, List.map_append]
          have : 16 * (bt s k / 16) + bt s k % 16 = bt s k := by omega
          rw [this]; rfl
    obtain ⟨k1, k2⟩ := hk s.size (Nat.le_refl _)
    have hh : (strOfNums (hxL s s.size)).size / 2 = s.size := by omega
    have hB : fhB (strOfNums (hxL s s.size)) = true := by
      rw [fhB, hd, hh, k1, decide_eq_true ⟨by omega, by omega, by omega⟩]; rfl
    exact ⟨hB, by rw [fh_yes hd hB, hh, k2, str_self]⟩
end Go.Proofs.YtddjiamollfplaaDoor
