/- What a script says, and a script that is cut at a byte. -/
import Derived.Test.YtddjiamollfplaaGreatDoorMC32
import Derived.Test.YtddjiamollfplaaGreatDoorMC42
namespace Go.Proofs.YtddjiamollfplaaGreatDoor
open Go.RowKit
set_option linter.unusedVariables false
def dy (x : ByteArray) : Prop := ∀ i, i < x.size → 32 ≤ bt x i
theorem kZ {x : ByteArray} (h : dy x) : bG ((10 : UInt8).toNat : Int) x := fun i hi => by
 have := h i hi
 show bt x i ≠ 10
 omega
theorem gR {L : List Int} (h : ∀ z ∈ L, 32 ≤ z ∧ z ≤ 255) : dy (strOfNums L) := fun i hi => by
 rw [strOfNums_size] at hi
 rw [ck (fun z hz => ⟨by have := h z hz; omega, (h z hz).2⟩) hi, List.getD_eq_getElem?_getD, List.getElem?_eq_getElem hi]
 exact (h _ (List.getElem_mem hi)).1
theorem dz {a b : ByteArray} (ha : dy a) (hb : dy b) : dy (a ++ b) := fun i hi => by
 by_cases h : i < a.size
 ·rw [fP h]; exact ha i h
 ·rw [ByteArray.size_append] at hi
  rw [show i = a.size + (i - a.size) by omega, cC]
  exact hb _ (by omega)
theorem dA {b : UInt8} (h : 32 ≤ (b.toNat : Int)) : dy ⟨#[b]⟩ := fun i hi => by
 have h0 : i = 0 := by
  have : i < 1 := hi
  omega
 subst h0
 exact h
theorem jC (K : Nat) : dy (dgs K) := by
 rw [ek]
 exact gR fun z hz => by have := dg (f := 20) (K := K) (L := []) (fun z hz => by cases hz) z hz; omega
theorem m8 (n : Int) : dy (txI n) := by
 unfold txI
 split
 ·exact dA (by decide)
 ·split
  ·exact dz (dA (by decide)) (jC _)
  ·exact jC _
theorem ml (s : ByteArray) : dy (bd s) := by
 unfold bd
 split
 ·intro i hi; exact absurd hi (Nat.not_lt_zero _)
 ·split
  ·exact dA (by decide)
  ·refine gR fun z hz => ?_
   have q : ∀ n, ∀ z ∈ hxL s n, 32 ≤ z ∧ z ≤ 255 := by
    intro n
    induction n with
    | zero => intro z hz; cases hz
    | succ n ih =>
     intro z hz
     rw [hxL, List.mem_append] at hz
     rcases hz with hz | hz
     ·exact ih z hz
     ·obtain ⟨b0, b1⟩ := cQ s n
      have q1 := cW (x := bt s n / 16) (by omega) (by omega)
      have q2 := cW (x := bt s n % 16) (by omega) (by omega)
      simp at hz
      rcases hz with rfl | rfl <;> omega
   exact q _ z hz
theorem m0 (K : Nat) (h : K ≤ 14) : dy (nmK (K : Int)) := by
 have q : ∀ K : Fin 15, ∀ i : Fin 8, i.val < (nmK (K.val : Int)).size → 32 ≤ bt (nmK (K.val : Int)) i.val := by decide +kernel
 have q2 : ∀ K : Fin 15, (nmK (K.val : Int)).size ≤ 8 := by decide +kernel
 exact fun i hi => q ⟨K, by omega⟩ ⟨i, Nat.lt_of_lt_of_le hi (q2 ⟨K, by omega⟩)⟩ hi
theorem jD (L : List Int) {o : ByteArray} (h : dy o) : ∀ i, dy (lnL L i o)
 | 0 => h
 | i + 1 => by
  rw [lnL]
  exact dz (dz (jD L h i) (dA (by decide))) (m8 _)
theorem m7 {x : OpD} (h : oB x = true) : dy (oL x) := by
 obtain ⟨⟨k1, k2⟩, _⟩ := g7 h
 obtain ⟨K, hK⟩ := Int.eq_ofNat_of_zero_le (show 0 ≤ x.k by omega)
 have hb : ∀ L, dy (olB L x.k) := fun L => by
  rw [olB, hK]
  exact jD L (m0 K (by omega)) _
 unfold oL olO
 split
 ·split
  ·exact dz (dz (hb _) (dA (by decide))) (ml _)
  ·exact hb _
 ·intro i hi; exact absurd hi (Nat.not_lt_zero _)
def lsN (XM : Nat → OpD) (n : Nat) : List ByteArray := (List.range n).map fun i => oL (XM i)
theorem jE (XM : Nat → OpD) (n : Nat) : (lsN XM n).length = n := by simp [lsN]
theorem m9 (XM : Nat → OpD) (n : Nat) {i : Nat} (h : i < n) : (lsN XM n)[i]? = some (oL (XM i)) := by simp [lsN, h]
theorem jS (XM : Nat → OpD) : ∀ n, scL XM n = bm 10 (lsN XM n)
 | 0 => rfl
 | n + 1 => by
  have e : lsN XM (n + 1) = lsN XM n ++ [oL (XM n)] := by simp [lsN, List.range_succ]
  rw [e, scL, jS XM n, fw, ← ByteArray.append_assoc]
  rfl
theorem eJ {XM : Nat → OpD} {n : Nat} (ho : ∀ i, i < n → oB (XM i) = true) : av (scL XM n) 10 (scL XM n).size = ((scL XM n).size, lsN XM n) := by
 have hf : ∀ x ∈ lsN XM n, bG ((10 : UInt8).toNat : Int) x := fun x hx => by
  obtain ⟨i, hi, rfl⟩ := List.mem_map.1 hx
  exact kZ (m7 (ho i (List.mem_range.1 hi)))
 have q := (jt (c := 10) (L := lsN XM n) (r := ⟨#[]⟩) hf (fun i hi => absurd hi (Nat.not_lt_zero _))).1
 rw [jp] at q
 rw [jS]
 exact q
theorem ky {s : ByteArray} {m i : Nat} (h : i < m) (hm : m ≤ s.size) : bt (s.extract 0 m) i = bt s i := by
 have hi : i < min m s.data.size - 0 := by
  have : s.data.size = s.size := rfl
  omega
 unfold bt
 rw [ByteArray.data_extract, Array.getD_eq_getD_getElem?, Array.getD_eq_getD_getElem?, Array.getElem?_extract, if_pos hi, Nat.zero_add]
theorem mf {s : ByteArray} {m a b : Nat} (h : b ≤ m) : (s.extract 0 m).extract a b = s.extract a b := by
 apply ByteArray.ext
 simp only [ByteArray.data_extract]
 rw [Array.extract_extract]
 congr 1 <;> omega
theorem gL {s : ByteArray} {c : Int} {m : Nat} (hm : m ≤ s.size) : ∀ i, i ≤ m → av (s.extract 0 m) c i = av s c i
 | 0, _ => rfl
 | i + 1, h => by
  have q := gL (s := s) (c := c) hm i (by omega)
  by_cases hb : bt s i = c
  ·rw [bI (s := s) hb, bI (s := s.extract 0 m) (by rw [ky (by omega) hm]; exact hb), q, mf (by omega)]
  ·rw [cy (s := s) hb, cy (s := s.extract 0 m) (by rw [ky (by omega) hm]; exact hb), q]
theorem kA {s : ByteArray} {c : Int} {i : Nat} : (av s c (i + 1)).1 = i + 1 ↔ bt s i = c := by
 by_cases h : bt s i = c
 ·rw [bI h]; exact ⟨fun _ => h, fun _ => rfl⟩
 ·rw [cy h]
  have := (cx s c i).1
  exact ⟨fun e => by omega, fun e => absurd e h⟩
def bkD (XM : Nat → OpD) (m : Nat) : List OpD := (List.range m).map fun i => (paS (oL (XM i))).1
theorem jr (XM : Nat → OpD) (m : Nat) : (bkD XM m).length = m := by simp [bkD]
theorem dH (XM : Nat → OpD) {m i : Nat} (h : i < m) : gX (bkD XM m) i = (paS (oL (XM i))).1 := by
 unfold gX bkD
 rw [List.getD_eq_getElem?_getD]
 simp [h]
theorem eD {L : List ByteArray} {e : Nat} {XM : Nat → OpD} : ∀ m, m ≤ e → m ≤ 200 → (∀ i, i < m → L.getD i ⟨#[]⟩ = oL (XM i)) → (∀ i, i < m → oB (XM i) = true) → psF L e m = (bkD XM m, 0)
 | 0, _, _, _, _ => rfl
 | m + 1, h1, h2, h3, h4 => by
  have q := eD (L := L) (e := e) (XM := XM) m (by omega) (by omega) (fun i hi => h3 i (by omega)) (fun i hi => h4 i (by omega))
  rw [ng q (by omega) (by omega) (h3 m (by omega)) (jL (h4 m (by omega))).1]
  simp [bkD, List.range_succ]
theorem lE {XM : Nat → OpD} {n : Nat} (hn : n ≤ 200) (ho : ∀ i, i < n → oB (XM i) = true) (hs : (scL XM n).size ≤ 20000) (cut : Nat) (hc : cut ≤ (scL XM n).size) :
 (av (scL XM n) 10 cut).2.length ≤ n ∧ ∃ c, psS ((scL XM n).extract 0 cut) = (bkD XM (av (scL XM n) 10 cut).2.length, c) ∧ (c = 0 ↔ (av (scL XM n) 10 cut).1 = cut) := by
 have hall := eJ ho
 obtain ⟨tt, ht⟩ := gM (scL XM n) 10 cut ((scL XM n).size - cut)
 rw [show cut + ((scL XM n).size - cut) = (scL XM n).size by omega, hall] at ht
 have ht : lsN XM n = (av (scL XM n) 10 cut).2 ++ tt := ht
 have hF := (cx (scL XM n) 10 cut).1
 have hE := gL (s := scL XM n) (c := 10) hc cut (Nat.le_refl _)
 have hl := jE XM n
 generalize scL XM n = s at *
 have hz : (s.extract 0 cut).size = cut := by rw [ByteArray.size_extract]; omega
 have hr : (dP (s.extract 0 cut)).size = cut - (av s 10 cut).1 := by
  unfold dP
  rw [hz, hE, ByteArray.size_extract, hz]
  omega
 have hps : psS (s.extract 0 cut) = psF (dx (s.extract 0 cut)) (av s 10 cut).2.length (dx (s.extract 0 cut)).length := by rw [jO (by omega), hz, hE]
 have hL : dx (s.extract 0 cut) = (av s 10 cut).2 ++ (if (dP (s.extract 0 cut)).size = 0 then [] else [dP (s.extract 0 cut)]) := by rw [dx, hz, hE]
 rw [hps, hL]
 clear hps hL hall
 generalize dP (s.extract 0 cut) = r at *
 generalize hG : (av s 10 cut).2 = G at *
 generalize (av s 10 cut).1 = F at *
 have hm : G.length ≤ n := by rw [← hl, ht, List.length_append]; omega
 refine ⟨hm, ?_⟩
 have hat : ∀ M : List ByteArray, ∀ i, i < G.length → (G ++ M).getD i ⟨#[]⟩ = oL (XM i) := fun M i hi => by
  have q := m9 XM n (i := i) (by omega)
  rw [ht, List.getElem?_append_left hi] at q
  rw [List.getD_eq_getElem?_getD, List.getElem?_append_left hi, q]
  rfl
 by_cases h : F = cut
 ·rw [if_pos (by rw [hr]; omega)]
  refine ⟨0, ?_, by simp [h]⟩
  rw [show (G ++ ([] : List ByteArray)).length = G.length by simp]
  exact eD G.length (Nat.le_refl _) (by omega) (hat []) (fun i hi => ho i (by omega))
 ·rw [if_neg (by rw [hr]; omega)]
  have q := eD (L := G ++ [r]) (e := G.length) (XM := XM) G.length (Nat.le_refl _) (by omega) (hat [r]) (fun i hi => ho i (by omega))
  rw [show (G ++ [r]).length = G.length + 1 by simp]
  by_cases h2 : G.length = 200
  ·exact ⟨1, lp q h2, by simp [h]⟩
  ·exact ⟨7, mt q h2 (by omega), by simp [h]⟩
theorem lF {XM : Nat → OpD} {n : Nat} (hn : n ≤ 200) (ho : ∀ i, i < n → oB (XM i) = true) (hs : (scL XM n).size ≤ 20000) : psS (scL XM n) = (bkD XM n, 0) := by
 obtain ⟨_, c, h2, h3⟩ := lE hn ho hs (scL XM n).size (Nat.le_refl _)
 rw [eJ ho] at h2 h3
 have e : (scL XM n).extract 0 (scL XM n).size = scL XM n := by
  apply ByteArray.ext
  rw [ByteArray.data_extract]
  exact Array.extract_size
 rw [e] at h2
 have hc : c = 0 := h3.2 rfl
 rw [h2, hc]
 show (bkD XM (lsN XM n).length, (0 : Int)) = _
 rw [jE]

end Go.Proofs.YtddjiamollfplaaGreatDoor
