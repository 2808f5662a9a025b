/- What a script says, and a script that is cut at a byte. -/
import Derived.Test.YtddjiamollfplaaGreatDoorMC32
import Derived.Test.YtddjiamollfplaaGreatDoorMC42
namespace Go.Proofs.YtddjiamollfplaaGreatDoor
open Go.RowKit
set_option linter.unusedVariables false
def dx (x : ByteArray) : Prop := ∀ i, i < x.size → 32 ≤ bt x i
theorem kY {x : ByteArray} (h : dx x) : bF ((10 : UInt8).toNat : Int) x := fun i hi => by
 have := h i hi
 show bt x i ≠ 10
 omega
theorem gQ {L : List Int} (h : ∀ z ∈ L, 32 ≤ z ∧ z ≤ 255) : dx (strOfNums L) := fun i hi => by
 rw [strOfNums_size] at hi
 rw [cj (fun z hz => ⟨by have := h z hz; omega, (h z hz).2⟩) hi, List.getD_eq_getElem?_getD, List.getElem?_eq_getElem hi]
 exact (h _ (List.getElem_mem hi)).1
theorem dy {a b : ByteArray} (ha : dx a) (hb : dx b) : dx (a ++ b) := fun i hi => by
 by_cases h : i < a.size
 ·rw [fO h]; exact ha i h
 ·rw [ByteArray.size_append] at hi
  rw [show i = a.size + (i - a.size) by omega, cB]
  exact hb _ (by omega)
theorem dz {b : UInt8} (h : 32 ≤ (b.toNat : Int)) : dx ⟨#[b]⟩ := fun i hi => by
 have h0 : i = 0 := by
  have : i < 1 := hi
  omega
 subst h0
 exact h
theorem jB (K : Nat) : dx (dgs K) := by
 rw [eh]
 exact gQ fun z hz => by have := df (f := 20) (K := K) (L := []) (fun z hz => by cases hz) z hz; omega
theorem m7 (n : Int) : dx (txI n) := by
 unfold txI
 split
 ·exact dz (by decide)
 ·split
  ·exact dy (dz (by decide)) (jB _)
  ·exact jB _
theorem mj (s : ByteArray) : dx (aZ s) := by
 unfold aZ
 split
 ·intro i hi; exact absurd hi (Nat.not_lt_zero _)
 ·split
  ·exact dz (by decide)
  ·refine gQ fun z hz => ?_
   have q : ∀ n, ∀ z ∈ hxL s n, 32 ≤ z ∧ z ≤ 255 := by
    intro n
    induction n with
    | zero => intro z hz; cases hz
    | succ n ih =>
     intro z hz
     rw [hxL, List.mem_append] at hz
     rcases hz with hz | hz
     ·exact ih z hz
     ·obtain ⟨b0, b1⟩ := cP s n
      have q1 := cV (x := bt s n / 16) (by omega) (by omega)
      have q2 := cV (x := bt s n % 16) (by omega) (by omega)
      simp at hz
      rcases hz with rfl | rfl <;> omega
   exact q _ z hz
theorem mZ (K : Nat) (h : K ≤ 14) : dx (nmK (K : Int)) := by
 have q : ∀ K : Fin 15, ∀ i : Fin 8, i.val < (nmK (K.val : Int)).size → 32 ≤ bt (nmK (K.val : Int)) i.val := by decide +kernel
 have q2 : ∀ K : Fin 15, (nmK (K.val : Int)).size ≤ 8 := by decide +kernel
 exact fun i hi => q ⟨K, by omega⟩ ⟨i, Nat.lt_of_lt_of_le hi (q2 ⟨K, by omega⟩)⟩ hi
theorem jC (L : List Int) {o : ByteArray} (h : dx o) : ∀ i, dx (lnL L i o)
 | 0 => h
 | i + 1 => by
  rw [lnL]
  exact dy (dy (jC L h i) (dz (by decide))) (m7 _)
theorem m0 {x : OpD} (h : oB x = true) : dx (oL x) := by
 obtain ⟨⟨k1, k2⟩, _⟩ := g6 h
 obtain ⟨K, hK⟩ := Int.eq_ofNat_of_zero_le (show 0 ≤ x.k by omega)
 have hb : ∀ L, dx (olB L x.k) := fun L => by
  rw [olB, hK]
  exact jC L (mZ K (by omega)) _
 unfold oL olO
 split
 ·split
  ·exact dy (dy (hb _) (dz (by decide))) (mj _)
  ·exact hb _
 ·intro i hi; exact absurd hi (Nat.not_lt_zero _)
def lsN (XM : Nat → OpD) (n : Nat) : List ByteArray := (List.range n).map fun i => oL (XM i)
theorem jD (XM : Nat → OpD) (n : Nat) : (lsN XM n).length = n := by simp [lsN]
theorem m8 (XM : Nat → OpD) (n : Nat) {i : Nat} (h : i < n) : (lsN XM n)[i]? = some (oL (XM i)) := by simp [lsN, h]
theorem jR (XM : Nat → OpD) : ∀ n, scL XM n = bk 10 (lsN XM n)
 | 0 => rfl
 | n + 1 => by
  have e : lsN XM (n + 1) = lsN XM n ++ [oL (XM n)] := by simp [lsN, List.range_succ]
  rw [e, scL, jR XM n, fu, ← ByteArray.append_assoc]
  rfl
theorem eI {XM : Nat → OpD} {n : Nat} (ho : ∀ i, i < n → oB (XM i) = true) : av (scL XM n) 10 (scL XM n).size = ((scL XM n).size, lsN XM n) := by
 have hf : ∀ x ∈ lsN XM n, bF ((10 : UInt8).toNat : Int) x := fun x hx => by
  obtain ⟨i, hi, rfl⟩ := List.mem_map.1 hx
  exact kY (m0 (ho i (List.mem_range.1 hi)))
 have q := (js (c := 10) (L := lsN XM n) (r := ⟨#[]⟩) hf (fun i hi => absurd hi (Nat.not_lt_zero _))).1
 rw [jo] at q
 rw [jR]
 exact q
theorem kx {s : ByteArray} {m i : Nat} (h : i < m) (hm : m ≤ s.size) : bt (s.extract 0 m) i = bt s i := by
 have hi : i < min m s.data.size - 0 := by
  have : s.data.size = s.size := rfl
  omega
 unfold bt
 rw [ByteArray.data_extract, Array.getD_eq_getD_getElem?, Array.getD_eq_getD_getElem?, Array.getElem?_extract, if_pos hi, Nat.zero_add]
theorem me {s : ByteArray} {m a b : Nat} (h : b ≤ m) : (s.extract 0 m).extract a b = s.extract a b := by
 apply ByteArray.ext
 simp only [ByteArray.data_extract]
 rw [Array.extract_extract]
 congr 1 <;> omega
theorem gK {s : ByteArray} {c : Int} {m : Nat} (hm : m ≤ s.size) : ∀ i, i ≤ m → av (s.extract 0 m) c i = av s c i
 | 0, _ => rfl
 | i + 1, h => by
  have q := gK (s := s) (c := c) hm i (by omega)
  by_cases hb : bt s i = c
  ·rw [bH (s := s) hb, bH (s := s.extract 0 m) (by rw [kx (by omega) hm]; exact hb), q, me (by omega)]
  ·rw [cx (s := s) hb, cx (s := s.extract 0 m) (by rw [kx (by omega) hm]; exact hb), q]
theorem kz {s : ByteArray} {c : Int} {i : Nat} : (av s c (i + 1)).1 = i + 1 ↔ bt s i = c := by
 by_cases h : bt s i = c
 ·rw [bH h]; exact ⟨fun _ => h, fun _ => rfl⟩
 ·rw [cx h]
  have := (cv s c i).1
  exact ⟨fun e => by omega, fun e => absurd e h⟩
def bkD (XM : Nat → OpD) (m : Nat) : List OpD := (List.range m).map fun i => (paS (oL (XM i))).1
theorem jq (XM : Nat → OpD) (m : Nat) : (bkD XM m).length = m := by simp [bkD]
theorem dG (XM : Nat → OpD) {m i : Nat} (h : i < m) : gX (bkD XM m) i = (paS (oL (XM i))).1 := by
 unfold gX bkD
 rw [List.getD_eq_getElem?_getD]
 simp [h]
theorem eC {L : List ByteArray} {e : Nat} {XM : Nat → OpD} : ∀ m, m ≤ e → m ≤ 200 → (∀ i, i < m → L.getD i ⟨#[]⟩ = oL (XM i)) → (∀ i, i < m → oB (XM i) = true) → psF L e m = (bkD XM m, 0)
 | 0, _, _, _, _ => rfl
 | m + 1, h1, h2, h3, h4 => by
  have q := eC (L := L) (e := e) (XM := XM) m (by omega) (by omega) (fun i hi => h3 i (by omega)) (fun i hi => h4 i (by omega))
  rw [nf q (by omega) (by omega) (h3 m (by omega)) (jK (h4 m (by omega))).1]
  simp [bkD, List.range_succ]
theorem lD {XM : Nat → OpD} {n : Nat} (hn : n ≤ 200) (ho : ∀ i, i < n → oB (XM i) = true) (hs : (scL XM n).size ≤ 20000) (cut : Nat) (hc : cut ≤ (scL XM n).size) :
 (av (scL XM n) 10 cut).2.length ≤ n ∧ ∃ c, psS ((scL XM n).extract 0 cut) = (bkD XM (av (scL XM n) 10 cut).2.length, c) ∧ (c = 0 ↔ (av (scL XM n) 10 cut).1 = cut) := by
 have hall := eI ho
 obtain ⟨tt, ht⟩ := gL (scL XM n) 10 cut ((scL XM n).size - cut)
 rw [show cut + ((scL XM n).size - cut) = (scL XM n).size by omega, hall] at ht
 have ht : lsN XM n = (av (scL XM n) 10 cut).2 ++ tt := ht
 have hF := (cv (scL XM n) 10 cut).1
 have hE := gK (s := scL XM n) (c := 10) hc cut (Nat.le_refl _)
 have hl := jD XM n
 generalize scL XM n = s at *
 have hz : (s.extract 0 cut).size = cut := by rw [ByteArray.size_extract]; omega
 have hr : (dO (s.extract 0 cut)).size = cut - (av s 10 cut).1 := by
  unfold dO
  rw [hz, hE, ByteArray.size_extract, hz]
  omega
 have hps : psS (s.extract 0 cut) = psF (dw (s.extract 0 cut)) (av s 10 cut).2.length (dw (s.extract 0 cut)).length := by rw [jN (by omega), hz, hE]
 have hL : dw (s.extract 0 cut) = (av s 10 cut).2 ++ (if (dO (s.extract 0 cut)).size = 0 then [] else [dO (s.extract 0 cut)]) := by rw [dw, hz, hE]
 rw [hps, hL]
 clear hps hL hall
 generalize dO (s.extract 0 cut) = r at *
 generalize hG : (av s 10 cut).2 = G at *
 generalize (av s 10 cut).1 = F at *
 have hm : G.length ≤ n := by rw [← hl, ht, List.length_append]; omega
 refine ⟨hm, ?_⟩
 have hat : ∀ M : List ByteArray, ∀ i, i < G.length → (G ++ M).getD i ⟨#[]⟩ = oL (XM i) := fun M i hi => by
  have q := m8 XM n (i := i) (by omega)
  rw [ht, List.getElem?_append_left hi] at q
  rw [List.getD_eq_getElem?_getD, List.getElem?_append_left hi, q]
  rfl
 by_cases h : F = cut
 ·rw [if_pos (by rw [hr]; omega)]
  refine ⟨0, ?_, by simp [h]⟩
  rw [show (G ++ ([] : List ByteArray)).length = G.length by simp]
  exact eC G.length (Nat.le_refl _) (by omega) (hat []) (fun i hi => ho i (by omega))
 ·rw [if_neg (by rw [hr]; omega)]
  have q := eC (L := G ++ [r]) (e := G.length) (XM := XM) G.length (Nat.le_refl _) (by omega) (hat [r]) (fun i hi => ho i (by omega))
  rw [show (G ++ [r]).length = G.length + 1 by simp]
  by_cases h2 : G.length = 200
  ·exact ⟨1, lm q h2, by simp [h]⟩
  ·exact ⟨7, ms q h2 (by omega), by simp [h]⟩
theorem lE {XM : Nat → OpD} {n : Nat} (hn : n ≤ 200) (ho : ∀ i, i < n → oB (XM i) = true) (hs : (scL XM n).size ≤ 20000) : psS (scL XM n) = (bkD XM n, 0) := by
 obtain ⟨_, c, h2, h3⟩ := lD hn ho hs (scL XM n).size (Nat.le_refl _)
 rw [eI ho] at h2 h3
 have e : (scL XM n).extract 0 (scL XM n).size = scL XM n := by
  apply ByteArray.ext
  rw [ByteArray.data_extract]
  exact Array.extract_size
 rw [e] at h2
 have hc : c = 0 := h3.2 rfl
 rw [h2, hc]
 show (bkD XM (lsN XM n).length, (0 : Int)) = _
 rw [jD]

end Go.Proofs.YtddjiamollfplaaGreatDoor
