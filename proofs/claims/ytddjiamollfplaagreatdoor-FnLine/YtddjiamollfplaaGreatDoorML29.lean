/- What a line says as an op. -/
import Derived.Test.YtddjiamollfplaaGreatDoorML27
import Derived.Test.YtddjiamollfplaaGreatDoorML28
namespace Go.Proofs.YtddjiamollfplaaGreatDoor
open Go.RowKit
set_option linter.unusedVariables false

def kdL (t : ByteArray) : Nat → Nat
 | 0 => 0
 | k + 1 => if (t.toList == (nmK ((k + 1 : Nat) : Int)).toList) = true then k + 1 else kdL t k
theorem kdL_le (t : ByteArray) : ∀ k, kdL t k ≤ k
 | 0 => Nat.le_refl _
 | k + 1 => by
  have q := kdL_le t k
  unfold kdL
  split <;> omega
def rdF (W : List ByteArray) (tb : Bool) : Nat → List Int × ByteArray × Int
 | 0 => ([], ⟨#[]⟩, 0)
 | j + 1 => if (rdF W tb j).2.2 = 0 then
  (if tb = true ∧ j + 1 = W.length - 1 then (if fhB (W.getD (j + 1) ⟨#[]⟩) = true then ((rdF W tb j).1, fhO (W.getD (j + 1) ⟨#[]⟩), 0) else ((rdF W tb j).1, (rdF W tb j).2.1, 5))
   else (if nuB (W.getD (j + 1) ⟨#[]⟩) = true then ((rdF W tb j).1 ++ [nuI (W.getD (j + 1) ⟨#[]⟩)], (rdF W tb j).2.1, 0) else ((rdF W tb j).1, (rdF W tb j).2.1, 4)))
  else rdF W tb j
theorem rdF_text {W : List ByteArray} {j : Nat} (h0 : (rdF W true j).2.2 = 0) (hj : j + 1 = W.length - 1) : rdF W true (j + 1) = if fhB (W.getD (j + 1) ⟨#[]⟩) = true then ((rdF W true j).1, fhO (W.getD (j + 1) ⟨#[]⟩), 0) else ((rdF W true j).1, (rdF W true j).2.1, 5) := by
 rw [rdF, if_pos h0, if_pos ⟨rfl, hj⟩]
theorem rdF_num {W : List ByteArray} {tb : Bool} {j : Nat} (h0 : (rdF W tb j).2.2 = 0) (hj : ¬ (tb = true ∧ j + 1 = W.length - 1)) : rdF W tb (j + 1) = if nuB (W.getD (j + 1) ⟨#[]⟩) = true then ((rdF W tb j).1 ++ [nuI (W.getD (j + 1) ⟨#[]⟩)], (rdF W tb j).2.1, 0) else ((rdF W tb j).1, (rdF W tb j).2.1, 4) := by
 rw [rdF, if_pos h0, if_neg hj]
theorem rdF_bad {W : List ByteArray} {tb : Bool} {j : Nat} (h0 : (rdF W tb j).2.2 ≠ 0) : ∀ d, rdF W tb (j + d) = rdF W tb j
 | 0 => rfl
 | d + 1 => by
  have q := rdF_bad h0 d
  rw [← Nat.add_assoc, rdF, if_neg (by rw [q]; exact h0)]
  exact q
theorem rdF_len (W : List ByteArray) (tb : Bool) : ∀ j, (rdF W tb j).2.2 = 0 → (rdF W tb j).1.length = j - (if tb = true ∧ W.length - 1 ≤ j ∧ 0 < j ∧ 2 ≤ W.length then 1 else 0) ∨ W.length ≤ j
 | 0, _ => .inl (by rw [if_neg (by omega)]; rfl)
 | j + 1, h => by
  by_cases h0 : (rdF W tb j).2.2 = 0
  ·rcases rdF_len W tb j h0 with q | q
   ·by_cases hj : tb = true ∧ j + 1 = W.length - 1
    ·left
     have hjj := hj
     obtain ⟨rfl, hj⟩ := hj
     rw [rdF_text h0 hj] at h ⊢
     split at h
     ·rename_i hf
      rw [if_pos hf]
      show (rdF W true j).1.length = _
      rw [q, if_neg (by omega), if_pos ⟨rfl, by omega, by omega, by omega⟩]
      omega
     ·simp at h
    ·by_cases hW : W.length ≤ j + 1
     ·exact .inr hW
     ·left
      rw [rdF_num h0 hj] at h ⊢
      split at h
      ·rename_i hf
       rw [if_pos hf]
       show ((rdF W tb j).1 ++ [_]).length = _
       rw [List.length_append, q]
       show _ + 1 = _
       have e : ¬ (tb = true ∧ W.length - 1 ≤ j + 1 ∧ 0 < j + 1 ∧ 2 ≤ W.length) := fun ⟨a, b, _, c⟩ => hj ⟨a, by omega⟩
       rw [if_neg e, if_neg (by intro ⟨a, b, _, c⟩; omega)]
       omega
      ·simp at h
   ·exact .inr (by omega)
  ·rw [show rdF W tb (j + 1) = rdF W tb j from rdF_bad h0 1] at h
   exact absurd h h0
def mOk (k n : Nat) : Bool := if k = 1 then decide (2 ≤ n ∧ n ≤ 10) else decide (n = cnK (k : Int) + 1 + (if opT (k : Int) = true then 1 else 0))
def zOp0 : OpD := ⟨0, 0, 0, 0, 0, ⟨#[]⟩, 0, fun _ => 0⟩
def paW (W : List ByteArray) : OpD × Int :=
 if kdL (W.getD 0 ⟨#[]⟩) 14 = 0 then (zOp0, 2)
 else if mOk (kdL (W.getD 0 ⟨#[]⟩) 14) W.length = true then
  (if (rdF W (opT (kdL (W.getD 0 ⟨#[]⟩) 14 : Int)) (W.length - 1)).2.2 = 0 then
   (if oB (opZ (kdL (W.getD 0 ⟨#[]⟩) 14 : Int) (rdF W (opT (kdL (W.getD 0 ⟨#[]⟩) 14 : Int)) (W.length - 1)).1 (rdF W (opT (kdL (W.getD 0 ⟨#[]⟩) 14 : Int)) (W.length - 1)).2.1) = true then (opZ (kdL (W.getD 0 ⟨#[]⟩) 14 : Int) (rdF W (opT (kdL (W.getD 0 ⟨#[]⟩) 14 : Int)) (W.length - 1)).1 (rdF W (opT (kdL (W.getD 0 ⟨#[]⟩) 14 : Int)) (W.length - 1)).2.1, 0) else (zOp0, 6))
   else (zOp0, (rdF W (opT (kdL (W.getD 0 ⟨#[]⟩) 14 : Int)) (W.length - 1)).2.2))
  else (zOp0, 3)
def paS (s : ByteArray) : OpD × Int := if 20000 < s.size then (zOp0, 1) else paW (wdW s 32)
theorem paS_long {s : ByteArray} (h : 20000 < s.size) : paS s = (zOp0, 1) := by rw [paS, if_pos h]
theorem paS_few {s : ByteArray} (h : ¬ 20000 < s.size) : paS s = paW (wdW s 32) := by rw [paS, if_neg h]
theorem paW_none {W : List ByteArray} (h : kdL (W.getD 0 ⟨#[]⟩) 14 = 0) : paW W = (zOp0, 2) := by rw [paW, if_pos h]
theorem paW_many {W : List ByteArray} {K : Nat} (hK : kdL (W.getD 0 ⟨#[]⟩) 14 = K) (h : K ≠ 0) (hm : mOk K W.length = false) : paW W = (zOp0, 3) := by
 rw [paW, hK, if_neg h, if_neg (by rw [hm]; decide)]
theorem paW_bad {W : List ByteArray} {K : Nat} (hK : kdL (W.getD 0 ⟨#[]⟩) 14 = K) (h : K ≠ 0) (hm : mOk K W.length = true) (h2 : (rdF W (opT (K : Int)) (W.length - 1)).2.2 ≠ 0) : paW W = (zOp0, (rdF W (opT (K : Int)) (W.length - 1)).2.2) := by
 rw [paW, hK, if_neg h, if_pos hm, if_neg h2]
theorem paW_op {W : List ByteArray} {K : Nat} {L : List Int} {t : ByteArray} (hK : kdL (W.getD 0 ⟨#[]⟩) 14 = K) (h : K ≠ 0) (hm : mOk K W.length = true) (h2 : rdF W (opT (K : Int)) (W.length - 1) = (L, t, 0)) : paW W = if oB (opZ (K : Int) L t) = true then (opZ (K : Int) L t, 0) else (zOp0, 6) := by
 rw [paW, hK, if_neg h, if_pos hm, h2]
 rfl
theorem cut_each (s : ByteArray) (c : Int) : ∀ i, ∀ x ∈ (cutF s c i).2, x.size ≤ s.size
 | 0, x, hx => by cases hx
 | i + 1, x, hx => by
  by_cases h : bt s i = c
  ·rw [cutF_yes h] at hx
   rcases List.mem_append.1 hx with hx | hx
   ·exact cut_each s c i x hx
   ·obtain rfl := List.mem_singleton.1 hx
    rw [ByteArray.size_extract]; omega
  ·rw [cutF_no h] at hx
   exact cut_each s c i x hx
theorem wdW_each (s : ByteArray) (c : Int) : ∀ x ∈ wdW s c, x.size ≤ s.size := by
 intro x hx
 rcases List.mem_append.1 hx with hx | hx
 ·exact cut_each s c _ x hx
 ·obtain rfl := List.mem_singleton.1 hx
  rw [ByteArray.size_extract]; omega
theorem wdW_pos (s : ByteArray) (c : Int) : 0 < (wdW s c).length ∧ (wdW s c).length ≤ s.size + 1 := by
 have q := (cutF_le s c s.size).2
 unfold wdW
 rw [List.length_append]
 show 0 < _ + 1 ∧ _ + 1 ≤ _
 omega
theorem wd_size {W : List ByteArray} {z : Nat} (h : ∀ x ∈ W, x.size ≤ z) (i : Nat) : (W.getD i ⟨#[]⟩).size ≤ z := by
 rw [List.getD_eq_getElem?_getD]
 rcases Nat.lt_or_ge i W.length with hi | hi
 ·rw [List.getElem?_eq_getElem hi]
  exact h _ (List.getElem_mem hi)
 ·rw [List.getElem?_eq_none hi]
  exact Nat.zero_le _
theorem kinds {K : Nat} (h1 : 1 ≤ K) (h2 : K ≤ 14) : K = 1 ∨ K = 2 ∨ K = 3 ∨ K = 4 ∨ K = 5 ∨ K = 6 ∨ K = 7 ∨ K = 8 ∨ K = 9 ∨ K = 10 ∨ K = 11 ∨ K = 12 ∨ K = 13 ∨ K = 14 := by omega
theorem opN_cn {K : Nat} (h1 : 1 ≤ K) (h2 : K ≤ 14) : (opN (K : Int) 0 0 0 0 0 (fun _ => 0)).length = cnK (K : Int) := by
 rcases kinds h1 h2 with rfl | rfl | rfl | rfl | rfl | rfl | rfl | rfl | rfl | rfl | rfl | rfl | rfl | rfl <;> rfl
theorem specOpZ_any (K : Nat) (h1 : 1 ≤ K) (h2 : K ≤ 14) (L : List Int) (t : ByteArray) (g cap : Nat) (w : World) (hl : cnK (K : Int) ≤ L.length) (hc : L.length ≤ 1000) (hcap : L.length ≤ cap) (C : Cs w g 0 L.length (itG (gI L))) :
 Calls Tryz.prog 40 #[.int .i64 (K : Int), .slice (some ⟨g, 0, none⟩) L.length cap, .string t] w fun e w' => ∃ p c, e = .returned (.agg (opV (opZ (K : Int) L t) p c)) ∧ LsA w' w.heap.size p (opZ (K : Int) L t).n c (opZ (K : Int) L t).f ∧ Below w.heap.size w w' := by
 rcases kinds h1 h2 with rfl | rfl | rfl | rfl | rfl | rfl | rfl | rfl | rfl | rfl | rfl | rfl | rfl | rfl
 ·exact (specOp_1 L t g cap w (Nat.le_trans (by decide) hl) hc hcap C)
 ·exact (specOp_2 L t g cap w (Nat.le_trans (by decide) hl) hc C)
 ·exact (specOp_3 L t g cap w (Nat.le_trans (by decide) hl) hc C)
 ·exact (specOp_4 L t g cap w (Nat.le_trans (by decide) hl) hc C)
 ·exact (specOp_5 L t g cap w (Nat.le_trans (by decide) hl) hc C)
 ·exact (specOp_6 L t g cap w (Nat.le_trans (by decide) hl) hc C)
 ·exact (specOp_7 L t g cap w (Nat.le_trans (by decide) hl) hc C)
 ·exact (specOp_8 L t g cap w (Nat.le_trans (by decide) hl) hc C)
 ·exact (specOp_9 L t g cap w (Nat.le_trans (by decide) hl) hc C)
 ·exact (specOp_10 L t g cap w (Nat.le_trans (by decide) hl) hc C)
 ·exact (specOp_11 L t g cap w (Nat.le_trans (by decide) hl) hc C)
 ·exact (specOp_12 L t g cap w (Nat.le_trans (by decide) hl) hc C)
 ·exact (specOp_13 L t g cap w (Nat.le_trans (by decide) hl) hc C)
 ·exact (specOp_14 L t g cap w (Nat.le_trans (by decide) hl) hc C)

end Go.Proofs.YtddjiamollfplaaGreatDoor
