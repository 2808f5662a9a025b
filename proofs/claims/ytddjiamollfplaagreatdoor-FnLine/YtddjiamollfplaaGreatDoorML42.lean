/- Lines written and read. -/
import Derived.Test.YtddjiamollfplaaGreatDoorML30
import Derived.Test.YtddjiamollfplaaGreatDoorML39
import Derived.Test.YtddjiamollfplaaGreatDoorML41
namespace Go.Proofs.YtddjiamollfplaaGreatDoor
open Go.RowKit
set_option linter.unusedVariables false

theorem jn_cons (a : ByteArray) {M : List ByteArray} (h : M ≠ []) : jnB (a :: M) = a ++ spB ++ jnB M := by
 have e := List.dropLast_concat_getLast h
 have q1 := jn_cat _ M.dropLast rfl (M.getLast h)
 have q2 := jn_cat _ (a :: M.dropLast) rfl (M.getLast h)
 rw [List.cons_append, e] at q2
 rw [e] at q1
 rw [q2, q1, catE]
 simp only [ByteArray.append_assoc]
 rfl
theorem rwI_map (Z : List Int) : ∀ j, rwI Z j = (List.range j).map fun i => txI (gI Z i)
 | 0 => rfl
 | j + 1 => by rw [rwI, rwI_map Z j, List.range_succ, List.map_append]; rfl
theorem map_getD {α : Type} (d : α) (M : List α) : (List.range M.length).map (fun i => M.getD i d) = M := by
 apply List.ext_getElem?
 intro i
 rw [List.getElem?_map]
 rcases Nat.lt_or_ge i M.length with h | h
 ·rw [List.getElem?_range h, List.getElem?_eq_getElem h, Option.map_some, List.getD_eq_getElem?_getD, List.getElem?_eq_getElem h]
  rfl
 ·rw [List.getElem?_eq_none (by simpa using h), List.getElem?_eq_none h]
  rfl
theorem gI_map {f : Nat → Int} {n i : Nat} (h : i < n) : gI ((List.range n).map f) i = f i := by
 rw [gI, List.getD_eq_getElem?_getD, List.getElem?_map, List.getElem?_range h]
 rfl
theorem rdF_nums (W : List ByteArray) (tb : Bool) : ∀ j, (tb = true → j < W.length - 1) → (rdF W tb j).2.2 = 0 → rdF W tb j = ((List.range j).map (fun i => nuI (W.getD (i + 1) ⟨#[]⟩)), ⟨#[]⟩, 0) ∧ ∀ i, i < j → nuB (W.getD (i + 1) ⟨#[]⟩) = true
 | 0, _, _ => ⟨rfl, fun i hi => absurd hi (Nat.not_lt_zero _)⟩
 | j + 1, ht, h => by
  have h0 : (rdF W tb j).2.2 = 0 := by
   by_cases h0 : (rdF W tb j).2.2 = 0
   ·exact h0
   ·rw [show rdF W tb (j + 1) = rdF W tb j from rdF_bad h0 1] at h
    exact h
  obtain ⟨q1, q2⟩ := rdF_nums W tb j (fun e => by have := ht e; omega) h0
  have hne : ¬ (tb = true ∧ j + 1 = W.length - 1) := fun ⟨e, e2⟩ => by have := ht e; omega
  rw [rdF_num h0 hne] at h ⊢
  by_cases hn : nuB (W.getD (j + 1) ⟨#[]⟩) = true
  ·rw [if_pos hn, q1, List.range_succ, List.map_append]
   refine ⟨rfl, fun i hi => ?_⟩
   by_cases e : i = j
   ·subst e; exact hn
   ·exact q2 i (by omega)
  ·rw [if_neg hn] at h
   exact absurd h (show ¬ (4 : Int) = 0 by decide)
theorem rdF_ok (W : List ByteArray) (tb : Bool) : ∀ j, (tb = true → j < W.length - 1) → (∀ i, i < j → nuB (W.getD (i + 1) ⟨#[]⟩) = true) → rdF W tb j = ((List.range j).map (fun i => nuI (W.getD (i + 1) ⟨#[]⟩)), ⟨#[]⟩, 0)
 | 0, _, _ => rfl
 | j + 1, ht, h => by
  have q := rdF_ok W tb j (fun e => by have := ht e; omega) (fun i hi => h i (by omega))
  have hne : ¬ (tb = true ∧ j + 1 = W.length - 1) := fun ⟨e, e2⟩ => by have := ht e; omega
  rw [rdF_num (by rw [q]) hne, if_pos (h j (Nat.lt_succ_self j)), q, List.range_succ, List.map_append]
  rfl
theorem words_of {w0 : ByteArray} {M : List ByteArray} {tb : Bool} {L : List Int} {t : ByteArray} (h : rdF (w0 :: M) tb M.length = (L, t, 0)) (h1 : tb = true → 1 ≤ M.length) : M = wdsL L tb t ∧ (tb = false → t = ⟨#[]⟩) ∧ L.length + (if tb = true then 1 else 0) = M.length ∧ ∀ i, i < L.length → -999999999 ≤ gI L i ∧ gI L i ≤ 999999999 := by
 have eg : ∀ i, (w0 :: M).getD (i + 1) ⟨#[]⟩ = M.getD i ⟨#[]⟩ := fun i => rfl
 cases tb
 ·obtain ⟨q1, q2⟩ := rdF_nums (w0 :: M) false M.length (fun e => by cases e) (by rw [h])
  rw [h] at q1
  simp only [Prod.mk.injEq] at q1
  obtain ⟨rfl, rfl, -⟩ := q1
  have hl : ((List.range M.length).map fun i => nuI ((w0 :: M).getD (i + 1) ⟨#[]⟩)).length = M.length := by simp
  refine ⟨?_, fun _ => rfl, by rw [hl]; rfl, fun i hi => ?_⟩
  ·rw [wdsL_f, rwI_map, hl]
   conv => lhs; rw [← map_getD ⟨#[]⟩ M]
   refine List.map_congr_left fun i hi => ?_
   have hi := List.mem_range.1 hi
   rw [gI_map hi]
   have := q2 i hi
   rw [eg] at this ⊢
   exact (num_own this).1.symm
  ·rw [hl] at hi
   rw [gI_map hi]
   exact (num_own (q2 i hi)).2
 ·obtain ⟨j, hj⟩ : ∃ j, M.length = j + 1 := ⟨M.length - 1, by have := h1 rfl; omega⟩
  have hW : (w0 :: M).length - 1 = j + 1 := by show M.length + 1 - 1 = j + 1; omega
  rw [hj] at h
  have h0 : (rdF (w0 :: M) true j).2.2 = 0 := by
   by_cases h0 : (rdF (w0 :: M) true j).2.2 = 0
   ·exact h0
   ·rw [show rdF (w0 :: M) true (j + 1) = rdF (w0 :: M) true j from rdF_bad h0 1] at h
    rw [h] at h0
    exact absurd rfl h0
  obtain ⟨q1, q2⟩ := rdF_nums (w0 :: M) true j (fun _ => by omega) h0
  rw [rdF_text h0 hW.symm] at h
  by_cases hf : fhB ((w0 :: M).getD (j + 1) ⟨#[]⟩) = true
  ·rw [if_pos hf, q1] at h
   simp only [Prod.mk.injEq] at h
   obtain ⟨rfl, rfl, -⟩ := h
   have hl : ((List.range j).map fun i => nuI ((w0 :: M).getD (i + 1) ⟨#[]⟩)).length = j := by simp
   refine ⟨?_, (fun e => by cases e), (by rw [hl, hj]; rfl), fun i hi => ?_⟩
   ·rw [wdsL_t, rwI_map, hl]
    conv => lhs; rw [← map_getD ⟨#[]⟩ M, hj, List.range_succ, List.map_append]
    rw [eg] at hf ⊢
    rw [(hex_own hf).1]
    congr 1
    refine List.map_congr_left fun i hi => ?_
    have hi := List.mem_range.1 hi
    rw [gI_map hi]
    have := q2 i hi
    rw [eg] at this ⊢
    exact (num_own this).1.symm
   ·rw [hl] at hi
    rw [gI_map hi]
    exact (num_own (q2 i hi)).2
  ·rw [if_neg hf] at h
   exact absurd (congrArg (fun q => q.2.2) h) (show ¬ (5 : Int) = 0 by decide)
theorem words_back {w0 : ByteArray} {tb : Bool} {Z : List Int} {t : ByteArray} (hz : ∀ i, i < Z.length → -1000000 ≤ gI Z i ∧ gI Z i ≤ 1000000) (ht : t.size ≤ 64) (h0 : tb = false → t = ⟨#[]⟩) : rdF (w0 :: wdsL Z tb t) tb (wdsL Z tb t).length = (Z, t, 0) := by
 have eg : ∀ (M : List ByteArray) i, (w0 :: M).getD (i + 1) ⟨#[]⟩ = M.getD i ⟨#[]⟩ := fun M i => rfl
 have eN : ∀ i, i < Z.length → nuB (txI (gI Z i)) = true ∧ nuI (txI (gI Z i)) = gI Z i := fun i hi => by
  have b := hz i hi
  obtain ⟨q1, q2⟩ := num_back (gI Z i) (by omega) (by omega)
  have q3 : nuB (txI (gI Z i)) = true := by rw [q1]; exact decide_eq_true ⟨by omega, by omega⟩
  exact ⟨q3, q2 q3⟩
 have eR : ∀ i, i < Z.length → (rwI Z Z.length).getD i ⟨#[]⟩ = txI (gI Z i) := fun i hi => by
  rw [rwI_map, List.getD_eq_getElem?_getD, List.getElem?_map, List.getElem?_range hi]
  rfl
 have eZ : (List.range Z.length).map (gI Z) = Z := map_getD 0 Z
 cases tb
 ·rw [wdsL_f, rwI_len]
  have e1 : ∀ i, i < Z.length → (w0 :: rwI Z Z.length).getD (i + 1) ⟨#[]⟩ = txI (gI Z i) := fun i hi => by rw [eg]; exact eR i hi
  rw [rdF_ok _ false Z.length (fun e => by cases e) (fun i hi => by rw [e1 i hi]; exact (eN i hi).1), h0 rfl]
  have e2 : (List.range Z.length).map (fun i => nuI ((w0 :: rwI Z Z.length).getD (i + 1) ⟨#[]⟩)) = Z := by
   conv => rhs; rw [← eZ]
   refine List.map_congr_left fun i hi => ?_
   have hi := List.mem_range.1 hi
   rw [e1 i hi]
   exact (eN i hi).2
  rw [e2]
 ·rw [wdsL_t]
  have hl : (rwI Z Z.length ++ [hexO t]).length = Z.length + 1 := by rw [List.length_append, rwI_len]; rfl
  rw [hl]
  have e1 : ∀ i, i < Z.length → (w0 :: (rwI Z Z.length ++ [hexO t])).getD (i + 1) ⟨#[]⟩ = txI (gI Z i) := fun i hi => by
   rw [eg, List.getD_eq_getElem?_getD, List.getElem?_append_left (by rw [rwI_len]; exact hi), ← List.getD_eq_getElem?_getD]
   exact eR i hi
  have e3 : (w0 :: (rwI Z Z.length ++ [hexO t])).getD (Z.length + 1) ⟨#[]⟩ = hexO t := by
   rw [eg, List.getD_eq_getElem?_getD, List.getElem?_append_right (by rw [rwI_len]; exact Nat.le_refl _), rwI_len, Nat.sub_self]
   rfl
  have hW : (w0 :: (rwI Z Z.length ++ [hexO t])).length - 1 = Z.length + 1 := by show (rwI Z Z.length ++ [hexO t]).length + 1 - 1 = _; rw [hl]; rfl
  have q := rdF_ok (w0 :: (rwI Z Z.length ++ [hexO t])) true Z.length (fun _ => by omega) (fun i hi => by rw [e1 i hi]; exact (eN i hi).1)
  have e2 : (List.range Z.length).map (fun i => nuI ((w0 :: (rwI Z Z.length ++ [hexO t])).getD (i + 1) ⟨#[]⟩)) = Z := by
   conv => rhs; rw [← eZ]
   refine List.map_congr_left fun i hi => ?_
   have hi := List.mem_range.1 hi
   rw [e1 i hi]
   exact (eN i hi).2
  rw [e2] at q
  obtain ⟨x1, x2⟩ := hex_back t ht
  rw [rdF_text (by rw [q]) hW.symm, e3, if_pos x1, q, x2]
theorem kdL_nm {K : Nat} (h1 : 1 ≤ K) (h2 : K ≤ 14) : kdL (nmK (K : Int)) 14 = K := by
 by_cases h : kdL (nmK (K : Int)) 14 = 0
 ·exact absurd rfl (kdL_no _ 14 h K h1 h2)
 ·have e := kdL_is _ 14 h
  have hl := kdL_le (nmK (K : Int)) 14
  by_cases e2 : K = kdL (nmK (K : Int)) 14
  ·exact e2.symm
  ·exact absurd e (nmK_ne K _ h1 h2 (by omega) hl e2)
def SameO (x y : OpD) : Prop := x.k = y.k ∧ x.nd = y.nd ∧ x.tt = y.tt ∧ x.a = y.a ∧ x.b = y.b ∧ x.tx = y.tx ∧ x.n = y.n ∧ ∀ i, i < y.n → x.f i = y.f i
theorem SameO.ok {x y : OpD} (h : SameO x y) : oB x = oB y := by
 obtain ⟨h1, h2, h3, h4, h5, h6, h7, h8⟩ := h
 have e : alB x.f x.n = alB y.f y.n := by
  unfold alB
  refine decide_eq_decide.2 ⟨fun q i hi => ?_, fun q i hi => ?_⟩
  ·rw [← h8 i hi]; exact q i (by rw [h7]; exact hi)
  ·rw [h7] at hi; rw [h8 i hi]; exact q i hi
 unfold oB opB
 rw [e, h1, h2, h3, h4, h5, h6, h7]
theorem opN_opZ {K : Nat} (h1 : 1 ≤ K) (h2 : K ≤ 14) {L : List Int} (t : ByteArray) (hl : if K = 1 then 1 ≤ L.length else L.length = cnK (K : Int)) : opN (opZ (K : Int) L t).k (opZ (K : Int) L t).nd (opZ (K : Int) L t).tt (opZ (K : Int) L t).a (opZ (K : Int) L t).b (opZ (K : Int) L t).n (opZ (K : Int) L t).f = L ∧ (opZ (K : Int) L t).k = K ∧ (opZ (K : Int) L t).tx = t := by
 rcases kinds h1 h2 with rfl | rfl | rfl | rfl | rfl | rfl | rfl | rfl | rfl | rfl | rfl | rfl | rfl | rfl
 ·match L, hl with
  | a :: L, _ =>
   refine ⟨?_, rfl, rfl⟩
   show a :: (List.range L.length).map (fun j => gI (a :: L) (j + 1)) = a :: L
   have e : (List.range L.length).map (fun j => gI (a :: L) (j + 1)) = L := map_getD 0 L
   rw [e]
 ·have hl : L.length = 1 := hl
  match L, hl with
  | [a], _ => exact ⟨rfl, rfl, rfl⟩
 ·have hl : L.length = 1 := hl
  match L, hl with
  | [a], _ => exact ⟨rfl, rfl, rfl⟩
 ·have hl : L.length = 3 := hl
  match L, hl with
  | [a, b, c], _ => exact ⟨rfl, rfl, rfl⟩
 ·have hl : L.length = 2 := hl
  match L, hl with
  | [a, b], _ => exact ⟨rfl, rfl, rfl⟩
 ·have hl : L.length = 1 := hl
  match L, hl with
  | [a], _ => exact ⟨rfl, rfl, rfl⟩
 ·have hl : L.length = 1 := hl
  match L, hl with
  | [a], _ => exact ⟨rfl, rfl, rfl⟩
 ·have hl : L.length = 1 := hl
  match L, hl with
  | [a], _ => exact ⟨rfl, rfl, rfl⟩
 ·have hl : L.length = 2 := hl
  match L, hl with
  | [a, b], _ => exact ⟨rfl, rfl, rfl⟩
 ·have hl : L.length = 1 := hl
  match L, hl with
  | [a], _ => exact ⟨rfl, rfl, rfl⟩
 ·have hl : L.length = 1 := hl
  match L, hl with
  | [a], _ => exact ⟨rfl, rfl, rfl⟩
 ·have hl : L.length = 1 := hl
  match L, hl with
  | [a], _ => exact ⟨rfl, rfl, rfl⟩
 ·have hl : L.length = 2 := hl
  match L, hl with
  | [a, b], _ => exact ⟨rfl, rfl, rfl⟩
 ·have hl : L.length = 2 := hl
  match L, hl with
  | [a, b], _ => exact ⟨rfl, rfl, rfl⟩
theorem up_zero {x : Int} (h : upB x 0 = true) : x = 0 := by
 unfold upB at h
 rw [Bool.and_eq_true] at h
 have := of_decide_eq_true h.1
 have := of_decide_eq_true h.2
 omega
theorem op_parts {x : OpD} (h : oB x = true) : (1 ≤ x.k ∧ x.k ≤ 14) ∧ upB x.nd (bdN x.k) = true ∧ upB x.tt (bdT x.k) = true ∧ upB x.a (bdA x.k) = true ∧ upB x.b (bdB x.k) = true ∧ (x.tx.size : Int) ≤ bdX x.k ∧ (x.n : Int) ≤ bdL x.k := by
 unfold oB opB hdB bdO at h
 simp only [Bool.and_eq_true] at h
 obtain ⟨⟨h1, ⟨⟨⟨⟨⟨h2, h3⟩, _⟩, h4⟩, h5⟩, h6⟩, h7⟩, _⟩ := h
 exact ⟨of_decide_eq_true h1, h2, h3, h4, h5, of_decide_eq_true h6, of_decide_eq_true h7⟩
theorem ba_zero {s : ByteArray} (h : s.size = 0) : s = ⟨#[]⟩ := by
 obtain ⟨d⟩ := s
 have : d = #[] := Array.eq_empty_of_size_eq_zero h
 rw [this]
theorem opZ_opN {x : OpD} (h : oB x = true) : SameO (opZ x.k (opN x.k x.nd x.tt x.a x.b x.n x.f) x.tx) x ∧ (opT x.k = false → x.tx = ⟨#[]⟩) ∧ ∃ K : Nat, x.k = K ∧ 1 ≤ K ∧ K ≤ 14 ∧ (if K = 1 then (opN x.k x.nd x.tt x.a x.b x.n x.f).length = x.n + 1 ∧ x.n ≤ 8 else (opN x.k x.nd x.tt x.a x.b x.n x.f).length = cnK (K : Int)) := by
 obtain ⟨⟨k1, k2⟩, p1, p2, p3, p4, p5, p6⟩ := op_parts h
 obtain ⟨k, nd, tt, a, b, tx, n, f⟩ := x
 obtain ⟨K, rfl⟩ := Int.eq_ofNat_of_zero_le (show 0 ≤ k from Int.le_trans (by decide) k1)
 have h1 : 1 ≤ K := by have : (1 : Int) ≤ (K : Int) := k1; omega
 have h2 : K ≤ 14 := by have : (K : Int) ≤ 14 := k2; omega
 clear h k1 k2
 rcases kinds h1 h2 with rfl | rfl | rfl | rfl | rfl | rfl | rfl | rfl | rfl | rfl | rfl | rfl | rfl | rfl
 ·obtain rfl : nd = 0 := up_zero p1
  obtain rfl : tt = 0 := up_zero p2
  obtain rfl : b = 0 := up_zero p4
  obtain rfl : tx = ⟨#[]⟩ := ba_zero (by have : (tx.size : Int) ≤ 0 := p5; omega)
  have hn : n ≤ 8 := by have : (n : Int) ≤ 8 := p6; omega
  have hl : (a :: (List.range n).map f).length = n + 1 := by simp
  refine ⟨⟨rfl, rfl, rfl, rfl, rfl, rfl, ?_, fun i hi => ?_⟩, fun _ => rfl, 1, rfl, by decide, by decide, hl, hn⟩
  ·show (a :: (List.range n).map f).length - 1 = n
   rw [hl]; rfl
  ·exact gI_map hi
 ·obtain rfl : tt = 0 := up_zero p2
  obtain rfl : a = 0 := up_zero p3
  obtain rfl : b = 0 := up_zero p4
  obtain rfl : tx = ⟨#[]⟩ := ba_zero (by have : (tx.size : Int) ≤ 0 := p5; omega)
  obtain rfl : n = 0 := by have : (n : Int) ≤ 0 := p6; omega
  exact ⟨⟨rfl, rfl, rfl, rfl, rfl, rfl, rfl, fun i hi => absurd hi (Nat.not_lt_zero _)⟩, (fun _ => rfl), 2, rfl, by decide, by decide, rfl⟩
 ·obtain rfl : tt = 0 := up_zero p2
  obtain rfl : a = 0 := up_zero p3
  obtain rfl : b = 0 := up_zero p4
  obtain rfl : tx = ⟨#[]⟩ := ba_zero (by have : (tx.size : Int) ≤ 0 := p5; omega)
  obtain rfl : n = 0 := by have : (n : Int) ≤ 0 := p6; omega
  exact ⟨⟨rfl, rfl, rfl, rfl, rfl, rfl, rfl, fun i hi => absurd hi (Nat.not_lt_zero _)⟩, (fun _ => rfl), 3, rfl, by decide, by decide, rfl⟩
 ·obtain rfl : tt = 0 := up_zero p2
  obtain rfl : tx = ⟨#[]⟩ := ba_zero (by have : (tx.size : Int) ≤ 0 := p5; omega)
  obtain rfl : n = 0 := by have : (n : Int) ≤ 0 := p6; omega
  exact ⟨⟨rfl, rfl, rfl, rfl, rfl, rfl, rfl, fun i hi => absurd hi (Nat.not_lt_zero _)⟩, (fun _ => rfl), 4, rfl, by decide, by decide, rfl⟩
 ·obtain rfl : a = 0 := up_zero p3
  obtain rfl : b = 0 := up_zero p4
  obtain rfl : tx = ⟨#[]⟩ := ba_zero (by have : (tx.size : Int) ≤ 0 := p5; omega)
  obtain rfl : n = 0 := by have : (n : Int) ≤ 0 := p6; omega
  exact ⟨⟨rfl, rfl, rfl, rfl, rfl, rfl, rfl, fun i hi => absurd hi (Nat.not_lt_zero _)⟩, (fun _ => rfl), 5, rfl, by decide, by decide, rfl⟩
 ·obtain rfl : tt = 0 := up_zero p2
  obtain rfl : a = 0 := up_zero p3
  obtain rfl : b = 0 := up_zero p4
  obtain rfl : tx = ⟨#[]⟩ := ba_zero (by have : (tx.size : Int) ≤ 0 := p5; omega)
  obtain rfl : n = 0 := by have : (n : Int) ≤ 0 := p6; omega
  exact ⟨⟨rfl, rfl, rfl, rfl, rfl, rfl, rfl, fun i hi => absurd hi (Nat.not_lt_zero _)⟩, (fun _ => rfl), 6, rfl, by decide, by decide, rfl⟩
 ·obtain rfl : tt = 0 := up_zero p2
  obtain rfl : a = 0 := up_zero p3
  obtain rfl : b = 0 := up_zero p4
  obtain rfl : tx = ⟨#[]⟩ := ba_zero (by have : (tx.size : Int) ≤ 0 := p5; omega)
  obtain rfl : n = 0 := by have : (n : Int) ≤ 0 := p6; omega
  exact ⟨⟨rfl, rfl, rfl, rfl, rfl, rfl, rfl, fun i hi => absurd hi (Nat.not_lt_zero _)⟩, (fun _ => rfl), 7, rfl, by decide, by decide, rfl⟩
 ·obtain rfl : tt = 0 := up_zero p2
  obtain rfl : a = 0 := up_zero p3
  obtain rfl : b = 0 := up_zero p4
  obtain rfl : tx = ⟨#[]⟩ := ba_zero (by have : (tx.size : Int) ≤ 0 := p5; omega)
  obtain rfl : n = 0 := by have : (n : Int) ≤ 0 := p6; omega
  exact ⟨⟨rfl, rfl, rfl, rfl, rfl, rfl, rfl, fun i hi => absurd hi (Nat.not_lt_zero _)⟩, (fun _ => rfl), 8, rfl, by decide, by decide, rfl⟩
 ·obtain rfl : tt = 0 := up_zero p2
  obtain rfl : b = 0 := up_zero p4
  obtain rfl : n = 0 := by have : (n : Int) ≤ 0 := p6; omega
  exact ⟨⟨rfl, rfl, rfl, rfl, rfl, rfl, rfl, fun i hi => absurd hi (Nat.not_lt_zero _)⟩, (fun h => by cases h), 9, rfl, by decide, by decide, rfl⟩
 ·obtain rfl : nd = 0 := up_zero p1
  obtain rfl : tt = 0 := up_zero p2
  obtain rfl : b = 0 := up_zero p4
  obtain rfl : tx = ⟨#[]⟩ := ba_zero (by have : (tx.size : Int) ≤ 0 := p5; omega)
  obtain rfl : n = 0 := by have : (n : Int) ≤ 0 := p6; omega
  exact ⟨⟨rfl, rfl, rfl, rfl, rfl, rfl, rfl, fun i hi => absurd hi (Nat.not_lt_zero _)⟩, (fun _ => rfl), 10, rfl, by decide, by decide, rfl⟩
 ·obtain rfl : nd = 0 := up_zero p1
  obtain rfl : tt = 0 := up_zero p2
  obtain rfl : b = 0 := up_zero p4
  obtain rfl : tx = ⟨#[]⟩ := ba_zero (by have : (tx.size : Int) ≤ 0 := p5; omega)
  obtain rfl : n = 0 := by have : (n : Int) ≤ 0 := p6; omega
  exact ⟨⟨rfl, rfl, rfl, rfl, rfl, rfl, rfl, fun i hi => absurd hi (Nat.not_lt_zero _)⟩, (fun _ => rfl), 11, rfl, by decide, by decide, rfl⟩
 ·obtain rfl : nd = 0 := up_zero p1
  obtain rfl : tt = 0 := up_zero p2
  obtain rfl : b = 0 := up_zero p4
  obtain rfl : tx = ⟨#[]⟩ := ba_zero (by have : (tx.size : Int) ≤ 0 := p5; omega)
  obtain rfl : n = 0 := by have : (n : Int) ≤ 0 := p6; omega
  exact ⟨⟨rfl, rfl, rfl, rfl, rfl, rfl, rfl, fun i hi => absurd hi (Nat.not_lt_zero _)⟩, (fun _ => rfl), 12, rfl, by decide, by decide, rfl⟩
 ·obtain rfl : nd = 0 := up_zero p1
  obtain rfl : tt = 0 := up_zero p2
  obtain rfl : tx = ⟨#[]⟩ := ba_zero (by have : (tx.size : Int) ≤ 0 := p5; omega)
  obtain rfl : n = 0 := by have : (n : Int) ≤ 0 := p6; omega
  exact ⟨⟨rfl, rfl, rfl, rfl, rfl, rfl, rfl, fun i hi => absurd hi (Nat.not_lt_zero _)⟩, (fun _ => rfl), 13, rfl, by decide, by decide, rfl⟩
 ·obtain rfl : a = 0 := up_zero p3
  obtain rfl : b = 0 := up_zero p4
  obtain rfl : n = 0 := by have : (n : Int) ≤ 0 := p6; omega
  exact ⟨⟨rfl, rfl, rfl, rfl, rfl, rfl, rfl, fun i hi => absurd hi (Nat.not_lt_zero _)⟩, (fun h => by cases h), 14, rfl, by decide, by decide, rfl⟩
theorem wdsL_free (Z : List Int) (tb : Bool) (t : ByteArray) : ∀ x ∈ wdsL Z tb t, freeB 32 x := by
 have q : ∀ j, ∀ x ∈ rwI Z j, freeB 32 x := by
  intro j
  induction j with
  | zero => intro x hx; cases hx
  | succ j ih =>
   intro x hx
   rw [rwI] at hx
   rcases List.mem_append.1 hx with hx | hx
   ·exact ih x hx
   ·rw [List.mem_singleton.1 hx]; exact free_tx _
 intro x hx
 cases tb
 ·exact q _ x hx
 ·rw [wdsL_t] at hx
  rcases List.mem_append.1 hx with hx | hx
  ·exact q _ x hx
  ·rw [List.mem_singleton.1 hx]; exact free_hex _
theorem wdsL_ne {Z : List Int} {tb : Bool} {t : ByteArray} (h : 1 ≤ Z.length) : wdsL Z tb t ≠ [] := fun e => by
 have q := (wdsL_len Z tb t).2
 rw [e] at q
 have : Z.length ≤ 0 := q
 omega
theorem oL_line {x : OpD} (h : oB x = true) (hne : 1 ≤ (opN x.k x.nd x.tt x.a x.b x.n x.f).length) : oL x = jnB (nmK x.k :: wdsL (opN x.k x.nd x.tt x.a x.b x.n x.f) (opT x.k) x.tx) := by
 rw [jn_cons _ (wdsL_ne hne)]
 exact ol_words h
theorem op_back {x : OpD} (h : oB x = true) : (paS (oL x)).2 = 0 ∧ SameO (paS (oL x)).1 x := by
 obtain ⟨hS, ht, K, hK, k1, k2, hl⟩ := opZ_opN h
 have hne : 1 ≤ (opN x.k x.nd x.tt x.a x.b x.n x.f).length := by
  by_cases e : K = 1
  ·rw [if_pos e] at hl; omega
  ·rw [if_neg e] at hl; rw [hl]; exact cnK_pos _
 have hb := (ol_facts h).2.2.2
 have htx : x.tx.size ≤ 64 := (ol_facts h).2.1
 have hW : wdW (oL x) 32 = nmK x.k :: wdsL (opN x.k x.nd x.tt x.a x.b x.n x.f) (opT x.k) x.tx := by
  rw [oL_line h hne]
  refine wdW_jn (by simp) fun y hy => ?_
  rcases List.mem_cons.1 hy with hy | hy
  ·rw [hy, hK]; exact free_nm K k2
  ·exact wdsL_free _ _ _ y hy
 have hs : ¬ 20000 < (oL x).size := by have := oL_size x; omega
 rw [paS_few hs, hW]
 have hk : kdL ((nmK x.k :: wdsL (opN x.k x.nd x.tt x.a x.b x.n x.f) (opT x.k) x.tx).getD 0 ⟨#[]⟩) 14 = K := by
  show kdL (nmK x.k) 14 = K
  rw [hK]
  exact kdL_nm k1 k2
 have hrd := words_back (w0 := nmK x.k) (tb := opT x.k) (Z := opN x.k x.nd x.tt x.a x.b x.n x.f) (t := x.tx) (fun i _ => hb i) htx ht
 have hlen : (wdsL (opN x.k x.nd x.tt x.a x.b x.n x.f) (opT x.k) x.tx).length = (opN x.k x.nd x.tt x.a x.b x.n x.f).length + (if opT x.k = true then 1 else 0) := by
  cases opT x.k
  ·rw [wdsL_f, rwI_len]; rfl
  ·rw [wdsL_t, List.length_append, rwI_len]; rfl
 have hm : mOk K (nmK x.k :: wdsL (opN x.k x.nd x.tt x.a x.b x.n x.f) (opT x.k) x.tx).length = true := by
  rw [List.length_cons, hlen]
  by_cases e : K = 1
  ·rw [if_pos e] at hl
   have ht1 : opT x.k = false := by rw [hK, e]; rfl
   rw [mOk, if_pos e, ht1, if_neg (by decide)]
   exact decide_eq_true ⟨by omega, by omega⟩
  ·rw [if_neg e] at hl
   rw [mOk, if_neg e, hK, ← hK, hl]
   refine decide_eq_true ?_
   rw [hK]
   omega
 have q := paW_op (L := opN x.k x.nd x.tt x.a x.b x.n x.f) (t := x.tx) hk (by omega) hm (by rw [← hK]; exact hrd)
 rw [← hK] at q
 rw [hS.ok, h] at q
 rw [q]
 exact ⟨rfl, hS⟩
theorem paW_inv {W : List ByteArray} {x : OpD} (h : paW W = (x, 0)) : ∃ (K : Nat) (L : List Int) (t : ByteArray), kdL (W.getD 0 ⟨#[]⟩) 14 = K ∧ K ≠ 0 ∧ mOk K W.length = true ∧ rdF W (opT (K : Int)) (W.length - 1) = (L, t, 0) ∧ oB (opZ (K : Int) L t) = true ∧ x = opZ (K : Int) L t := by
 by_cases h0 : kdL (W.getD 0 ⟨#[]⟩) 14 = 0
 ·rw [paW_none h0] at h
  simp only [Prod.mk.injEq] at h
  exact absurd h.2 (by decide)
 ·cases hm : mOk (kdL (W.getD 0 ⟨#[]⟩) 14) W.length
  ·rw [paW_many rfl h0 hm] at h
   simp only [Prod.mk.injEq] at h
   exact absurd h.2 (by decide)
  ·by_cases h2 : (rdF W (opT (kdL (W.getD 0 ⟨#[]⟩) 14 : Int)) (W.length - 1)).2.2 = 0
   ·have e : rdF W (opT (kdL (W.getD 0 ⟨#[]⟩) 14 : Int)) (W.length - 1) = ((rdF W (opT (kdL (W.getD 0 ⟨#[]⟩) 14 : Int)) (W.length - 1)).1, (rdF W (opT (kdL (W.getD 0 ⟨#[]⟩) 14 : Int)) (W.length - 1)).2.1, 0) := by rw [← h2]
    rw [paW_op rfl h0 hm e] at h
    split at h
    ·rename_i ho
     simp only [Prod.mk.injEq] at h
     exact ⟨_, _, _, rfl, h0, hm, e, ho, h.1.symm⟩
    ·simp only [Prod.mk.injEq] at h
     exact absurd h.2 (by decide)
   ·rw [paW_bad rfl h0 hm h2] at h
    simp only [Prod.mk.injEq] at h
    exact absurd h.2 h2
theorem line_back {s : ByteArray} {x : OpD} (h : paS s = (x, 0)) : oB x = true ∧ oL x = s := by
 have hs : ¬ 20000 < s.size := fun hs => by
  rw [paS_long hs] at h
  simp only [Prod.mk.injEq] at h
  exact absurd h.2 (by decide)
 rw [paS_few hs] at h
 obtain ⟨K, L, t, hk, k0, hm, hrd, ho, rfl⟩ := paW_inv h
 refine ⟨ho, ?_⟩
 have hle : K ≤ 14 := by rw [← hk]; exact kdL_le _ 14
 have k1 : 1 ≤ K := by omega
 obtain ⟨w0, M, hW⟩ : ∃ w0 M, wdW s 32 = w0 :: M := by
  have q := (wdW_pos s 32).1
  cases e : wdW s 32 with
  | nil => rw [e] at q; cases q
  | cons a M => exact ⟨a, M, rfl⟩
 rw [hW] at hk hm hrd
 have hw0 : w0 = nmK (K : Int) := by
  have e := kdL_is w0 14 (by show kdL w0 14 ≠ 0; rw [show kdL w0 14 = K from hk]; exact k0)
  rw [show kdL w0 14 = K from hk] at e
  exact e
 have hml : M.length + 1 = (w0 :: M).length := rfl
 have hmb : if K = 1 then 1 ≤ M.length else M.length = cnK (K : Int) + (if opT (K : Int) = true then 1 else 0) := by
  rw [mOk] at hm
  by_cases e : K = 1
  ·rw [if_pos e] at hm ⊢; have := of_decide_eq_true hm; omega
  ·rw [if_neg e] at hm ⊢; have := of_decide_eq_true hm; omega
 obtain ⟨q1, q2, q3, q4⟩ := words_of (w0 := w0) (M := M) (tb := opT (K : Int)) (by exact hrd) (fun e => by
  by_cases e1 : K = 1
  ·rw [if_pos e1] at hmb; exact hmb
  ·rw [if_neg e1, e] at hmb; rw [hmb]; simp)
 have hl : if K = 1 then 1 ≤ L.length else L.length = cnK (K : Int) := by
  by_cases e1 : K = 1
  ·rw [if_pos e1] at hmb ⊢
   have ht : opT (K : Int) = false := by rw [e1]; rfl
   rw [ht, if_neg (by decide)] at q3
   omega
  ·rw [if_neg e1] at hmb ⊢; omega
 obtain ⟨e1, e2, e3⟩ := opN_opZ k1 hle t hl
 have hne : 1 ≤ L.length := by
  by_cases e1 : K = 1
  ·rw [if_pos e1] at hl; exact hl
  ·rw [if_neg e1] at hl; rw [hl]; exact cnK_pos _
 rw [oL_line ho (by rw [e1]; exact hne), e1, e2, e3, ← q1, ← hw0, ← hW]
 exact jn_wdW s

end Go.Proofs.YtddjiamollfplaaGreatDoor
