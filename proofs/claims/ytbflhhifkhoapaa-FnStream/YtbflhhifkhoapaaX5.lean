/- What is packed is read as itself. -/
import Derived.Test.YtbflhhifkhoapaaX2
import Derived.Test.YtbflhhifkhoapaaH4
import Derived.WalkKit
import Derived.WalkSpells
import Derived.WalkLawsBesides
import Derived.Deep.QuietTactic
import Derived.BigQuiet
namespace Go.Proofs.Ytbflhhifkhoapaa
open Go.RowKit
set_option linter.unusedVariables false
theorem get_mid (P A S : List Int) (i : Nat) (hi : i < A.length) : (P ++ A ++ S).getD (P.length + i) 0 = A.getD i 0 := by
  rw [List.getD_eq_getElem?_getD, List.getD_eq_getElem?_getD, List.append_assoc, List.getElem?_append_right (by omega), show P.length + i - P.length = i by omega, List.getElem?_append_left hi]
theorem get_in (B P S : List Int) (x c : Int) (h0 : 0 ≤ x) (h1 : x ≤ 9223372036854775807) (hB : B = P ++ putL x ++ S) : getI (fun i => (B ++ [c]).getD i 0) B.length (P.length : Int) = (x, ((P ++ putL x).length : Int), true) := by
  have hp : putL x = putN 10 x := by rw [putL, if_neg (by omega)]
  have hl : 1 ≤ (putL x).length := by rw [hp]; unfold putN; split <;> simp
  have hlen : P.length + (putL x).length ≤ B.length := by rw [hB, List.length_append, List.length_append]; omega
  rw [getI, if_pos ⟨by omega, by omega⟩]
  have h9 : x < 128 ^ 9 := by rw [pow128_9]; omega
  have q := getS_put (fun i => (B ++ [c]).getD i 0) B.length P.length 9 0 x 0 h0 h9 (.inl rfl) (fun h => by omega) (fun i hi => by
    have hi' : i < (putL x).length := by rw [hp]; exact hi
    have e := get_mid P (putL x) (S ++ [c]) i hi'
    rw [← List.append_assoc, ← hB] at e
    rw [← hp]
    exact e) (by rw [← hp]; exact hlen)
  rw [← hp] at q
  rw [Int.toNat_natCast, q]
  simp
theorem fld_in (B P S : List Int) (x c : Int) (h0 : 0 ≤ x) (h1 : x ≤ 4000000000000) (hB : B = P ++ putL x ++ S) : fldC (fun i => (B ++ [c]).getD i 0) B.length (P.length : Int) = true := by
  rw [fldC, get_in B P S x c h0 (by omega) hB]; simp; exact h1
theorem str_back (s : ByteArray) : strOfNums (strL s) = s := by
  have e : (strL s).map (fun n : Int => UInt8.ofNat n.toNat) = s.data.toList := by
    rw [strL, List.map_map]
    have : ((fun n : Int => UInt8.ofNat n.toNat) ∘ fun b : UInt8 => (b.toNat : Int)) = id := by funext b; simp
    rw [this, List.map_id]
  cases s with
  | mk d => rw [strOfNums, e]
theorem last_chk (B : List Int) : chk (fun i => (addChk B).getD i 0) ((addChk B).length - 1) = (addChk B).getD ((addChk B).length - 1) 0 := by
  have hl : (addChk B).length - 1 = B.length := by simp [addChk]
  rw [hl]
  have e1 : chk (fun i => (addChk B).getD i 0) B.length = chk (fun i => B.getD i 0) B.length := chk_congr fun i hi => by
    simp [addChk, List.getElem?_append_left hi]
  rw [e1]
  simp [addChk]
theorem ats_step (f : Nat → Int) (m j : Nat) (y x z : Int) (ha : ats f m j = y) (h : getI f m y = (x, z, true)) : ats f m (j + 1) = z ∧ val f m j = x := by
  simp only [ats, val, ha, h, and_self]
theorem unp_head (B : List Int) (k : Int) (T : List Int) (hB : B = k :: T) (hT : T ≠ []) (hk : 1 ≤ k ∧ k ≤ 3) : unp (fun i => (addChk B).getD i 0) (addChk B).length = if k = 3 then unp3 (fun i => (addChk B).getD i 0) B.length else if k = 2 then unp2 (fun i => (addChk B).getD i 0) B.length else unp1 (fun i => (addChk B).getD i 0) B.length := by
  have hl : (addChk B).length = B.length + 1 := by simp [addChk]
  have hb : 2 ≤ B.length := by
    rw [hB]
    cases T with
    | nil => exact absurd rfl hT
    | cons a t => simp
  have h0 : (addChk B).getD 0 0 = k := by rw [addChk, hB]; simp
  rw [unp, if_neg (by omega), if_neg (by have := last_chk B; simp only [this]; simp), if_neg (by simp only [h0]; simp; exact hk)]
  simp only [h0]
  rw [hl, Nat.add_sub_cancel]
theorem emp_is {s : ByteArray} (h : emp s = true) : s = ⟨#[]⟩ := by
  have q := of_decide_eq_true h
  rw [ByteArray.toList_eq] at q
  cases s with
  | mk d => simp at q; rw [q]
theorem msgB_probe {fr to' no lo hi sl : Int} {s : ByteArray} (h : msgB 1 fr to' no lo hi sl s = true) : lo = 0 ∧ hi = 0 ∧ sl = 0 ∧ s = ⟨#[]⟩ := by
  simp [msgB] at h
  exact ⟨h.1.1.1.2, h.1.1.2, h.1.2, emp_is h.2⟩
theorem msgB_reply {fr to' no lo hi sl : Int} {s : ByteArray} (h : msgB 2 fr to' no lo hi sl s = true) : sl = 0 ∧ s = ⟨#[]⟩ := by
  simp [msgB] at h
  exact ⟨h.1.2, emp_is h.2⟩
theorem msgB_frame {fr to' no lo hi sl : Int} {s : ByteArray} (h : msgB 3 fr to' no lo hi sl s = true) : to' = 0 ∧ no = 0 ∧ lo = 0 ∧ hi = 0 := by
  simp [msgB] at h
  exact ⟨h.1.1.1.2, h.1.1.2, h.1.2, h.2⟩
theorem unp_pack {k fr tu no lo hi sl : Int} {s : ByteArray} (h : msgB k fr tu no lo hi sl s = true) : unp (fun i => (packL k fr tu no lo hi sl s).getD i 0) (packL k fr tu no lo hi sl s).length = (0, (k, fr, tu, no, lo, hi, sl, s)) := by
  obtain ⟨f0, f1, k1, k3, hs⟩ := msgB_from h
  obtain ⟨B, hBd⟩ : ∃ B, B = packB k fr tu no lo hi sl s := ⟨_, rfl⟩
  have hp : packL k fr tu no lo hi sl s = addChk B := by rw [packL, hBd]
  rw [hp]
  have hT : B = k :: (putL fr ++ ((if k = 3 then putL sl ++ putL s.size ++ strL s else putL tu ++ putL no) ++ (if k = 2 then putL (foldI lo) ++ putL (foldI hi) else []))) := by rw [hBd, packB]; simp
  have hne : putL fr ++ ((if k = 3 then putL sl ++ putL s.size ++ strL s else putL tu ++ putL no) ++ (if k = 2 then putL (foldI lo) ++ putL (foldI hi) else [])) ≠ [] := by
    intro e
    exact putL_ne f0 (List.append_eq_nil_iff.1 e).1
  rw [unp_head B k _ hT hne ⟨k1, k3⟩]
  obtain ⟨c, hc⟩ : ∃ c, c = chk (fun i => B.getD i 0) B.length := ⟨_, rfl⟩
  have hA : addChk B = B ++ [c] := by rw [addChk, hc]
  rw [hA]
  clear hc hT hne hp
  have a0 : ats (fun i => (B ++ [c]).getD i 0) B.length 0 = (([k] : List Int).length : Int) := rfl
  by_cases h3 : k = 3
  · subst h3
    have sl0 := msgB_slot h
    obtain ⟨rfl, rfl, rfl, rfl⟩ := msgB_frame h
    have hB : B = [3] ++ putL fr ++ putL sl ++ putL s.size ++ strL s := by rw [hBd, packB]; simp
    have g0 := get_in B [3] (putL sl ++ putL s.size ++ strL s) fr c f0 (by omega) (by rw [hB]; simp)
    have q0 := fld_in B [3] (putL sl ++ putL s.size ++ strL s) fr c f0 (by omega) (by rw [hB]; simp)
    have ⟨a1, v0⟩ := ats_step _ _ 0 _ _ _ a0 g0
    have g1 := get_in B ([3] ++ putL fr) (putL s.size ++ strL s) sl c sl0.1 (by omega) (by rw [hB]; simp)
    have q1 := fld_in B ([3] ++ putL fr) (putL s.size ++ strL s) sl c sl0.1 (by omega) (by rw [hB]; simp)
    have ⟨a2, v1⟩ := ats_step _ _ 1 _ _ _ a1 g1
    have g2 := get_in B ([3] ++ putL fr ++ putL sl) (strL s) s.size c (by omega) (by omega) (by rw [hB])
    have q2 := fld_in B ([3] ++ putL fr ++ putL sl) (strL s) s.size c (by omega) (by omega) (by rw [hB])
    have ⟨a3, v2⟩ := ats_step _ _ 2 _ _ _ a2 g2
    have ok : okA (fun i => (B ++ [c]).getD i 0) B.length 3 = true := by simp only [okA, a0, a1, a2, q0, q1, q2]; rfl
    have hlen : B.length = ([3] ++ putL fr ++ putL sl ++ putL s.size).length + s.size := by rw [hB, List.length_append, strL_len]
    rw [if_pos rfl, unp3, ok, a3, v0, v1, v2]
    have hstr : strF (fun i => (B ++ [c]).getD i 0) (([3] ++ putL fr ++ putL sl ++ putL s.size).length : Int).toNat (s.size : Int).toNat = s := by
      rw [Int.toNat_natCast, Int.toNat_natCast, strF]
      have e : (List.range s.size).map (fun i => (B ++ [c]).getD (([3] ++ putL fr ++ putL sl ++ putL s.size).length + i) 0) = strL s := by
        apply List.ext_getElem
        · simp [strL_len]
        · intro i h1 h2
          have q := get_mid ([3] ++ putL fr ++ putL sl ++ putL s.size) (strL s) [c] i h2
          rw [← hB] at q
          rw [List.getElem_map, List.getElem_range, q, List.getD_eq_getElem?_getD, List.getElem?_eq_getElem h2]; rfl
      rw [e, str_back]
    rw [hstr]
    have nl : ¬ (B.length : Int) - (([3] ++ putL fr ++ putL sl ++ putL s.size).length : Int) < (s.size : Int) := by omega
    rw [if_pos rfl, if_neg nl]
    exact fin_well (by omega) h
  · have hpr := msgB_pair h h3
    by_cases h2 : k = 2
    · subst h2
      have hsd := okI_t (msgB_said h)
      have hf := foldI_bd lo
      have hg := foldI_bd hi
      obtain ⟨rfl, rfl⟩ := msgB_reply h
      have hB : B = [2] ++ putL fr ++ putL tu ++ putL no ++ putL (foldI lo) ++ putL (foldI hi) := by rw [hBd, packB]; simp
      have g0 := get_in B [2] (putL tu ++ putL no ++ putL (foldI lo) ++ putL (foldI hi)) fr c f0 (by omega) (by rw [hB]; simp)
      have q0 := fld_in B [2] (putL tu ++ putL no ++ putL (foldI lo) ++ putL (foldI hi)) fr c f0 (by omega) (by rw [hB]; simp)
      have ⟨a1, v0⟩ := ats_step _ _ 0 _ _ _ a0 g0
      have g1 := get_in B ([2] ++ putL fr) (putL no ++ putL (foldI lo) ++ putL (foldI hi)) tu c hpr.1 (by omega) (by rw [hB]; simp)
      have q1 := fld_in B ([2] ++ putL fr) (putL no ++ putL (foldI lo) ++ putL (foldI hi)) tu c hpr.1 (by omega) (by rw [hB]; simp)
      have ⟨a2, v1⟩ := ats_step _ _ 1 _ _ _ a1 g1
      have g2 := get_in B ([2] ++ putL fr ++ putL tu) (putL (foldI lo) ++ putL (foldI hi)) no c hpr.2.2.1 (by omega) (by rw [hB]; simp)
      have q2 := fld_in B ([2] ++ putL fr ++ putL tu) (putL (foldI lo) ++ putL (foldI hi)) no c hpr.2.2.1 (by omega) (by rw [hB]; simp)
      have ⟨a3, v2⟩ := ats_step _ _ 2 _ _ _ a2 g2
      have g3 := get_in B ([2] ++ putL fr ++ putL tu ++ putL no) (putL (foldI hi)) (foldI lo) c hf.1 (by omega) (by rw [hB])
      have q3 := fld_in B ([2] ++ putL fr ++ putL tu ++ putL no) (putL (foldI hi)) (foldI lo) c hf.1 (by omega) (by rw [hB])
      have ⟨a4, v3⟩ := ats_step _ _ 3 _ _ _ a3 g3
      have g4 := get_in B ([2] ++ putL fr ++ putL tu ++ putL no ++ putL (foldI lo)) [] (foldI hi) c hg.1 (by omega) (by rw [hB]; simp)
      have q4 := fld_in B ([2] ++ putL fr ++ putL tu ++ putL no ++ putL (foldI lo)) [] (foldI hi) c hg.1 (by omega) (by rw [hB]; simp)
      have ⟨a5, v4⟩ := ats_step _ _ 4 _ _ _ a4 g4
      have ok : okA (fun i => (B ++ [c]).getD i 0) B.length 5 = true := by simp only [okA, a0, a1, a2, a3, a4, q0, q1, q2, q3, q4]; rfl
      rw [← hB] at a5
      have ul := (unfold_fold (t := lo) ⟨by omega, by omega⟩).1
      have uh := (unfold_fold (t := hi) ⟨by omega, by omega⟩).1
      have el : endI (foldI lo) = lo := by rw [endI, if_neg (by omega), ul]
      have eh : endI (foldI hi) = hi := by rw [endI, if_neg (by omega), uh]
      rw [if_neg (by decide), if_pos rfl, unp2, ok, a5, v0, v1, v2, v3, v4, el, eh, if_pos rfl]
      exact fin_well (by omega) h
    · have h1 : k = 1 := by omega
      subst h1
      obtain ⟨rfl, rfl, rfl, rfl⟩ := msgB_probe h
      have hB : B = [1] ++ putL fr ++ putL tu ++ putL no := by rw [hBd, packB]; simp
      have g0 := get_in B [1] (putL tu ++ putL no) fr c f0 (by omega) (by rw [hB]; simp)
      have q0 := fld_in B [1] (putL tu ++ putL no) fr c f0 (by omega) (by rw [hB]; simp)
      have ⟨a1, v0⟩ := ats_step _ _ 0 _ _ _ a0 g0
      have g1 := get_in B ([1] ++ putL fr) (putL no) tu c hpr.1 (by omega) (by rw [hB])
      have q1 := fld_in B ([1] ++ putL fr) (putL no) tu c hpr.1 (by omega) (by rw [hB])
      have ⟨a2, v1⟩ := ats_step _ _ 1 _ _ _ a1 g1
      have g2 := get_in B ([1] ++ putL fr ++ putL tu) [] no c hpr.2.2.1 (by omega) (by rw [hB]; simp)
      have q2 := fld_in B ([1] ++ putL fr ++ putL tu) [] no c hpr.2.2.1 (by omega) (by rw [hB]; simp)
      have ⟨a3, v2⟩ := ats_step _ _ 2 _ _ _ a2 g2
      have ok : okA (fun i => (B ++ [c]).getD i 0) B.length 3 = true := by simp only [okA, a0, a1, a2, q0, q1, q2]; rfl
      rw [← hB] at a3
      rw [if_neg (by decide), if_neg (by decide), unp1, ok, a3, v0, v1, v2, if_pos rfl]
      exact fin_well (by omega) h
end Go.Proofs.Ytbflhhifkhoapaa
