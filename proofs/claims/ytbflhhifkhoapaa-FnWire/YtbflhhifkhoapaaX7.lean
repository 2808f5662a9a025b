/- Bytes that are read pack to just themselves. -/
import Derived.Test.YtbflhhifkhoapaaX6
import Derived.Test.YtbflhhifkhoapaaH4
import Derived.WalkKit
import Derived.WalkSpells
import Derived.WalkLawsBesides
import Derived.Deep.QuietTactic
import Derived.BigQuiet
namespace Go.Proofs.Ytbflhhifkhoapaa
open Go.RowKit
set_option linter.unusedVariables false
def seg (f : Nat → Int) (p q : Nat) : List Int := (List.range q).map fun i => f (p + i)
theorem seg_add (f : Nat → Int) (p a b : Nat) : seg f p (a + b) = seg f p a ++ seg f (p + a) b := by
  unfold seg
  rw [List.range_add, List.map_append, List.map_map]
  congr 1
  apply List.map_congr_left
  intro i _
  simp [Nat.add_assoc]
theorem seg_len (f : Nat → Int) (p q : Nat) : (seg f p q).length = q := by simp [seg]
theorem seg_is {f : Nat → Int} {p : Nat} {L : List Int} (h : ∀ i, i < L.length → f (p + i) = L.getD i 0) : seg f p L.length = L := by
  apply List.ext_getElem
  · simp [seg]
  · intro i h1 h2
    have := h i h2
    simp [seg, this, h2]
theorem fold_unfold {x : Int} (h0 : 0 ≤ x) (h1 : x ≤ 2000000000000) : foldI (unfI x) = x := by
  have e : unfI x = unfJ x := if_pos ⟨h0, h1⟩
  rw [e]
  unfold unfJ foldI
  split
  · rw [if_pos (by omega), if_pos (by omega)]; omega
  · rw [if_pos (by omega), if_neg (by omega)]; omega
theorem strL_back {xs : List Int} (h : ∀ x ∈ xs, 0 ≤ x ∧ x ≤ 255) : strL (strOfNums xs) = xs := by
  rw [strL, strOfNums_data, List.map_map]
  conv => rhs; rw [← List.map_id xs]
  apply List.map_congr_left
  intro x hx
  have := h x hx
  simp
  omega
theorem fin_0 {m : Nat} {M N : MT} {x : Int} (h : fin m M x = (0, N)) : N = M ∧ ¬ x < m ∧ msgT M = true := by
  by_cases hx : x < m
  · rw [fin_long hx] at h
    exact absurd (congrArg Prod.fst h) (show ¬ (6 : Int) = 0 by decide)
  · cases hm : msgT M
    · rw [fin_bad hx hm] at h
      exact absurd (congrArg Prod.fst h) (show ¬ (5 : Int) = 0 by decide)
    · rw [fin_well hx hm] at h
      exact ⟨(congrArg Prod.snd h).symm, hx, rfl⟩
theorem fld_form {f : Nat → Int} {m j p : Nat} (hf : ∀ i, i < m → 0 ≤ f i ∧ f i ≤ 255) (ha : ats f m j = (p : Int)) (h : fldC f m (ats f m j) = true) :
    ats f m (j + 1) = ((p + (putL (val f m j)).length : Nat) : Int) ∧ seg f p (putL (val f m j)).length = putL (val f m j) ∧ p + (putL (val f m j)).length ≤ m ∧ 0 ≤ val f m j ∧ val f m j ≤ 4000000000000 := by
  simp only [fldC, Bool.and_eq_true, decide_eq_true_eq] at h
  have e : getI f m (ats f m j) = (val f m j, ats f m (j + 1), true) := by
    refine Prod.ext rfl (Prod.ext rfl ?_)
    exact h.1
  obtain ⟨_, v0, _, hz, hy, hl⟩ := get_form hf e
  rw [ha] at hz hy hl
  rw [Int.toNat_natCast] at hy hl
  exact ⟨by rw [hz]; simp, seg_is hy, hl, v0, h.2⟩
theorem unp_back {f : Nat → Int} {n : Nat} {k fr tu no lo hi sl : Int} {s : ByteArray} (hf : ∀ i, i < n → 0 ≤ f i ∧ f i ≤ 255) (h : unp f n = (0, (k, fr, tu, no, lo, hi, sl, s))) :
    msgB k fr tu no lo hi sl s = true ∧ seg f 0 n = packL k fr tu no lo hi sl s := by
  have z4 : ∀ N : MT, ((4 : Int), zT) ≠ (0, N) := fun N e => absurd (congrArg Prod.fst e) (show ¬ (4 : Int) = 0 by decide)
  by_cases h2 : n < 2
  · have q : unp f n = (1, zT) := if_pos h2
    exact absurd (congrArg Prod.fst (q.symm.trans h)) (show ¬ (1 : Int) = 0 by decide)
  by_cases hc : chk f (n - 1) = f (n - 1)
  case neg =>
    have q : unp f n = (2, zT) := by rw [unp, if_neg h2, if_pos hc]
    exact absurd (congrArg Prod.fst (q.symm.trans h)) (show ¬ (2 : Int) = 0 by decide)
  by_cases hk : 1 ≤ f 0 ∧ f 0 ≤ 3
  case neg =>
    have q : unp f n = (3, zT) := by rw [unp, if_neg h2, if_neg (by rw [hc]; simp), if_pos hk]
    exact absurd (congrArg Prod.fst (q.symm.trans h)) (show ¬ (3 : Int) = 0 by decide)
  have U : unp f n = if f 0 = 3 then unp3 f (n - 1) else if f 0 = 2 then unp2 f (n - 1) else unp1 f (n - 1) := by rw [unp, if_neg h2, if_neg (by rw [hc]; simp), if_neg (by simp; exact hk)]
  obtain ⟨m, hm⟩ : ∃ m, n = m + 1 := ⟨n - 1, by omega⟩
  subst hm
  rw [Nat.add_sub_cancel] at U hc
  have hf' : ∀ i, i < m → 0 ≤ f i ∧ f i ≤ 255 := fun i hi => hf i (by omega)
  have fine : ∀ B : List Int, seg f 0 m = B → seg f 0 (m + 1) = addChk B := by
    intro B hB
    have hl : B.length = m := by rw [← hB, seg_len]
    have e1 : seg f 0 (m + 1) = B ++ [f m] := by rw [seg_add, hB]; simp [seg]
    have e2 : chk (fun i => B.getD i 0) B.length = f m := by
      rw [hl, ← hc]
      apply chk_congr
      intro i hi
      rw [← hB]
      simp [seg, hi]
    rw [e1, addChk, e2]
  have s0 : seg f 0 1 = [f 0] := by simp [seg]
  have a0 : ats f m 0 = ((1 : Nat) : Int) := rfl
  by_cases h3 : f 0 = 3
  · rw [if_pos h3] at U
    cases hok : okA f m 3
    · exact absurd (((show unp3 f m = (4, zT) by rw [unp3, hok]; rfl).symm.trans U.symm).trans h) (z4 _)
    · have hq := hok
      simp only [okA, Bool.and_eq_true] at hq
      obtain ⟨⟨⟨_, q0⟩, q1⟩, q2⟩ := hq
      obtain ⟨a1, e0, l0, _, _⟩ := fld_form (j := 0) hf' a0 q0
      simp only [Nat.reduceAdd] at a1
      obtain ⟨a2, e1, l1, _, _⟩ := fld_form (j := 1) hf' a1 q1
      simp only [Nat.reduceAdd] at a2
      obtain ⟨a3, e2, l2, v2l, v2h⟩ := fld_form (j := 2) hf' a2 q2
      simp only [Nat.reduceAdd] at a3
      obtain ⟨NN, hN⟩ := Int.eq_ofNat_of_zero_le v2l
      by_cases hfew : (m : Int) - ats f m 3 < val f m 2
      · exact absurd (((show unp3 f m = (4, zT) by rw [unp3, hok, if_pos rfl, if_pos hfew]).symm.trans U.symm).trans h) (z4 _)
      · obtain ⟨e, hx, hmg⟩ := fin_0 (((show unp3 f m = fin m (3, val f m 0, 0, 0, 0, 0, val f m 1, strF f (ats f m 3).toNat (val f m 2).toNat) (ats f m 3 + val f m 2) by rw [unp3, hok, if_pos rfl, if_neg hfew]).symm.trans U.symm).trans h)
        have e' : (k, fr, tu, no, lo, hi, sl, s) = ((3 : Int), val f m 0, (0 : Int), (0 : Int), (0 : Int), (0 : Int), val f m 1, strF f (ats f m 3).toNat (val f m 2).toNat) := e
        simp only [Prod.mk.injEq] at e'
        obtain ⟨rfl, rfl, rfl, rfl, rfl, rfl, rfl, hs⟩ := e'
        rw [a3, hN, Int.toNat_natCast, Int.toNat_natCast] at hs hmg
        rw [a3, hN] at hx hfew
        rw [hN] at e2 l2
        have hm2 : m = 1 + (putL (val f m 0)).length + (putL (val f m 1)).length + (putL (NN : Int)).length + NN := by omega
        have hsz : s.size = NN := by rw [hs, strF, strOfNums_size]; simp
        have hst : strL s = seg f (1 + (putL (val f m 0)).length + (putL (val f m 1)).length + (putL (NN : Int)).length) NN := by
          rw [hs, strF, seg]
          apply strL_back
          intro x hxm
          simp at hxm
          obtain ⟨i, hi, rfl⟩ := hxm
          exact hf _ (by omega)
        have hmg' : msgB 3 (val f m 0) 0 0 0 0 (val f m 1) s = true := by rw [hs]; exact hmg
        refine ⟨hmg', ?_⟩
        rw [packL]
        apply fine
        rw [packB, if_pos rfl, if_neg (by decide), hsz, hst]
        conv => lhs; rw [hm2]
        rw [seg_add, seg_add, seg_add, seg_add, s0, h3, Nat.zero_add, Nat.zero_add, Nat.zero_add, Nat.zero_add, e0, e1, e2]
        simp
  · rw [if_neg h3] at U
    by_cases h2' : f 0 = 2
    · rw [if_pos h2'] at U
      cases hok : okA f m 5
      · exact absurd (((show unp2 f m = (4, zT) by rw [unp2, hok]; rfl).symm.trans U.symm).trans h) (z4 _)
      · have hq := hok
        simp only [okA, Bool.and_eq_true] at hq
        obtain ⟨⟨⟨⟨⟨_, q0⟩, q1⟩, q2⟩, q3⟩, q4⟩ := hq
        obtain ⟨a1, e0, l0, _, _⟩ := fld_form (j := 0) hf' a0 q0
        simp only [Nat.reduceAdd] at a1
        obtain ⟨a2, e1, l1, _, _⟩ := fld_form (j := 1) hf' a1 q1
        simp only [Nat.reduceAdd] at a2
        obtain ⟨a3, e2, l2, _, _⟩ := fld_form (j := 2) hf' a2 q2
        simp only [Nat.reduceAdd] at a3
        obtain ⟨a4, e3, l3, v3l, v3h⟩ := fld_form (j := 3) hf' a3 q3
        simp only [Nat.reduceAdd] at a4
        obtain ⟨a5, e4, l4, v4l, v4h⟩ := fld_form (j := 4) hf' a4 q4
        simp only [Nat.reduceAdd] at a5
        obtain ⟨e, hx, hmg⟩ := fin_0 (((show unp2 f m = fin m (2, val f m 0, val f m 1, val f m 2, endI (val f m 3), endI (val f m 4), 0, ⟨#[]⟩) (ats f m 5) by rw [unp2, hok, if_pos rfl]).symm.trans U.symm).trans h)
        have e' : (k, fr, tu, no, lo, hi, sl, s) = ((2 : Int), val f m 0, val f m 1, val f m 2, endI (val f m 3), endI (val f m 4), (0 : Int), (⟨#[]⟩ : ByteArray)) := e
        simp only [Prod.mk.injEq] at e'
        obtain ⟨rfl, rfl, rfl, rfl, rfl, rfl, rfl, rfl⟩ := e'
        have hmg' : msgB 2 (val f m 0) (val f m 1) (val f m 2) (endI (val f m 3)) (endI (val f m 4)) 0 ⟨#[]⟩ = true := hmg
        have hsd := okI_t (msgB_said hmg')
        have le3 : ¬ 2000000000000 < val f m 3 := fun q => by
          have : endI (val f m 3) = 1000000000001 := if_pos q
          omega
        have le4 : ¬ 2000000000000 < val f m 4 := fun q => by
          have : endI (val f m 4) = 1000000000001 := if_pos q
          omega
        have f3 : foldI (endI (val f m 3)) = val f m 3 := by rw [endI, if_neg le3, fold_unfold v3l (by omega)]
        have f4 : foldI (endI (val f m 4)) = val f m 4 := by rw [endI, if_neg le4, fold_unfold v4l (by omega)]
        rw [a5] at hx
        have hm2 : m = 1 + (putL (val f m 0)).length + (putL (val f m 1)).length + (putL (val f m 2)).length + (putL (val f m 3)).length + (putL (val f m 4)).length := by omega
        refine ⟨hmg', ?_⟩
        rw [packL]
        apply fine
        rw [packB, if_neg (by decide), if_pos rfl, f3, f4]
        conv => lhs; rw [hm2]
        rw [seg_add, seg_add, seg_add, seg_add, seg_add, s0, h2', Nat.zero_add, Nat.zero_add, Nat.zero_add, Nat.zero_add, Nat.zero_add, e0, e1, e2, e3, e4]
        simp
    · rw [if_neg h2'] at U
      have h1 : f 0 = 1 := by omega
      cases hok : okA f m 3
      · exact absurd (((show unp1 f m = (4, zT) by rw [unp1, hok]; rfl).symm.trans U.symm).trans h) (z4 _)
      · have hq := hok
        simp only [okA, Bool.and_eq_true] at hq
        obtain ⟨⟨⟨_, q0⟩, q1⟩, q2⟩ := hq
        obtain ⟨a1, e0, l0, _, _⟩ := fld_form (j := 0) hf' a0 q0
        simp only [Nat.reduceAdd] at a1
        obtain ⟨a2, e1, l1, _, _⟩ := fld_form (j := 1) hf' a1 q1
        simp only [Nat.reduceAdd] at a2
        obtain ⟨a3, e2, l2, _, _⟩ := fld_form (j := 2) hf' a2 q2
        simp only [Nat.reduceAdd] at a3
        obtain ⟨e, hx, hmg⟩ := fin_0 (((show unp1 f m = fin m (1, val f m 0, val f m 1, val f m 2, 0, 0, 0, ⟨#[]⟩) (ats f m 3) by rw [unp1, hok, if_pos rfl]).symm.trans U.symm).trans h)
        have e' : (k, fr, tu, no, lo, hi, sl, s) = ((1 : Int), val f m 0, val f m 1, val f m 2, (0 : Int), (0 : Int), (0 : Int), (⟨#[]⟩ : ByteArray)) := e
        simp only [Prod.mk.injEq] at e'
        obtain ⟨rfl, rfl, rfl, rfl, rfl, rfl, rfl, rfl⟩ := e'
        rw [a3] at hx
        have hm2 : m = 1 + (putL (val f m 0)).length + (putL (val f m 1)).length + (putL (val f m 2)).length := by omega
        refine ⟨hmg, ?_⟩
        rw [packL]
        apply fine
        rw [packB, if_neg (by decide), if_neg (by decide)]
        conv => lhs; rw [hm2]
        rw [seg_add, seg_add, seg_add, s0, h1, Nat.zero_add, Nat.zero_add, Nat.zero_add, e0, e1, e2]
        simp
end Go.Proofs.Ytbflhhifkhoapaa
