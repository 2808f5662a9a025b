/- Lines written and read. The laws own ways to tell two ops alike. -/
import Derived.Test.YtddjiamollfplaaGreatDoorMC31
namespace Go.Proofs.YtddjiamollfplaaGreatDoor
open Go.RowKit
set_option linter.unusedVariables false

theorem mi (a : ByteArray) {M : List ByteArray} (h : M ≠ []) : jnB (a :: M) = a ++ spB ++ jnB M := by
 have e := List.dropLast_concat_getLast h
 have q1 := fU _ M.dropLast rfl (M.getLast h)
 have q2 := fU _ (a :: M.dropLast) rfl (M.getLast h)
 rw [List.cons_append, e] at q2
 rw [e] at q1
 rw [q2, q1, bk]
 simp only [ByteArray.append_assoc]
 rfl
theorem jP (Z : List Int) : ∀ j, rwI Z j = (List.range j).map fun i => txI (gI Z i)
 | 0 => rfl
 | j + 1 => by rw [rwI, jP Z j, List.range_succ, List.map_append]; rfl
theorem k6 {α : Type} (d : α) (M : List α) : (List.range M.length).map (fun i => M.getD i d) = M := by
 apply List.ext_getElem?
 intro i
 rw [List.getElem?_map]
 rcases Nat.lt_or_ge i M.length with h | h
 ·rw [List.getElem?_range h, List.getElem?_eq_getElem h, Option.map_some, List.getD_eq_getElem?_getD, List.getElem?_eq_getElem h]
  rfl
 ·rw [List.getElem?_eq_none (by simpa using h), List.getElem?_eq_none h]
  rfl
theorem mS {f : Nat → Int} {n i : Nat} (h : i < n) : gI ((List.range n).map f) i = f i := by
 rw [gI, List.getD_eq_getElem?_getD, List.getElem?_map, List.getElem?_range h]
 rfl
theorem iY (W : List ByteArray) (tb : Bool) : ∀ j, (tb = true → j < W.length - 1) → (∀ i, i < j → nuB (W.getD (i + 1) ⟨#[]⟩) = true) → rdF W tb j = ((List.range j).map (fun i => nuI (W.getD (i + 1) ⟨#[]⟩)), ⟨#[]⟩, 0)
 | 0, _, _ => rfl
 | j + 1, ht, h => by
  have q := iY W tb j (fun e => by have := ht e; omega) (fun i hi => h i (by omega))
  have hne : ¬ (tb = true ∧ j + 1 = W.length - 1) := fun ⟨e, e2⟩ => by have := ht e; omega
  rw [gd (by rw [q]) hne, if_pos (h j (Nat.lt_succ_self j)), q, List.range_succ, List.map_append]
  rfl
theorem jk {w0 : ByteArray} {tb : Bool} {Z : List Int} {t : ByteArray} (hz : ∀ i, i < Z.length → -1000000 ≤ gI Z i ∧ gI Z i ≤ 1000000) (ht : t.size ≤ 64) (h0 : tb = false → t = ⟨#[]⟩) : rdF (w0 :: bG Z tb t) tb (bG Z tb t).length = (Z, t, 0) := by
 have eg : ∀ (M : List ByteArray) i, (w0 :: M).getD (i + 1) ⟨#[]⟩ = M.getD i ⟨#[]⟩ := fun M i => rfl
 have eN : ∀ i, i < Z.length → nuB (txI (gI Z i)) = true ∧ nuI (txI (gI Z i)) = gI Z i := fun i hi => by
  have b := hz i hi
  obtain ⟨q1, q2⟩ := gU (gI Z i) (by omega) (by omega)
  have q3 : nuB (txI (gI Z i)) = true := by rw [q1]; exact decide_eq_true ⟨by omega, by omega⟩
  exact ⟨q3, q2 q3⟩
 have eR : ∀ i, i < Z.length → (rwI Z Z.length).getD i ⟨#[]⟩ = txI (gI Z i) := fun i hi => by
  rw [jP, List.getD_eq_getElem?_getD, List.getElem?_map, List.getElem?_range hi]
  rfl
 have eZ : (List.range Z.length).map (gI Z) = Z := k6 0 Z
 cases tb
 ·rw [eQ, bj]
  have e1 : ∀ i, i < Z.length → (w0 :: rwI Z Z.length).getD (i + 1) ⟨#[]⟩ = txI (gI Z i) := fun i hi => by rw [eg]; exact eR i hi
  rw [iY _ false Z.length (fun e => by cases e) (fun i hi => by rw [e1 i hi]; exact (eN i hi).1), h0 rfl]
  have e2 : (List.range Z.length).map (fun i => nuI ((w0 :: rwI Z Z.length).getD (i + 1) ⟨#[]⟩)) = Z := by
   conv => rhs; rw [← eZ]
   refine List.map_congr_left fun i hi => ?_
   have hi := List.mem_range.1 hi
   rw [e1 i hi]
   exact (eN i hi).2
  rw [e2]
 ·rw [dj]
  have hl : (rwI Z Z.length ++ [aZ t]).length = Z.length + 1 := by rw [List.length_append, bj]; rfl
  rw [hl]
  have e1 : ∀ i, i < Z.length → (w0 :: (rwI Z Z.length ++ [aZ t])).getD (i + 1) ⟨#[]⟩ = txI (gI Z i) := fun i hi => by
   rw [eg, List.getD_eq_getElem?_getD, List.getElem?_append_left (by rw [bj]; exact hi), ← List.getD_eq_getElem?_getD]
   exact eR i hi
  have e3 : (w0 :: (rwI Z Z.length ++ [aZ t])).getD (Z.length + 1) ⟨#[]⟩ = aZ t := by
   rw [eg, List.getD_eq_getElem?_getD, List.getElem?_append_right (by rw [bj]; exact Nat.le_refl _), bj, Nat.sub_self]
   rfl
  have hW : (w0 :: (rwI Z Z.length ++ [aZ t])).length - 1 = Z.length + 1 := by show (rwI Z Z.length ++ [aZ t]).length + 1 - 1 = _; rw [hl]; rfl
  have q := iY (w0 :: (rwI Z Z.length ++ [aZ t])) true Z.length (fun _ => by omega) (fun i hi => by rw [e1 i hi]; exact (eN i hi).1)
  have e2 : (List.range Z.length).map (fun i => nuI ((w0 :: (rwI Z Z.length ++ [aZ t])).getD (i + 1) ⟨#[]⟩)) = Z := by
   conv => rhs; rw [← eZ]
   refine List.map_congr_left fun i hi => ?_
   have hi := List.mem_range.1 hi
   rw [e1 i hi]
   exact (eN i hi).2
  rw [e2] at q
  obtain ⟨x1, x2⟩ := kN t ht
  rw [ic (by rw [q]) hW.symm, e3, if_pos x1, q, x2]
theorem mX {K : Nat} (h1 : 1 ≤ K) (h2 : K ≤ 14) : kdL (nmK (K : Int)) 14 = K := by
 by_cases h : kdL (nmK (K : Int)) 14 = 0
 ·exact absurd rfl (iT _ 14 h K h1 h2)
 ·have e := iR _ 14 h
  have hl := iS (nmK (K : Int)) 14
  by_cases e2 : K = kdL (nmK (K : Int)) 14
  ·exact e2.symm
  ·exact absurd e (k9 K _ h1 h2 (by omega) hl e2)
def cA (x y : OpD) : Prop := x.k = y.k ∧ x.nd = y.nd ∧ x.tt = y.tt ∧ x.a = y.a ∧ x.b = y.b ∧ x.tx = y.tx ∧ x.n = y.n ∧ ∀ i, i < y.n → x.f i = y.f i
theorem cA.ok {x y : OpD} (h : cA x y) : oB x = oB y := by
 obtain ⟨h1, h2, h3, h4, h5, h6, h7, h8⟩ := h
 have e : alB x.f x.n = alB y.f y.n := by
  unfold alB
  refine decide_eq_decide.2 ⟨fun q i hi => ?_, fun q i hi => ?_⟩
  ·rw [← h8 i hi]; exact q i (by rw [h7]; exact hi)
  ·rw [h7] at hi; rw [h8 i hi]; exact q i hi
 unfold oB opB
 rw [e, h1, h2, h3, h4, h5, h6, h7]
theorem aA {x : Int} (h : upB x 0 = true) : x = 0 := by
 unfold upB at h
 rw [Bool.and_eq_true] at h
 have := of_decide_eq_true h.1
 have := of_decide_eq_true h.2
 omega
theorem g6 {x : OpD} (h : oB x = true) : (1 ≤ x.k ∧ x.k ≤ 14) ∧ upB x.nd (bdN x.k) = true ∧ upB x.tt (bdT x.k) = true ∧ upB x.a (bdA x.k) = true ∧ upB x.b (bdB x.k) = true ∧ (x.tx.size : Int) ≤ bdX x.k ∧ (x.n : Int) ≤ bdL x.k := by
 unfold oB opB hdB bdO at h
 simp only [Bool.and_eq_true] at h
 obtain ⟨⟨h1, ⟨⟨⟨⟨⟨h2, h3⟩, _⟩, h4⟩, h5⟩, h6⟩, h7⟩, _⟩ := h
 exact ⟨of_decide_eq_true h1, h2, h3, h4, h5, of_decide_eq_true h6, of_decide_eq_true h7⟩
theorem bC {s : ByteArray} (h : s.size = 0) : s = ⟨#[]⟩ := by
 obtain ⟨d⟩ := s
 have : d = #[] := Array.eq_empty_of_size_eq_zero h
 rw [this]
theorem mr {x : OpD} (h : oB x = true) : cA (opZ x.k (opN x.k x.nd x.tt x.a x.b x.n x.f) x.tx) x ∧ (opT x.k = false → x.tx = ⟨#[]⟩) ∧ ∃ K : Nat, x.k = K ∧ 1 ≤ K ∧ K ≤ 14 ∧ (if K = 1 then (opN x.k x.nd x.tt x.a x.b x.n x.f).length = x.n + 1 ∧ x.n ≤ 8 else (opN x.k x.nd x.tt x.a x.b x.n x.f).length = cnK (K : Int)) := by
 obtain ⟨⟨k1, k2⟩, p1, p2, p3, p4, p5, p6⟩ := g6 h
 obtain ⟨k, nd, tt, a, b, tx, n, f⟩ := x
 obtain ⟨K, rfl⟩ := Int.eq_ofNat_of_zero_le (show 0 ≤ k from Int.le_trans (by decide) k1)
 have h1 : 1 ≤ K := by have : (1 : Int) ≤ (K : Int) := k1; omega
 have h2 : K ≤ 14 := by have : (K : Int) ≤ 14 := k2; omega
 clear h k1 k2
 rcases jy h1 h2 with rfl | rfl | rfl | rfl | rfl | rfl | rfl | rfl | rfl | rfl | rfl | rfl | rfl | rfl
 ·obtain rfl : nd = 0 := aA p1
  obtain rfl : tt = 0 := aA p2
  obtain rfl : b = 0 := aA p4
  obtain rfl : tx = ⟨#[]⟩ := bC (by have : (tx.size : Int) ≤ 0 := p5; omega)
  have hn : n ≤ 8 := by have : (n : Int) ≤ 8 := p6; omega
  have hl : (a :: (List.range n).map f).length = n + 1 := by simp
  refine ⟨⟨rfl, rfl, rfl, rfl, rfl, rfl, ?_, fun i hi => ?_⟩, fun _ => rfl, 1, rfl, by decide, by decide, hl, hn⟩
  ·show (a :: (List.range n).map f).length - 1 = n
   rw [hl]; rfl
  ·exact mS hi
 ·obtain rfl : tt = 0 := aA p2
  obtain rfl : a = 0 := aA p3
  obtain rfl : b = 0 := aA p4
  obtain rfl : tx = ⟨#[]⟩ := bC (by have : (tx.size : Int) ≤ 0 := p5; omega)
  obtain rfl : n = 0 := by have : (n : Int) ≤ 0 := p6; omega
  exact ⟨⟨rfl, rfl, rfl, rfl, rfl, rfl, rfl, fun i hi => absurd hi (Nat.not_lt_zero _)⟩, (fun _ => rfl), 2, rfl, by decide, by decide, rfl⟩
 ·obtain rfl : tt = 0 := aA p2
  obtain rfl : a = 0 := aA p3
  obtain rfl : b = 0 := aA p4
  obtain rfl : tx = ⟨#[]⟩ := bC (by have : (tx.size : Int) ≤ 0 := p5; omega)
  obtain rfl : n = 0 := by have : (n : Int) ≤ 0 := p6; omega
  exact ⟨⟨rfl, rfl, rfl, rfl, rfl, rfl, rfl, fun i hi => absurd hi (Nat.not_lt_zero _)⟩, (fun _ => rfl), 3, rfl, by decide, by decide, rfl⟩
 ·obtain rfl : tt = 0 := aA p2
  obtain rfl : tx = ⟨#[]⟩ := bC (by have : (tx.size : Int) ≤ 0 := p5; omega)
  obtain rfl : n = 0 := by have : (n : Int) ≤ 0 := p6; omega
  exact ⟨⟨rfl, rfl, rfl, rfl, rfl, rfl, rfl, fun i hi => absurd hi (Nat.not_lt_zero _)⟩, (fun _ => rfl), 4, rfl, by decide, by decide, rfl⟩
 ·obtain rfl : a = 0 := aA p3
  obtain rfl : b = 0 := aA p4
  obtain rfl : tx = ⟨#[]⟩ := bC (by have : (tx.size : Int) ≤ 0 := p5; omega)
  obtain rfl : n = 0 := by have : (n : Int) ≤ 0 := p6; omega
  exact ⟨⟨rfl, rfl, rfl, rfl, rfl, rfl, rfl, fun i hi => absurd hi (Nat.not_lt_zero _)⟩, (fun _ => rfl), 5, rfl, by decide, by decide, rfl⟩
 ·obtain rfl : tt = 0 := aA p2
  obtain rfl : a = 0 := aA p3
  obtain rfl : b = 0 := aA p4
  obtain rfl : tx = ⟨#[]⟩ := bC (by have : (tx.size : Int) ≤ 0 := p5; omega)
  obtain rfl : n = 0 := by have : (n : Int) ≤ 0 := p6; omega
  exact ⟨⟨rfl, rfl, rfl, rfl, rfl, rfl, rfl, fun i hi => absurd hi (Nat.not_lt_zero _)⟩, (fun _ => rfl), 6, rfl, by decide, by decide, rfl⟩
 ·obtain rfl : tt = 0 := aA p2
  obtain rfl : a = 0 := aA p3
  obtain rfl : b = 0 := aA p4
  obtain rfl : tx = ⟨#[]⟩ := bC (by have : (tx.size : Int) ≤ 0 := p5; omega)
  obtain rfl : n = 0 := by have : (n : Int) ≤ 0 := p6; omega
  exact ⟨⟨rfl, rfl, rfl, rfl, rfl, rfl, rfl, fun i hi => absurd hi (Nat.not_lt_zero _)⟩, (fun _ => rfl), 7, rfl, by decide, by decide, rfl⟩
 ·obtain rfl : tt = 0 := aA p2
  obtain rfl : a = 0 := aA p3
  obtain rfl : b = 0 := aA p4
  obtain rfl : tx = ⟨#[]⟩ := bC (by have : (tx.size : Int) ≤ 0 := p5; omega)
  obtain rfl : n = 0 := by have : (n : Int) ≤ 0 := p6; omega
  exact ⟨⟨rfl, rfl, rfl, rfl, rfl, rfl, rfl, fun i hi => absurd hi (Nat.not_lt_zero _)⟩, (fun _ => rfl), 8, rfl, by decide, by decide, rfl⟩
 ·obtain rfl : tt = 0 := aA p2
  obtain rfl : b = 0 := aA p4
  obtain rfl : n = 0 := by have : (n : Int) ≤ 0 := p6; omega
  exact ⟨⟨rfl, rfl, rfl, rfl, rfl, rfl, rfl, fun i hi => absurd hi (Nat.not_lt_zero _)⟩, (fun h => by cases h), 9, rfl, by decide, by decide, rfl⟩
 ·obtain rfl : nd = 0 := aA p1
  obtain rfl : tt = 0 := aA p2
  obtain rfl : b = 0 := aA p4
  obtain rfl : tx = ⟨#[]⟩ := bC (by have : (tx.size : Int) ≤ 0 := p5; omega)
  obtain rfl : n = 0 := by have : (n : Int) ≤ 0 := p6; omega
  exact ⟨⟨rfl, rfl, rfl, rfl, rfl, rfl, rfl, fun i hi => absurd hi (Nat.not_lt_zero _)⟩, (fun _ => rfl), 10, rfl, by decide, by decide, rfl⟩
 ·obtain rfl : nd = 0 := aA p1
  obtain rfl : tt = 0 := aA p2
  obtain rfl : b = 0 := aA p4
  obtain rfl : tx = ⟨#[]⟩ := bC (by have : (tx.size : Int) ≤ 0 := p5; omega)
  obtain rfl : n = 0 := by have : (n : Int) ≤ 0 := p6; omega
  exact ⟨⟨rfl, rfl, rfl, rfl, rfl, rfl, rfl, fun i hi => absurd hi (Nat.not_lt_zero _)⟩, (fun _ => rfl), 11, rfl, by decide, by decide, rfl⟩
 ·obtain rfl : nd = 0 := aA p1
  obtain rfl : tt = 0 := aA p2
  obtain rfl : b = 0 := aA p4
  obtain rfl : tx = ⟨#[]⟩ := bC (by have : (tx.size : Int) ≤ 0 := p5; omega)
  obtain rfl : n = 0 := by have : (n : Int) ≤ 0 := p6; omega
  exact ⟨⟨rfl, rfl, rfl, rfl, rfl, rfl, rfl, fun i hi => absurd hi (Nat.not_lt_zero _)⟩, (fun _ => rfl), 12, rfl, by decide, by decide, rfl⟩
 ·obtain rfl : nd = 0 := aA p1
  obtain rfl : tt = 0 := aA p2
  obtain rfl : tx = ⟨#[]⟩ := bC (by have : (tx.size : Int) ≤ 0 := p5; omega)
  obtain rfl : n = 0 := by have : (n : Int) ≤ 0 := p6; omega
  exact ⟨⟨rfl, rfl, rfl, rfl, rfl, rfl, rfl, fun i hi => absurd hi (Nat.not_lt_zero _)⟩, (fun _ => rfl), 13, rfl, by decide, by decide, rfl⟩
 ·obtain rfl : a = 0 := aA p3
  obtain rfl : b = 0 := aA p4
  obtain rfl : n = 0 := by have : (n : Int) ≤ 0 := p6; omega
  exact ⟨⟨rfl, rfl, rfl, rfl, rfl, rfl, rfl, fun i hi => absurd hi (Nat.not_lt_zero _)⟩, (fun h => by cases h), 14, rfl, by decide, by decide, rfl⟩
theorem kl (Z : List Int) (tb : Bool) (t : ByteArray) : ∀ x ∈ bG Z tb t, bF 32 x := by
 have q : ∀ j, ∀ x ∈ rwI Z j, bF 32 x := by
  intro j
  induction j with
  | zero => intro x hx; cases hx
  | succ j ih =>
   intro x hx
   rw [rwI] at hx
   rcases List.mem_append.1 hx with hx | hx
   ·exact ih x hx
   ·rw [List.mem_singleton.1 hx]; exact mg _
 intro x hx
 cases tb
 ·exact q _ x hx
 ·rw [dj] at hx
  rcases List.mem_append.1 hx with hx | hx
  ·exact q _ x hx
  ·rw [List.mem_singleton.1 hx]; exact kL _
theorem mz {Z : List Int} {tb : Bool} {t : ByteArray} (h : 1 ≤ Z.length) : bG Z tb t ≠ [] := fun e => by
 have q := (iF Z tb t).2
 rw [e] at q
 have : Z.length ≤ 0 := q
 omega
theorem mm {x : OpD} (h : oB x = true) (hne : 1 ≤ (opN x.k x.nd x.tt x.a x.b x.n x.f).length) : oL x = jnB (nmK x.k :: bG (opN x.k x.nd x.tt x.a x.b x.n x.f) (opT x.k) x.tx) := by
 rw [mi _ (mz hne)]
 exact gW h
theorem jK {x : OpD} (h : oB x = true) : (paS (oL x)).2 = 0 ∧ cA (paS (oL x)).1 x := by
 obtain ⟨hS, ht, K, hK, k1, k2, hl⟩ := mr h
 have hne : 1 ≤ (opN x.k x.nd x.tt x.a x.b x.n x.f).length := by
  by_cases e : K = 1
  ·rw [if_pos e] at hl; omega
  ·rw [if_neg e] at hl; rw [hl]; exact fP _
 have hb := (co h).2.2.2
 have htx : x.tx.size ≤ 64 := (co h).2.1
 have hW : wdW (oL x) 32 = nmK x.k :: bG (opN x.k x.nd x.tt x.a x.b x.n x.f) (opT x.k) x.tx := by
  rw [mm h hne]
  refine ny (by simp) fun y hy => ?_
  rcases List.mem_cons.1 hy with hy | hy
  ·rw [hy, hK]; exact mf K k2
  ·exact kl _ _ _ y hy
 have hs : ¬ 20000 < (oL x).size := by have := d9 x; omega
 rw [jL hs, hW]
 have hk : kdL ((nmK x.k :: bG (opN x.k x.nd x.tt x.a x.b x.n x.f) (opT x.k) x.tx).getD 0 ⟨#[]⟩) 14 = K := by
  show kdL (nmK x.k) 14 = K
  rw [hK]
  exact mX k1 k2
 have hrd := jk (w0 := nmK x.k) (tb := opT x.k) (Z := opN x.k x.nd x.tt x.a x.b x.n x.f) (t := x.tx) (fun i _ => hb i) htx ht
 have hlen : (bG (opN x.k x.nd x.tt x.a x.b x.n x.f) (opT x.k) x.tx).length = (opN x.k x.nd x.tt x.a x.b x.n x.f).length + (if opT x.k = true then 1 else 0) := by
  cases opT x.k
  ·rw [eQ, bj]; rfl
  ·rw [dj, List.length_append, bj]; rfl
 have hm : mOk K (nmK x.k :: bG (opN x.k x.nd x.tt x.a x.b x.n x.f) (opT x.k) x.tx).length = true := by
  rw [List.length_cons, hlen]
  by_cases e : K = 1
  ·rw [if_pos e] at hl
   have ht1 : opT x.k = false := by rw [hK, e]; rfl
   rw [mOk, if_pos e, ht1, if_neg (by decide)]
   exact decide_eq_true ⟨by omega, by omega⟩
  ·rw [if_neg e] at hl
   rw [mOk, if_neg e, hK, ← hK, hl]
   refine decide_eq_true ?_
   rw [hK]
   omega
 have q := iX (L := opN x.k x.nd x.tt x.a x.b x.n x.f) (t := x.tx) hk (by omega) hm (by rw [← hK]; exact hrd)
 rw [← hK] at q
 rw [hS.ok, h] at q
 rw [q]
 exact ⟨rfl, hS⟩
end Go.Proofs.YtddjiamollfplaaGreatDoor
namespace Go.Proofs.YtddjiamollfplaaGreatDoor
open Go.RowKit
set_option linter.unusedVariables false

set_option maxHeartbeats 4000000 in
theorem fi (b off b' off' n c c' : Nat) (f : Nat → Int) (w : World) (hn : n ≤ maxLen) (hf : Cs w b off n (itG f)) (hg : Cs w b' off' n (itG f)) :
 Calls Tryz.prog 33 #[.slice (some ⟨b, off, none⟩) n c, .slice (some ⟨b', off', none⟩) n c'] w fun e w' => e = .returned (.bool true) ∧ Below w.heap.size w w' := by
 unfold maxLen at hn
 have HF : Hid (Cs w b off n (itG f)) := hf
 have HG : Hid (Cs w b' off' n (itG f)) := hg
 clear hf hg
 go_enter Tryz.func33, Tryz.ntmps33
 go_wp2_with fail
 go_loopw [5] (fun i wr => ∃ k : Nat, k ≤ n ∧ i = .int .i64 k ∧ Below w.heap.size w wr) (fun i _ => n - (intOf i).toNat)
 case atStart => exact ⟨0, Nat.zero_le _, rfl, Below.refl _ _⟩
 case round =>
  obtain ⟨k, hk, rfl, hB⟩ := hrel
  by_cases hlt : k < n
  ·have c0 : wr.cell? ⟨b, off + k, none⟩ = some (.int .i64 (f k)) := (HF.out.below hB HF.out.1).2 k hlt
   have d0 : wr.cell? ⟨b', off' + k, none⟩ = some (.int .i64 (f k)) := (HG.out.below hB HG.out.1).2 k hlt
   have hsz := hB.size
   have hli : (k : Int) < (n : Int) := by omega
   go_wp2_with fail
   go_region
   all_goals go_wp2_with fail
   all_goals go_roundw
   all_goals first | (case rel => exact ⟨k + 1, by omega, by go_num, Below.drew hB⟩) | skip
   all_goals first | (case measure => simp [intOf]; omega) | skip
  ·go_wp2_with fail
   go_ret
   exact ⟨rfl, hB⟩
set_option maxHeartbeats 400000 in
theorem fj (a a' : Option Addr) (c c' : Nat) (w : World) :
 Calls Tryz.prog 33 #[.slice a 0 c, .slice a' 0 c'] w fun e w' => e = .returned (.bool true) ∧ Below w.heap.size w w' := by
 go_enter Tryz.func33, Tryz.ntmps33
 go_wp2_with fail
 go_loopw [5] (fun i wr => i = .int .i64 0 ∧ w = wr) (fun i _ => 0)
 case atStart => exact ⟨rfl, by first | rfl | trivial⟩
 case round =>
  obtain ⟨rfl, rfl⟩ := hrel
  go_wp2_with fail
  go_ret
  exact ⟨rfl, Below.refl _ _⟩
theorem gg (a a' : Option Addr) (n c c' : Nat) (f : Nat → Int) (w : World) (hn : n ≤ maxLen) (h : ci w a n (itG f)) (h' : ci w a' n (itG f)) :
 Calls Tryz.prog 33 #[.slice a n c, .slice a' n c'] w fun e w' => e = .returned (.bool true) ∧ Below w.heap.size w w' := by
 by_cases h0 : n = 0
 ·subst h0; exact fj a a' c c' w
 ·rcases h with h | ⟨b, off, rfl, hp⟩
  ·exact absurd h h0
  ·rcases h' with h | ⟨b', off', rfl, hp'⟩
   ·exact absurd h h0
   ·exact fi b off b' off' n c c' f w hn hp hp'
set_option maxHeartbeats 4000000 in
theorem ii (k nd tt a b : Int) (tx : ByteArray) (p p' : Option Addr) (n c c' : Nat) (f : Nat → Int) (w : World) (hn : n ≤ maxLen) (h : ci w p n (itG f)) (h' : ci w p' n (itG f)) :
 Calls Tryz.prog 10 #[.agg #[.int .i64 k, .int .i64 nd, .int .i64 tt, .int .i64 a, .int .i64 b, .string tx, .slice p n c], .agg #[.int .i64 k, .int .i64 nd, .int .i64 tt, .int .i64 a, .int .i64 b, .string tx, .slice p' n c']] w fun e w' => e = .returned (.bool true) ∧ Below w.heap.size w w' := by
 have A0 := (Below.nw w (.cells #[.int .i64 k, .int .i64 nd, .int .i64 tt, .int .i64 a, .int .i64 b, .string tx, .slice p n c] 26)).alloc (by simp) (.cells #[.int .i64 k, .int .i64 nd, .int .i64 tt, .int .i64 a, .int .i64 b, .string tx, .slice p' n c'] 26)
 have C := gg p p' n c c' f _ hn (h.below A0) (h'.below A0)
 clear h h'
 go_enter Tryz.func10, Tryz.ntmps10
 go_wp2_with fail
 refine C.mono ?_
 rintro e w1 ⟨rfl, hb⟩
 go_wp2_with fail
 go_ret
 exact ⟨rfl, A0.trans (hb.mono A0.size)⟩
theorem kk {w : World} {a : Option Addr} {n : Nat} {f g : Nat → Int} (h : ci w a n (itG f)) (he : ∀ i, i < n → f i = g i) : ci w a n (itG g) := by
 rcases h with h | ⟨b, off, h1, h2, h3⟩
 ·exact .inl h
 ·exact .inr ⟨b, off, h1, h2, fun j hj => by rw [h3 j hj]; unfold itG; rw [he j hj]⟩
theorem lB {X Y : OpD} (h : cA X Y) (p p' : Option Addr) (c c' : Nat) (w : World) (hn : X.n ≤ maxLen) (hX : ci w p X.n (itG X.f)) (hY : ci w p' Y.n (itG Y.f)) :
 Calls Tryz.prog 10 #[.agg (opV X p c), .agg (opV Y p' c')] w fun e w' => e = .returned (.bool true) ∧ Below w.heap.size w w' := by
 obtain ⟨k, nd, tt, a, b, tx, n, f⟩ := X
 obtain ⟨k2, nd2, tt2, a2, b2, tx2, n2, f2⟩ := Y
 obtain ⟨h1, h2, h3, h4, h5, h6, h7, h8⟩ := h
 simp only at h1 h2 h3 h4 h5 h6 h7 h8 hn hX hY
 subst h1 h2 h3 h4 h5 h6 h7
 exact ii k nd tt a b tx p p' n c c' f2 w hn (kk hX h8) hY

end Go.Proofs.YtddjiamollfplaaGreatDoor
