/- A world of one's own: how great it is, how it is made, how it is marke -/
import Derived.Test.YtddijpjgkifngaaGreatMN25
namespace Go.Proofs.YtddijpjgkifngaaGreat
open Go.RowKit
set_option linter.unusedVariables false
set_option maxRecDepth 100000
set_option maxHeartbeats 16000000
def smN (XM : Nat → NdX) : Nat → Nat
 | 0 => 0
 | k + 1 => smN XM k + ((XM k).na + (XM k).np + (XM k).nh)
def shU (x : WdX) : Prop := shW x ∧ smN x.XM x.nn ≤ 1048576
def NvU (w : World) (g u n k : Nat) (XM : Nat → NdX) : Prop := ∃ (A : Array Value) (AM : Nat → Array Value) (l : Nat → Nat), Bo w g A ∧ A.size = n * 16 ∧ (∀ i, i < k → ∀ j u, (AM i)[j]? = some u → A[i * 16 + j]? = some u) ∧ g + 1 ≤ l 0 ∧ (∀ i, i < k → l i ≤ l (i + 1)) ∧ l k ≤ u ∧ ∀ i, i < k → NdO w (l i) (l (i + 1)) (AM i) (XM i)
theorem NvU.below {w w' : World} {g u n k : Nat} {XM : Nat → NdX} (h : NvU w g u n k XM) (hb : Below w.heap.size w w') : NvU w' g u n k XM := by
 obtain ⟨A, AM, l, h1, h2, h3, h5, h6, h7, h4⟩ := h
 exact ⟨A, AM, l, h1.below hb, h2, h3, h5, h6, h7, fun i hi => (h4 i hi).below hb⟩
theorem jB {l : Nat → Nat} : ∀ {k : Nat}, (∀ i, i < k → l i ≤ l (i + 1)) → l 0 ≤ l k
 | 0, _ => Nat.le_refl _
 | k + 1, h => Nat.le_trans (jB (fun i hi => h i (by omega))) (h k (Nat.lt_succ_self _))
theorem l_up {l : Nat → Nat} {i : Nat} : ∀ {k : Nat}, (∀ i, i < k → l i ≤ l (i + 1)) → i ≤ k → l i ≤ l k
 | 0, _, hi => by rw [Nat.le_zero.1 hi]; exact Nat.le_refl _
 | k + 1, h, hi => by
  rcases Nat.lt_succ_iff_lt_or_eq.1 (Nat.lt_succ_of_le hi) with q | q
  ·exact Nat.le_trans (l_up (fun i hi => h i (by omega)) (Nat.le_of_lt_succ q)) (h k (Nat.lt_succ_self _))
  ·rw [q]; exact Nat.le_refl _
theorem NvU.btw {w w' : World} {g u n k a b : Nat} {XM : Nat → NdX} (h : NvU w g u n k XM) (hb : Btw a b w w') (ho : b ≤ g ∨ u ≤ a ∧ g < a) : NvU w' g u n k XM := by
 obtain ⟨A, AM, l, h1, h2, h3, h5, h6, h7, h4⟩ := h
 refine ⟨A, AM, l, h1.btw hb (by omega), h2, h3, h5, h6, h7, fun i hi => (h4 i hi).btw hb ?_⟩
 have q1 := l_up (i := i) (fun j (hj : j < k) => h6 j hj) (by omega)
 have q2 := l_up (i := i + 1) (fun j (hj : j < k) => h6 j hj) (by omega)
 have q3 : l 0 ≤ l i := jB (fun j hj => h6 j (by omega))
 omega
theorem NvU.wide {w : World} {g u u' n k : Nat} {XM : Nat → NdX} (h : NvU w g u n k XM) (hu : u ≤ u') : NvU w g u' n k XM := by
 obtain ⟨A, AM, l, h1, h2, h3, h5, h6, h7, h4⟩ := h
 exact ⟨A, AM, l, h1, h2, h3, h5, h6, Nat.le_trans h7 hu, h4⟩
theorem NvU.bo {w : World} {g u n k : Nat} {XM : Nat → NdX} (h : NvU w g u n k XM) : ∃ A, Bo w g A ∧ A.size = n * 16 := by
 obtain ⟨A, AM, l, h1, h2, _⟩ := h
 exact ⟨A, h1, h2⟩
theorem NvU.lt {w : World} {g u n k : Nat} {XM : Nat → NdX} (h : NvU w g u n k XM) : g < w.heap.size := by
 obtain ⟨A, h1, _⟩ := h.bo
 exact h1.1
theorem NvU.row {w : World} {g u n : Nat} {XM : Nat → NdX} (h : NvU w g u n n XM) : RwN NdS w (some ⟨g, 0, none⟩) n XM := by
 obtain ⟨A, AM, l, h1, h2, h3, h5, h6, h7, h4⟩ := h
 exact .inr ⟨g, 0, AM, rfl, ⟨h1.1, fun i hi j u hj => by rw [Nat.zero_add]; exact h1.cell (h3 i hi j u hj)⟩, fun i hi => (h4 i hi).src⟩
theorem NvU.put {w : World} {g u n k lo : Nat} {XM : Nat → NdX} {R : Array Value} (h : NvU w g u n k XM) (hR : NdO w lo w.heap.size R (XM k)) (hl : u ≤ lo) (hlo : lo ≤ w.heap.size) (hk : k < n) : NvU (ah w g (k * 16) R.toList) g w.heap.size n (k + 1) XM := by
 obtain ⟨A, AM, l, h1, h2, h3, h5, h6, h7, h4⟩ := h
 have hs := hR.size
 have hb : Btw g (g + 1) w (ah w g (k * 16) R.toList) := af R.toList w (k * 16) g
 refine ⟨spl A (k * 16) R.toList, fun i => if i = k then R else AM i, fun i => if i ≤ k then l i else w.heap.size, Bo.put R.toList (k * 16) h1, by rw [bV, h2], fun i hi j u hj => ?_, ?_, fun i hi => ?_, ?_, fun i hi => ?_⟩
 ·rw [bh _ _ _ _ (by simp [hs]; omega)]
  have hj : (if i = k then R else AM i)[j]? = some u := hj
  by_cases e : i = k
  ·subst e
   rw [if_pos rfl] at hj
   have hj16 : j < 16 := by have := (Array.getElem?_eq_some_iff.1 hj).1; omega
   rw [if_pos (by simp [hs]; omega), Array.getElem?_toList, show i * 16 + j - i * 16 = j by omega]
   exact hj
  ·rw [if_neg e] at hj
   have hj16 : j < 16 := by have := (Array.getElem?_eq_some_iff.1 hj).1; have := (h4 i (by omega)).size; omega
   rw [if_neg (by omega)]
   exact h3 i (by omega) j u hj
 ·show g + 1 ≤ if 0 ≤ k then l 0 else w.heap.size
  rw [if_pos (Nat.zero_le _)]
  exact h5
 ·show (if i ≤ k then l i else w.heap.size) ≤ if i + 1 ≤ k then l (i + 1) else w.heap.size
  rw [if_pos (by omega)]
  by_cases e : i = k
  ·subst e
   rw [if_neg (by omega)]
   omega
  ·rw [if_pos (by omega)]
   exact h6 i (by omega)
 ·show (if k + 1 ≤ k then l (k + 1) else w.heap.size) ≤ w.heap.size
  rw [if_neg (by omega)]
  exact Nat.le_refl _
 ·show NdO _ (if i ≤ k then l i else w.heap.size) (if i + 1 ≤ k then l (i + 1) else w.heap.size) (if i = k then R else AM i) (XM i)
  have q3 : l 0 ≤ l i := jB (fun j hj => h6 j (by omega))
  rw [if_pos (show i ≤ k by omega)]
  by_cases e : i = k
  ·subst e
   rw [if_neg (show ¬ i + 1 ≤ i by omega), if_pos rfl]
   exact (hR.wide (by omega) (Nat.le_refl _)).btw hb (.inr (by omega))
  ·rw [if_pos (show i + 1 ≤ k by omega), if_neg e]
   exact (h4 i (by omega)).btw hb (.inr (by omega))
theorem NvU.new (w : World) (n : Nat) (XM : Nat → NdX) : NvU (w.alloc (gB n)) w.heap.size (w.heap.size + 1) n 0 XM :=
 ⟨_, fun _ => #[], fun _ => w.heap.size + 1, Bo.new w _ 98, size_madeCells _ _, fun i hi => absurd hi (Nat.not_lt_zero _), Nat.le_refl _, fun i hi => absurd hi (Nat.not_lt_zero _), Nat.le_refl _, fun i hi => absurd hi (Nat.not_lt_zero _)⟩
def WdO (w : World) (l0 hi : Nat) (A : Array Value) (x : WdX) : Prop := ∃ p d la ca na fa ba l1 l2 l3 l4 l5 l6, A = wdV x p d (some ⟨la, 0, none⟩) x.nl (some ⟨ca, 0, none⟩) x.nc (some ⟨na, 0, none⟩) x.nn (some ⟨fa, 0, none⟩) x.nf (some ⟨ba, 0, none⟩) x.nb ∧ shU x ∧ (l0 ≤ l1 ∧ l1 ≤ l2 ∧ l2 ≤ l3 ∧ l3 ≤ na ∧ na < l4 ∧ l4 ≤ l5 ∧ l5 ≤ l6 ∧ l6 ≤ hi ∧ hi ≤ w.heap.size) ∧ Rwo w l0 l1 173 2 p x.y.m d (ak x.y.PM) ∧ Rwo w l1 l2 4 1 (some ⟨la, 0, none⟩) x.nl x.nl (boG x.LB) ∧ Rwo w l2 l3 3 1 (some ⟨ca, 0, none⟩) x.nc x.nc (itG x.CM) ∧ NvU w na l4 x.nn x.nn x.XM ∧ Rwo w l4 l5 101 5 (some ⟨fa, 0, none⟩) x.nf x.nf (ap x.FM) ∧ Rwo w l5 l6 103 6 (some ⟨ba, 0, none⟩) x.nb x.nb (av x.BM)
theorem shU.mx {x : WdX} (h : shU x) : mxW x := by
 obtain ⟨⟨s1, s2, s3, s4, _, s6, s7⟩, _⟩ := h
 unfold mxW maxLen
 omega
theorem WdO.below {w w' : World} {l0 hi : Nat} {A : Array Value} {x : WdX} (h : WdO w l0 hi A x) (hb : Below w.heap.size w w') : WdO w' l0 hi A x := by
 obtain ⟨p, d, la, ca, na, fa, ba, l1, l2, l3, l4, l5, l6, e, hs, hl, h1, h2, h3, h4, h5, h6⟩ := h
 have hz := hb.size
 exact ⟨p, d, la, ca, na, fa, ba, l1, l2, l3, l4, l5, l6, e, hs, by omega, h1.below hb, h2.below hb, h3.below hb, h4.below hb, h5.below hb, h6.below hb⟩
theorem WdO.src {w : World} {l0 hi : Nat} {A : Array Value} {x : WdX} (h : WdO w l0 hi A x) : WdS w A x := by
 obtain ⟨p, d, la, ca, na, fa, ba, l1, l2, l3, l4, l5, l6, e, hs, hl, h1, h2, h3, h4, h5, h6⟩ := h
 have e1 := h2.srcC
 have e2 := h3.srcC
 rw [Nat.mul_one] at e1 e2
 exact ⟨p, d, some ⟨la, 0, none⟩, x.nl, some ⟨ca, 0, none⟩, x.nc, some ⟨na, 0, none⟩, x.nn, some ⟨fa, 0, none⟩, x.nf, some ⟨ba, 0, none⟩, x.nb, e, hs.mx, h1.rw, e1, e2, h4.row, h5.srcC, h6.srcC⟩
theorem Rwo.wide {w : World} {lo hi lo' hi' : Nat} {T : TypeId} {sz : Nat} {a : Option Addr} {n c : Nat} {F : Nat → Value} (h : Rwo w lo hi T sz a n c F) (hl : lo' ≤ lo) (hu : hi ≤ hi') : Rwo w lo' hi' T sz a n c F := by
 refine ⟨⟨h.1.1, ?_⟩, fun g hg => Nat.lt_of_lt_of_le (h.2 g hg) hu⟩
 rcases h.1.2 with q | ⟨g, cap, cur, e, h1, h2⟩
 ·exact .inl q
 ·exact .inr ⟨g, cap, cur, e, Nat.le_trans hl h1, h2⟩
def bR (q : Int) (c : Nat) : Value := .bool ((q + (c : Int)) % 3 == 0)
theorem ek (b N n c : Nat) (q0 : Int) (w : World) (hn : n ≤ 1048576) (hq : 0 < q0) (hq1 : q0 ≤ 1073741824) (hN : n ≤ N) (h : ao w b 4 N 0 (bR q0)) :
 Calls Tryz.prog 21 #[.slice (some ⟨b, 0, none⟩) n c, .int .i64 q0] w fun e w' => e = .returned (.int .i64 (q0 + (n : Int))) ∧ ao w' b 4 N n (bR q0) ∧ But b w w' := by
 go_enter Tryz.func21, Tryz.ntmps21
 go_wp2_with fail
 go_loopw [1, 5] (fun q i wr => ∃ (k : Nat) (Q : Int), k ≤ n ∧ i = .int .i64 k ∧ q = .int .i64 Q ∧ Q = q0 + (k : Int) ∧ ao wr b 4 N k (bR q0) ∧ But b w wr) (fun _ i _ => n - (intOf i).toNat)
 case atStart => exact ⟨0, q0, Nat.zero_le _, rfl, rfl, by omega, h, But.refl _ _⟩
 case round =>
  obtain ⟨k, Q, hk, rfl, rfl, hQ, row, hB⟩ := hrel
  clear h
  have HQ : Hid (Q = q0 + (k : Int)) := hQ
  by_cases hlt : k < n
  ·have hli : (k : Int) < (n : Int) := by omega
   have Q0 : 0 < Q := by omega
   have Q1 : Q ≤ 1073741824 + 1048576 := by omega
   clear hQ
   obtain ⟨⟨v1, e1⟩, f1⟩ := row.facts k (by omega)
   have l1 := row.lt
   go_wp2_with fail
   go_roundw
   case rel => exact ⟨k + 1, _, by omega, by go_num, rfl, by have := HQ.out; omega, row.put (k + 1) rfl (by rw [bR, ← HQ.out]), hB.setCell _ _⟩
   case measure => simp [intOf]; omega
  ·have hkn : k = n := by omega
   subst hkn
   have hli : ¬ (k : Int) < (k : Int) := by omega
   subst hQ
   go_wp2_with fail
   go_ret
   exact ⟨rfl, row, hB⟩
theorem dF (a : Option Addr) (c : Nat) (q0 : Int) (w : World) :
 Calls Tryz.prog 21 #[.slice a 0 c, .int .i64 q0] w fun e w' => e = .returned (.int .i64 q0) ∧ w = w' := by
 go_enter Tryz.func21, Tryz.ntmps21
 go_wp2_with fail
 go_loopw [1, 5] (fun q i wr => i = .int .i64 0 ∧ q = .int .i64 q0 ∧ w = wr) (fun _ i _ => 0)
 case atStart => exact ⟨rfl, rfl, by first | rfl | trivial⟩
 case round =>
  obtain ⟨rfl, rfl, rfl⟩ := hrel
  go_wp2_with fail
  go_ret
  exact ⟨rfl, rfl⟩
theorem dG (n c lo hi : Nat) (a : Option Addr) (F : Nat → Value) (q0 : Int) (w : World) (hn : n ≤ 1048576) (hq : 0 < q0) (hq1 : q0 ≤ 1073741824) (h : Rwo w lo hi 4 1 a n c F) :
 Calls Tryz.prog 21 #[.slice a n c, .int .i64 q0] w fun e w' => e = .returned (.int .i64 (q0 + (n : Int) * 1)) ∧ ae w' a (n * 1) (bR q0) ∧ Btw lo hi w w' := by
 have hlt := fun g hg => h.lt (g := g) hg
 rcases h.1.2 with ⟨he, h0⟩ | ⟨g, cap, cur, he, _⟩
 ·simp at he
  obtain ⟨rfl, rfl, rfl⟩ := he
  exact (dF none 0 q0 w).mono fun e w' ⟨h1, h2⟩ => ⟨by rw [h1]; simp, .inl (by omega), h2 ▸ Btw.ofBelow (Below.refl _ _)⟩
 ·simp at he
  obtain ⟨rfl, rfl⟩ := he
  have hg := hlt g rfl
  obtain ⟨h1, h2, _, h3⟩ := bD (bR q0) h.1
  exact (ek g (c * 1) n c q0 w hn hq hq1 (by omega) h3).mono fun e w' ⟨r1, r2, r3⟩ => ⟨by rw [r1]; simp, .inr ⟨g, 0, rfl, by rw [Nat.mul_one]; exact r2.cs (by omega)⟩, ⟨r3.1, r3.2.1, r3.2.2.1, r3.2.2.2.1, fun i hi ho => r3.2.2.2.2 i hi (by omega)⟩⟩
theorem i9 (n c lo hi : Nat) (a : Option Addr) (F : Nat → Value) (q0 : Int) (w : World) (hn : n ≤ 1048576) (hq : 0 < q0) (hq1 : q0 ≤ 1073741824) (h : Rwo w lo hi 3 1 a n c F) :
 Calls Tryz.prog 29 #[.slice a n c, .int .i64 q0] w fun e w' => e = .returned (.int .i64 (q0 + (n : Int) * 1)) ∧ ae w' a (n * 1) (bS q0) ∧ Btw lo hi w w' := by
 have hlt := fun g hg => h.lt (g := g) hg
 rcases h.1.2 with ⟨he, h0⟩ | ⟨g, cap, cur, he, _⟩
 ·simp at he
  obtain ⟨rfl, rfl, rfl⟩ := he
  exact (el none 0 q0 w).mono fun e w' ⟨h1, h2⟩ => ⟨by rw [h1]; simp, .inl (by omega), h2 ▸ Btw.ofBelow (Below.refl _ _)⟩
 ·simp at he
  obtain ⟨rfl, rfl⟩ := he
  have hg := hlt g rfl
  obtain ⟨h1, h2, _, h3⟩ := bD (bS q0) h.1
  exact (fk g (c * 1) n c q0 w hn hq hq1 (by omega) h3).mono fun e w' ⟨r1, r2, r3⟩ => ⟨by rw [r1]; simp, .inr ⟨g, 0, rfl, by rw [Nat.mul_one]; exact r2.cs (by omega)⟩, ⟨r3.1, r3.2.1, r3.2.2.1, r3.2.2.2.1, fun i hi ho => r3.2.2.2.2 i hi (by omega)⟩⟩
def aP (q0 : Int) (c : Nat) : Value := if c % 5 = 3 then .string (txt (q0 + (c : Int))) else .int .i64 (q0 + (c : Int))
theorem bv {q0 : Int} {k j : Nat} {x : Int} (hj : j < 5) (hs : j ≠ 3) (h : x = q0 + ((k * 5 + j : Nat) : Int)) : aP q0 (k * 5 + j) = .int .i64 x := by
 have e : (k * 5 + j) % 5 = j := by omega
 rw [aP, e, if_neg (by omega), h]
theorem gn {q0 : Int} {k j : Nat} {x : Int} (hj : j < 5) (hs : j = 3) (h : x = q0 + ((k * 5 + j : Nat) : Int)) : aP q0 (k * 5 + j) = .string (txt x) := by
 have e : (k * 5 + j) % 5 = j := by omega
 rw [aP, e, if_pos (by omega), h]
theorem cD (b N n c : Nat) (q0 : Int) (w : World) (hn : n ≤ 1048576) (hq : 0 < q0) (hq1 : q0 ≤ 1073741824) (hN : n * 5 ≤ N) (h : ao w b 101 N 0 (aP q0)) :
 Calls Tryz.prog 121 #[.slice (some ⟨b, 0, none⟩) n c, .int .i64 q0] w fun e w' => e = .returned (.int .i64 (q0 + (n : Int) * 5)) ∧ ao w' b 101 N (n * 5) (aP q0) ∧ But b w w' := by
 go_enter Tryz.func121, Tryz.ntmps121
 go_wp2_with fail
 go_loopw [1, 5] (fun q i wr => ∃ (k : Nat) (Q : Int), k ≤ n ∧ i = .int .i64 k ∧ q = .int .i64 Q ∧ Q = q0 + (k : Int) * 5 ∧ ao wr b 101 N (k * 5) (aP q0) ∧ But b w wr) (fun _ i _ => n - (intOf i).toNat)
 case atStart => exact ⟨0, q0, Nat.zero_le _, rfl, rfl, by omega, h.eqm (by omega), But.refl _ _⟩
 case round =>
  obtain ⟨k, Q, hk, rfl, rfl, hQ, row, hB⟩ := hrel
  clear h
  have HQ : Hid (Q = q0 + (k : Int) * 5) := hQ
  by_cases hlt : k < n
  ·have hli : (k : Int) < (n : Int) := by omega
   have Q0 : 0 < Q := by omega
   have Q1 : Q ≤ 1073741824 + 1048576 * 5 := by omega
   clear hQ
   have hlr := row.lt
   obtain ⟨⟨v0, e0⟩, f0⟩ := row.facts (k * 5) (by omega)
   obtain ⟨⟨v1, e1⟩, f1⟩ := row.facts (k * 5 + 1) (by omega)
   obtain ⟨⟨v2, e2⟩, f2⟩ := row.facts (k * 5 + 2) (by omega)
   obtain ⟨⟨v3, e3⟩, f3⟩ := row.facts (k * 5 + 3) (by omega)
   obtain ⟨⟨v4, e4⟩, f4⟩ := row.facts (k * 5 + 4) (by omega)
   go_wp2_with fail
   refine (cv _ _ (by omega) (by omega)).mono ?_
   rintro e w' ⟨rfl, hb⟩
   have row' := ao.below' hb (ao.put (ao.put (ao.put row (k * 5 + 1) (by omega) (bv (k := k) (j := 0) (by decide) (by decide) (by have := HQ.out; omega))) (k * 5 + 2) (by omega) (bv (k := k) (j := 1) (by decide) (by decide) (by have := HQ.out; omega))) (k * 5 + 3) (by omega) (bv (k := k) (j := 2) (by decide) (by decide) (by have := HQ.out; omega)))
   have hB' : But b w w' := But.trans (((hB.setCell _ _).setCell _ _).setCell _ _) (But.of_below hb)
   clear e0 f0 e1 f1 e2 f2 e3 f3 e4 f4 hb row hB hlr
   have row := row'
   have hB := hB'
   clear row' hB'
   have hlr := row.lt
   obtain ⟨⟨v0, e0⟩, f0⟩ := row.facts (k * 5) (by omega)
   obtain ⟨⟨v1, e1⟩, f1⟩ := row.facts (k * 5 + 1) (by omega)
   obtain ⟨⟨v2, e2⟩, f2⟩ := row.facts (k * 5 + 2) (by omega)
   obtain ⟨⟨v3, e3⟩, f3⟩ := row.facts (k * 5 + 3) (by omega)
   obtain ⟨⟨v4, e4⟩, f4⟩ := row.facts (k * 5 + 4) (by omega)
   go_wp2_with fail
   go_roundw
   case rel => exact ⟨k + 1, _, by omega, by go_num, rfl, by have := HQ.out; omega, (ao.put (ao.put row (k * 5 + 4) (by omega) (gn (k := k) (j := 3) (by decide) (by decide) (by have := HQ.out; omega))) ((k + 1) * 5) (by omega) (bv (k := k) (j := 4) (by decide) (by decide) (by have := HQ.out; omega))), ((hB.setCell _ _).setCell _ _)⟩
   case measure => simp [intOf]; omega
  ·have hkn : k = n := by omega
   subst hkn
   have hli : ¬ (k : Int) < (k : Int) := by omega
   subst hQ
   go_wp2_with fail
   go_ret
   exact ⟨rfl, row, hB⟩
theorem cu (a : Option Addr) (c : Nat) (q0 : Int) (w : World) :
 Calls Tryz.prog 121 #[.slice a 0 c, .int .i64 q0] w fun e w' => e = .returned (.int .i64 q0) ∧ w = w' := by
 go_enter Tryz.func121, Tryz.ntmps121
 go_wp2_with fail
 go_loopw [1, 5] (fun q i wr => i = .int .i64 0 ∧ q = .int .i64 q0 ∧ w = wr) (fun _ i _ => 0)
 case atStart => exact ⟨rfl, rfl, by first | rfl | trivial⟩
 case round =>
  obtain ⟨rfl, rfl, rfl⟩ := hrel
  go_wp2_with fail
  go_ret
  exact ⟨rfl, rfl⟩
theorem fj (n c lo hi : Nat) (a : Option Addr) (F : Nat → Value) (q0 : Int) (w : World) (hn : n ≤ 1048576) (hq : 0 < q0) (hq1 : q0 ≤ 1073741824) (h : Rwo w lo hi 101 5 a n c F) :
 Calls Tryz.prog 121 #[.slice a n c, .int .i64 q0] w fun e w' => e = .returned (.int .i64 (q0 + (n : Int) * 5)) ∧ ae w' a (n * 5) (aP q0) ∧ Btw lo hi w w' := by
 have hlt := fun g hg => h.lt (g := g) hg
 rcases h.1.2 with ⟨he, h0⟩ | ⟨g, cap, cur, he, _⟩
 ·simp at he
  obtain ⟨rfl, rfl, rfl⟩ := he
  exact (cu none 0 q0 w).mono fun e w' ⟨h1, h2⟩ => ⟨by rw [h1]; simp, .inl (by omega), h2 ▸ Btw.ofBelow (Below.refl _ _)⟩
 ·simp at he
  obtain ⟨rfl, rfl⟩ := he
  have hg := hlt g rfl
  obtain ⟨h1, h2, _, h3⟩ := bD (aP q0) h.1
  exact (cD g (c * 5) n c q0 w hn hq hq1 (Nat.mul_le_mul_right _ h2) h3).mono fun e w' ⟨r1, r2, r3⟩ => ⟨by rw [r1], .inr ⟨g, 0, rfl, r2.cs (Nat.mul_le_mul_right _ h2)⟩, ⟨r3.1, r3.2.1, r3.2.2.1, r3.2.2.2.1, fun i hi ho => r3.2.2.2.2 i hi (by omega)⟩⟩
theorem dH (b N n c : Nat) (q0 : Int) (w : World) (hn : n ≤ 1048576) (hq : 0 < q0) (hq1 : q0 ≤ 1073741824) (hN : n * 6 ≤ N) (h : ao w b 103 N 0 (aX q0)) :
 Calls Tryz.prog 68 #[.slice (some ⟨b, 0, none⟩) n c, .int .i64 q0] w fun e w' => e = .returned (.int .i64 (q0 + (n : Int) * 6)) ∧ ao w' b 103 N (n * 6) (aX q0) ∧ But b w w' := by
 go_enter Tryz.func68, Tryz.ntmps68
 go_wp2_with fail
 go_loopw [1, 5] (fun q i wr => ∃ (k : Nat) (Q : Int), k ≤ n ∧ i = .int .i64 k ∧ q = .int .i64 Q ∧ Q = q0 + (k : Int) * 6 ∧ ao wr b 103 N (k * 6) (aX q0) ∧ But b w wr) (fun _ i _ => n - (intOf i).toNat)
 case atStart => exact ⟨0, q0, Nat.zero_le _, rfl, rfl, by omega, h.eqm (by omega), But.refl _ _⟩
 case round =>
  obtain ⟨k, Q, hk, rfl, rfl, hQ, row, hB⟩ := hrel
  clear h
  have HQ : Hid (Q = q0 + (k : Int) * 6) := hQ
  by_cases hlt : k < n
  ·have hli : (k : Int) < (n : Int) := by omega
   have Q0 : 0 < Q := by omega
   have Q1 : Q ≤ 1073741824 + 1048576 * 6 := by omega
   clear hQ
   have hlr := row.lt
   obtain ⟨⟨v0, e0⟩, f0⟩ := row.facts (k * 6) (by omega)
   obtain ⟨⟨v1, e1⟩, f1⟩ := row.facts (k * 6 + 1) (by omega)
   obtain ⟨⟨v2, e2⟩, f2⟩ := row.facts (k * 6 + 2) (by omega)
   obtain ⟨⟨v3, e3⟩, f3⟩ := row.facts (k * 6 + 3) (by omega)
   obtain ⟨⟨v4, e4⟩, f4⟩ := row.facts (k * 6 + 4) (by omega)
   obtain ⟨⟨v5, e5⟩, f5⟩ := row.facts (k * 6 + 5) (by omega)
   go_wp2_with fail
   refine (cv _ _ (by omega) (by omega)).mono ?_
   rintro e w' ⟨rfl, hb⟩
   have row' := ao.below' hb (ao.put (ao.put (ao.put (ao.put (ao.put row (k * 6 + 1) (by omega) (bp (k := k) (j := 0) (by decide) (by decide) (by have := HQ.out; omega))) (k * 6 + 2) (by omega) (bp (k := k) (j := 1) (by decide) (by decide) (by have := HQ.out; omega))) (k * 6 + 3) (by omega) (bp (k := k) (j := 2) (by decide) (by decide) (by have := HQ.out; omega))) (k * 6 + 4) (by omega) (bp (k := k) (j := 3) (by decide) (by decide) (by have := HQ.out; omega))) (k * 6 + 5) (by omega) (bp (k := k) (j := 4) (by decide) (by decide) (by have := HQ.out; omega)))
   have hB' : But b w w' := But.trans (((((hB.setCell _ _).setCell _ _).setCell _ _).setCell _ _).setCell _ _) (But.of_below hb)
   clear e0 f0 e1 f1 e2 f2 e3 f3 e4 f4 e5 f5 hb row hB hlr
   have row := row'
   have hB := hB'
   clear row' hB'
   have hlr := row.lt
   obtain ⟨⟨v0, e0⟩, f0⟩ := row.facts (k * 6) (by omega)
   obtain ⟨⟨v1, e1⟩, f1⟩ := row.facts (k * 6 + 1) (by omega)
   obtain ⟨⟨v2, e2⟩, f2⟩ := row.facts (k * 6 + 2) (by omega)
   obtain ⟨⟨v3, e3⟩, f3⟩ := row.facts (k * 6 + 3) (by omega)
   obtain ⟨⟨v4, e4⟩, f4⟩ := row.facts (k * 6 + 4) (by omega)
   obtain ⟨⟨v5, e5⟩, f5⟩ := row.facts (k * 6 + 5) (by omega)
   go_wp2_with fail
   go_roundw
   case rel => exact ⟨k + 1, _, by omega, by go_num, rfl, by have := HQ.out; omega, (ao.put row ((k + 1) * 6) (by omega) (ii (k := k) (j := 5) (by decide) (by decide) (by have := HQ.out; omega))), (hB.setCell _ _)⟩
   case measure => simp [intOf]; omega
  ·have hkn : k = n := by omega
   subst hkn
   have hli : ¬ (k : Int) < (k : Int) := by omega
   subst hQ
   go_wp2_with fail
   go_ret
   exact ⟨rfl, row, hB⟩
theorem gm (n c lo hi : Nat) (a : Option Addr) (F : Nat → Value) (q0 : Int) (w : World) (hn : n ≤ 1048576) (hq : 0 < q0) (hq1 : q0 ≤ 1073741824) (h : Rwo w lo hi 103 6 a n c F) :
 Calls Tryz.prog 68 #[.slice a n c, .int .i64 q0] w fun e w' => e = .returned (.int .i64 (q0 + (n : Int) * 6)) ∧ ae w' a (n * 6) (aX q0) ∧ Btw lo hi w w' := by
 have hlt := fun g hg => h.lt (g := g) hg
 rcases h.1.2 with ⟨he, h0⟩ | ⟨g, cap, cur, he, _⟩
 ·simp at he
  obtain ⟨rfl, rfl, rfl⟩ := he
  exact (cE none 0 q0 w).mono fun e w' ⟨h1, h2⟩ => ⟨by rw [h1]; simp, .inl (by omega), h2 ▸ Btw.ofBelow (Below.refl _ _)⟩
 ·simp at he
  obtain ⟨rfl, rfl⟩ := he
  have hg := hlt g rfl
  obtain ⟨h1, h2, _, h3⟩ := bD (aX q0) h.1
  exact (dH g (c * 6) n c q0 w hn hq hq1 (Nat.mul_le_mul_right _ h2) h3).mono fun e w' ⟨r1, r2, r3⟩ => ⟨by rw [r1], .inr ⟨g, 0, rfl, r2.cs (Nat.mul_le_mul_right _ h2)⟩, ⟨r3.1, r3.2.1, r3.2.2.1, r3.2.2.2.1, fun i hi ho => r3.2.2.2.2 i hi (by omega)⟩⟩
theorem ja (nx : Int) (n c lo hi : Nat) (a : Option Addr) (F : Nat → Value) (q0 : Int) (w : World) (hn : n ≤ 1048576) (hq : 0 < q0) (hq1 : q0 ≤ 1073741824) (h : Rwo w lo hi 101 5 a n c F) :
 Calls Tryz.prog 67 #[.agg #[.int .i64 nx, .slice a n c], .int .i64 q0] w fun e w' => e = .returned (.int .i64 (q0 + (n : Int) * 5)) ∧ ae w' a (n * 5) (aP q0) ∧ Btw lo hi w w' := by
 have A0 := Below.nw w (.cells #[.int .i64 nx, .slice a n c] 49)
 have C := fj n c lo hi a F q0 _ hn hq hq1 (h.below A0)
 clear h
 go_enter Tryz.func67, Tryz.ntmps67
 go_wp2_with fail
 refine C.mono ?_
 rintro e w1 ⟨rfl, R1, hb⟩
 go_wp2_with fail
 go_ret
 exact ⟨rfl, R1, (Btw.ofBelow A0).trans hb⟩
def MkR (w : World) (g n k : Nat) (AM : Nat → Array Value) (s10 s11 s14 : Value) : Prop := ∃ A, Bo w g A ∧ A.size = n * 16 ∧ (∀ i, k < i → i < n → ∀ j u, (AM i)[j]? = some u → j < 16 → A[i * 16 + j]? = some u) ∧ A[k * 16 + 10]? = some s10 ∧ A[k * 16 + 11]? = some s11 ∧ A[k * 16 + 14]? = some s14
theorem MkR.run {P : Program} {w : World} {g n k : Nat} {AM : Nat → Array Value} {s10 s11 s14 : Value} (h : MkR w g n k AM s10 s11 s14) (hk : k < n) (j : Nat) (hj : j < 16) (u : Value) (hu : u.oneCell' = true) : (storeCells ⟨g, k * 16 + j, none⟩ [u] 0).run P w = .ok () (ah w g (k * 16 + j) [u]) := by
 obtain ⟨A, h1, h2, _⟩ := h
 exact Bo.store (P := P) (b := k * 16 + j) [u] (k * 16 + j) 0 h1 rfl (by rw [h2]; simp; omega) (List.forall_mem_cons.2 ⟨hu, fun _ h => nomatch h⟩)
theorem MkR.put {w : World} {g n k : Nat} {AM : Nat → Array Value} {s10 s11 s14 : Value} (h : MkR w g n k AM s10 s11 s14) (hk : k < n) (j : Nat) (hj : j < 16 ∧ j ≠ 10 ∧ j ≠ 11 ∧ j ≠ 14) (u : Value) : MkR (ah w g (k * 16 + j) [u]) g n k AM s10 s11 s14 := by
 obtain ⟨A, h1, h2, h3, h4, h5, h6⟩ := h
 have hz : k * 16 + j + [u].length ≤ A.size := by rw [h2]; simp; omega
 refine ⟨spl A (k * 16 + j) [u], Bo.put [u] (k * 16 + j) h1, by rw [bV, h2], fun i hi hn x v hx hx16 => ?_, ?_, ?_, ?_⟩
 ·rw [bh _ _ _ _ hz, if_neg (by simp; omega)]
  exact h3 i hi hn x v hx hx16
 ·rw [bh _ _ _ _ hz, if_neg (by simp; omega)]; exact h4
 ·rw [bh _ _ _ _ hz, if_neg (by simp; omega)]; exact h5
 ·rw [bh _ _ _ _ hz, if_neg (by simp; omega)]; exact h6
theorem MkR.btw {w w' : World} {g n k lo hi : Nat} {AM : Nat → Array Value} {s10 s11 s14 : Value} (h : MkR w g n k AM s10 s11 s14) (hb : Btw lo hi w w') (ho : g < lo ∨ hi ≤ g) : MkR w' g n k AM s10 s11 s14 := by
 obtain ⟨A, h1, h2⟩ := h
 exact ⟨A, h1.btw hb ho, h2⟩
theorem Btw.wide {lo hi lo' hi' : Nat} {w w' : World} (h : Btw lo hi w w') (hl : lo' ≤ lo) (hu : hi ≤ hi') : Btw lo' hi' w w' :=
 ⟨h.1, h.2.1, h.2.2.1, h.2.2.2.1, fun i hi2 ho => h.2.2.2.2 i hi2 (by omega)⟩
theorem Btw.refl (lo hi : Nat) (w : World) : Btw lo hi w w := ⟨rfl, rfl, rfl, Nat.le_refl _, fun _ _ _ => rfl⟩
end Go.Proofs.YtddijpjgkifngaaGreat
