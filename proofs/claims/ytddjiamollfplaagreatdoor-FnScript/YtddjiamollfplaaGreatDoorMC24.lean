/- OpLine in the program. -/
import Derived.Test.YtddjiamollfplaaGreatDoorMC22
import Derived.Test.YtddjiamollfplaaGreatDoorMC23
namespace Go.Proofs.YtddjiamollfplaaGreatDoor
open Go.RowKit
set_option linter.unusedVariables false
theorem er {L : List ByteArray} (x : ByteArray) (h : 0 < L.length) : jnB (L ++ [x]) = jnB L ++ spB ++ x := by
 cases L with
 | nil => exact absurd h (by simp)
 | cons a L =>
  rw [List.cons_append, fV, fV]
  apply ByteArray.ext
  apply Array.ext'
  simp [Go.Lib.joinTail, ByteArray.data_append]
theorem kX (L : List Int) (o : ByteArray) : ∀ j, lnL L (j + 1) o = o ++ spB ++ jnB (rwI L (j + 1))
 | 0 => by rw [lnL, lnL, rwI, rwI, List.nil_append, jn1]; rfl
 | j + 1 => by
  show (lnL L (j + 1) o ++ ⟨#[32]⟩) ++ txI (gI L (j + 1)) = o ++ spB ++ jnB (rwI L (j + 1) ++ [txI (gI L (j + 1))])
  rw [kX L o j, er _ (by rw [bj]; omega)]
  apply ByteArray.ext
  simp [ByteArray.data_append, spB]
theorem gZ (k nd tt a b : Int) (n : Nat) (f : Nat → Int) : 0 < (opN k nd tt a b n f).length := by
 unfold opN
 repeat' split
 all_goals simp
theorem iF (Z : List Int) (tb : Bool) (tx : ByteArray) : (bG Z tb tx).length ≤ Z.length + 1 ∧ Z.length ≤ (bG Z tb tx).length := by
 cases tb
 ·rw [eQ, bj]; omega
 ·rw [dj, List.length_append, bj]; exact ⟨Nat.le_refl _, Nat.le_succ _⟩
theorem eG (Z : List Int) : ∀ j, ∀ y ∈ rwI Z j, y.size ≤ 130
 | 0, y, hy => by simp [rwI] at hy
 | j + 1, y, hy => by
  rw [rwI] at hy
  rcases List.mem_append.1 hy with q | q
  ·exact eG Z j y q
  ·simp at q; subst q; have := eP (gI Z j); omega
theorem km (Z : List Int) (tb : Bool) (tx : ByteArray) : ∀ y ∈ bG Z tb tx, y.size ≤ 130 := by
 intro y hy
 cases tb
 ·exact eG Z _ y hy
 ·rw [dj] at hy
  rcases List.mem_append.1 hy with q | q
  ·exact eG Z _ y q
  ·simp at q; subst q; have := dH tx; omega
theorem gW {k nd tt a b : Int} {tx : ByteArray} {n : Nat} {f : Nat → Int} (h : opB k nd tt a b tx n f = true) : olO k nd tt a b tx n f = nmK k ++ spB ++ jnB (bG (opN k nd tt a b n f) (opT k) tx) := by
 obtain ⟨m, hm⟩ : ∃ m, (opN k nd tt a b n f).length = m + 1 := ⟨(opN k nd tt a b n f).length - 1, by have := gZ k nd tt a b n f; omega⟩
 rw [olO, if_pos h]
 cases ht : opT k
 ·rw [if_neg (by decide), eQ, olB, hm, kX]
 ·rw [if_pos rfl, dj, olB, hm, kX, er _ (by rw [bj]; omega)]
  apply ByteArray.ext
  simp [ByteArray.data_append, spB]
theorem bs (ob : Nat) (ad : Addr) : ∀ n j x, (psL ob ad n)[j]? = some x → (j = 0 ∧ x = ⟨ob, 3, none⟩) ∨ (1 ≤ j ∧ j ≤ n ∧ x = ad.add (j - 1))
 | 0, j, x, h => by
  rw [psL] at h
  match j, h with
  | 0, h => simp at h; exact .inl ⟨rfl, h.symm⟩
  | j + 1, h => simp at h
 | n + 1, j, x, h => by
  rw [psL] at h
  by_cases hj : j < 1 + n
  ·rw [List.getElem?_append_left (by rw [bu]; exact hj)] at h
   rcases bs ob ad n j x h with q | ⟨q1, q2, q3⟩
   ·exact .inl q
   ·exact .inr ⟨q1, by omega, q3⟩
  ·rw [List.getElem?_append_right (by rw [bu]; omega), bu] at h
   match hd : j - (1 + n), h with
   | 0, h => simp at h; exact .inr ⟨by omega, by omega, by rw [← h]; congr 1; omega⟩
   | d + 1, h => simp at h
theorem mo (ob : Nat) (K : Nat) (h1 : 1 ≤ K) (h2 : K ≤ 14) (nd tt a b : Int) (p : Option Addr) (n : Nat) (f : Nat → Int) (hp : (p = none ∧ n = 0) ∨ ∃ b off, p = some ⟨b, off, none⟩) : (opA ob p n (K : Int)).length = (opN (K : Int) nd tt a b n f).length := by
 rcases (show K = 1 ∨ K = 2 ∨ K = 3 ∨ K = 4 ∨ K = 5 ∨ K = 6 ∨ K = 7 ∨ K = 8 ∨ K = 9 ∨ K = 10 ∨ K = 11 ∨ K = 12 ∨ K = 13 ∨ K = 14 by omega) with rfl | rfl | rfl | rfl | rfl | rfl | rfl | rfl | rfl | rfl | rfl | rfl | rfl | rfl
 ·show (psP ob p n).length = (a :: (List.range n).map f).length
  rcases hp with ⟨rfl, rfl⟩ | ⟨b', off, rfl⟩
  ·rfl
  ·show (psL ob _ n).length = _
   rw [bu]
   simp
   omega
 all_goals rfl
theorem kb {w : World} {ob : Nat} {K : Nat} (h1 : 1 ≤ K) (h2 : K ≤ 14) {nd tt a b : Int} {tx : ByteArray} {p : Option Addr} {n c : Nat} {f : Nat → Int} (hO : Bo w ob #[.int .i64 (K : Int), .int .i64 nd, .int .i64 tt, .int .i64 a, .int .i64 b, .string tx, .slice p n c]) (hs : LsO w p n c f) :
 ∀ (j : Nat) x, (opA ob p n (K : Int))[j]? = some x → x.block < w.heap.size ∧ w.cell? x = some (.int .i64 (gI (opN (K : Int) nd tt a b n f) j)) := by
 rcases (show K = 1 ∨ K = 2 ∨ K = 3 ∨ K = 4 ∨ K = 5 ∨ K = 6 ∨ K = 7 ∨ K = 8 ∨ K = 9 ∨ K = 10 ∨ K = 11 ∨ K = 12 ∨ K = 13 ∨ K = 14 by omega) with rfl | rfl | rfl | rfl | rfl | rfl | rfl | rfl | rfl | rfl | rfl | rfl | rfl | rfl
 ·intro j x h
  have h : (psP ob p n)[j]? = some x := h
  show x.block < w.heap.size ∧ w.cell? x = some (.int .i64 (gI (a :: (List.range n).map f) j))
  rcases hs with ⟨rfl, rfl, rfl⟩ | ⟨b', off, rfl, hs⟩
  ·have h : ([⟨ob, 3, none⟩] : List Addr)[j]? = some x := h
   match j, h with
   | 0, h => simp at h; subst h; exact ⟨hO.1, hO.cell rfl⟩
   | j + 1, h => simp at h
  ·rcases bs ob ⟨b', off, none⟩ n j x h with ⟨rfl, rfl⟩ | ⟨q1, q2, rfl⟩
   ·exact ⟨hO.1, hO.cell rfl⟩
   ·have hc := hs.resolve_left (by omega)
    obtain ⟨i, rfl⟩ : ∃ i, j = i + 1 := ⟨j - 1, by omega⟩
    rw [add_at, Nat.add_sub_cancel]
    refine ⟨hc.1, ?_⟩
    rw [hc.2 i (by omega), gI, List.getD_eq_getElem?_getD, List.getElem?_cons_succ, List.getElem?_map, List.getElem?_range (by omega)]
    rfl
 ·intro j x h
  have h : ([⟨ob, 1, none⟩] : List Addr)[j]? = some x := h
  match j, h with
  | 0, h => simp at h; subst h; exact ⟨hO.1, hO.cell rfl⟩
  | j + 1, h => simp at h
 ·intro j x h
  have h : ([⟨ob, 1, none⟩] : List Addr)[j]? = some x := h
  match j, h with
  | 0, h => simp at h; subst h; exact ⟨hO.1, hO.cell rfl⟩
  | j + 1, h => simp at h
 ·intro j x h
  have h : ([⟨ob, 1, none⟩, ⟨ob, 3, none⟩, ⟨ob, 4, none⟩] : List Addr)[j]? = some x := h
  match j, h with
  | 0, h => simp at h; subst h; exact ⟨hO.1, hO.cell rfl⟩
  | 1, h => simp at h; subst h; exact ⟨hO.1, hO.cell rfl⟩
  | 2, h => simp at h; subst h; exact ⟨hO.1, hO.cell rfl⟩
  | j + 3, h => simp at h
 ·intro j x h
  have h : ([⟨ob, 1, none⟩, ⟨ob, 2, none⟩] : List Addr)[j]? = some x := h
  match j, h with
  | 0, h => simp at h; subst h; exact ⟨hO.1, hO.cell rfl⟩
  | 1, h => simp at h; subst h; exact ⟨hO.1, hO.cell rfl⟩
  | j + 2, h => simp at h
 ·intro j x h
  have h : ([⟨ob, 1, none⟩] : List Addr)[j]? = some x := h
  match j, h with
  | 0, h => simp at h; subst h; exact ⟨hO.1, hO.cell rfl⟩
  | j + 1, h => simp at h
 ·intro j x h
  have h : ([⟨ob, 1, none⟩] : List Addr)[j]? = some x := h
  match j, h with
  | 0, h => simp at h; subst h; exact ⟨hO.1, hO.cell rfl⟩
  | j + 1, h => simp at h
 ·intro j x h
  have h : ([⟨ob, 1, none⟩] : List Addr)[j]? = some x := h
  match j, h with
  | 0, h => simp at h; subst h; exact ⟨hO.1, hO.cell rfl⟩
  | j + 1, h => simp at h
 ·intro j x h
  have h : ([⟨ob, 1, none⟩, ⟨ob, 3, none⟩] : List Addr)[j]? = some x := h
  match j, h with
  | 0, h => simp at h; subst h; exact ⟨hO.1, hO.cell rfl⟩
  | 1, h => simp at h; subst h; exact ⟨hO.1, hO.cell rfl⟩
  | j + 2, h => simp at h
 ·intro j x h
  have h : ([⟨ob, 3, none⟩] : List Addr)[j]? = some x := h
  match j, h with
  | 0, h => simp at h; subst h; exact ⟨hO.1, hO.cell rfl⟩
  | j + 1, h => simp at h
 ·intro j x h
  have h : ([⟨ob, 3, none⟩] : List Addr)[j]? = some x := h
  match j, h with
  | 0, h => simp at h; subst h; exact ⟨hO.1, hO.cell rfl⟩
  | j + 1, h => simp at h
 ·intro j x h
  have h : ([⟨ob, 3, none⟩] : List Addr)[j]? = some x := h
  match j, h with
  | 0, h => simp at h; subst h; exact ⟨hO.1, hO.cell rfl⟩
  | j + 1, h => simp at h
 ·intro j x h
  have h : ([⟨ob, 3, none⟩, ⟨ob, 4, none⟩] : List Addr)[j]? = some x := h
  match j, h with
  | 0, h => simp at h; subst h; exact ⟨hO.1, hO.cell rfl⟩
  | 1, h => simp at h; subst h; exact ⟨hO.1, hO.cell rfl⟩
  | j + 2, h => simp at h
 ·intro j x h
  have h : ([⟨ob, 1, none⟩, ⟨ob, 2, none⟩] : List Addr)[j]? = some x := h
  match j, h with
  | 0, h => simp at h; subst h; exact ⟨hO.1, hO.cell rfl⟩
  | 1, h => simp at h; subst h; exact ⟨hO.1, hO.cell rfl⟩
  | j + 2, h => simp at h
theorem iW (ob : Nat) (k : Int) : opX ob k = tpV (opT k) ⟨ob, 5, none⟩ := by
 unfold opX opT tpV
 by_cases h : k = 9 ∨ k = 14
 ·rw [if_pos h, decide_eq_true h]
 ·rw [if_neg h, decide_eq_false h]
theorem iG (tb : Bool) (ad : Addr) (tx : ByteArray) (L : List Addr) (Z : List Int) (u : Value) (base : Nat) (w : World) (E0 : T10 w) (h : w.ownsRow base 113 1 u L.length (ptR L)) (hl : L.length ≤ 9) (hLZ : L.length = Z.length) (hz : ∀ (j : Nat) x, L[j]? = some x → x.block < w.heap.size ∧ w.cell? x = some (.int .i64 (gI Z j)) ∧ (-9223372036854775808 ≤ gI Z j ∧ gI Z j ≤ 9223372036854775807)) (ht : ad.block < w.heap.size ∧ w.cell? ad = some (.string tx)) (hx : tx.size ≤ maxLen) :
 Calls Tryz.prog 23 #[.agg #[u, tpV tb ad]] w fun e w' => ∃ v, e = .returned v ∧ w'.ownsRow w.heap.size 9 1 v (bG Z tb tx).length (stR (bG Z tb tx)) ∧ Below w.heap.size w w' := by
 cases tb
 ·exact mA L Z u base w E0 h hl hLZ hz tx
 ·exact mB L Z u base w E0 h hl hLZ hz ad tx ht hx
attribute [-go_sem] loadCells storeCells in
set_option maxRecDepth 100000 in
set_option maxHeartbeats 16000000 in
theorem em (k nd tt a b : Int) (tx : ByteArray) (p : Option Addr) (n c : Nat) (f : Nat → Int) (w : World) (E0 : T10 w) (E : OpW w) (hx : tx.size ≤ maxLen) (hn : n ≤ maxLen) (hs : LsO w p n c f) :
 Calls Tryz.prog 7 #[.agg #[.int .i64 k, .int .i64 nd, .int .i64 tt, .int .i64 a, .int .i64 b, .string tx, .slice p n c]] w fun e w' => e = .returned (.tuple #[.string (olO k nd tt a b tx n f), .bool (opB k nd tt a b tx n f)]) ∧ Below w.heap.size w w' := by
 have B := Below.nw w (.cells #[.int .i64 k, .int .i64 nd, .int .i64 tt, .int .i64 a, .int .i64 b, .string tx, .slice p n c] 26)
 have R := Bo.new w #[.int .i64 k, .int .i64 nd, .int .i64 tt, .int .i64 a, .int .i64 b, .string tx, .slice p n c] 26
 have HE : Hid (T10 w) := E0
 have HW : Hid (OpW w) := E
 have HS : Hid (LsO w p n c f) := hs
 have COK := fun (v : World) (hv : Below w.heap.size w v) => ey k nd tt a b tx p n c f v hx hn (hs.src.below hv)
 have HT : Hid (opB k nd tt a b tx n f = true → olO k nd tt a b tx n f = nmK k ++ ⟨#[32]⟩ ++ jnB (bG (opN k nd tt a b n f) (opT k) tx)) := gW
 have HF : Hid (opB k nd tt a b tx n f = false → olO k nd tt a b tx n f = ⟨#[]⟩) := fun q => by rw [olO, q]; rfl
 have HFA : Hid (opB k nd tt a b tx n f = true → (1 ≤ k ∧ k ≤ 14) ∧ n ≤ 8 ∧ (opN k nd tt a b n f).length ≤ 9 ∧ ∀ i, -1000000 ≤ gI (opN k nd tt a b n f) i ∧ gI (opN k nd tt a b n f) i ≤ 1000000) := fun q => by
  obtain ⟨q1, _, q3, q4⟩ := co q
  refine ⟨?_, q1, q3, q4⟩
  unfold opB bdO at q
  rw [Bool.and_eq_true, Bool.and_eq_true] at q
  exact of_decide_eq_true q.1.1
 clear E E0 hs
 generalize olO k nd tt a b tx n f = X at *
 generalize opB k nd tt a b tx n f = ok at *
 go_enter Tryz.func7, Tryz.ntmps7
 go_upto_region 1 with fail
 generalize w.alloc (.cells #[.int .i64 k, .int .i64 nd, .int .i64 tt, .int .i64 a, .int .i64 b, .string tx, .slice p n c] 26) = v0 at *
 have hL0 := R.load (P := Tryz.prog) (show (#[.int .i64 k, .int .i64 nd, .int .i64 tt, .int .i64 a, .int .i64 b, .string tx, .slice p n c] : Array Value).size = 7 from rfl)
 go_wp2_with (rw [hL0])
 refine (COK v0 B).mono ?_
 rintro e v1 ⟨rfl, hb⟩
 clear hL0 COK
 replace B := B.trans (hb.mono B.size)
 replace R := R.below hb
 clear hb
 cases ok
 ·have hE := HF.out rfl
  clear HT HF HFA
  go_wp2_with fail
  exact bodyPost_ret (v := .tuple #[.string ⟨#[]⟩, .bool false]) (by simp [results, Tryz.results7, go_sem]) rfl ⟨by rw [hE], B⟩
 have HX := HT.out rfl
 obtain ⟨⟨k1, k2⟩, hn8, hl9, hbd⟩ := HFA.out rfl
 have HXX : Hid (X = nmK k ++ ⟨#[32]⟩ ++ jnB (bG (opN k nd tt a b n f) (opT k) tx)) := HX
 clear HX HT HF HFA
 obtain ⟨K, rfl⟩ := Int.eq_ofNat_of_zero_le (show 0 ≤ k by omega)
 have hK1 : 1 ≤ K := by omega
 have hK2 : K ≤ 14 := by omega
 have hp : (p = none ∧ n = 0) ∨ ∃ b off, p = some ⟨b, off, none⟩ := HS.out.elim (fun q => .inl ⟨q.1, q.2.1⟩) (fun ⟨b, off, q, _⟩ => .inr ⟨b, off, q⟩)
 have hnm := dA (K : Int)
 have HPL : Hid ((opN (K : Int) nd tt a b n f).length ≤ 9 ∧ 0 < (opN (K : Int) nd tt a b n f).length) := ⟨hl9, gZ _ _ _ _ _ _ _⟩
 obtain ⟨fid, ⟨hfid, hcf⟩, CF⟩ := dr K hK1 hK2 w.heap.size nd tt a b tx p n c hp hn8
 have HAL : Hid ((opA w.heap.size p n (K : Int)).length = (opN (K : Int) nd tt a b n f).length) := mo w.heap.size K hK1 hK2 nd tt a b p n f hp
 have HAC : Hid (∀ (v : World), Bo v w.heap.size #[.int .i64 (K : Int), .int .i64 nd, .int .i64 tt, .int .i64 a, .int .i64 b, .string tx, .slice p n c] → LsO v p n c f → ∀ (j : Nat) x, (opA w.heap.size p n (K : Int))[j]? = some x → x.block < v.heap.size ∧ v.cell? x = some (.int .i64 (gI (opN (K : Int) nd tt a b n f) j)) ∧ (-9223372036854775808 ≤ gI (opN (K : Int) nd tt a b n f) j ∧ gI (opN (K : Int) nd tt a b n f) j ≤ 9223372036854775807)) := fun v hO hs j x hx => (have q := kb hK1 hK2 hO hs j x hx; ⟨q.1, q.2, by have := hbd j; omega⟩)
 rw [iW] at CF
 have CB := cC v1 (HW.out.below B)
 have c0 : v1.cell? ⟨w.heap.size, 0, none⟩ = some (.int .i64 (K : Int)) := R.cell (i := 0) rfl
 have cK : v1.cell? ⟨0, K, none⟩ = some (.string (nmK (K : Int))) := (HW.out.below B).1 K (by omega)
 have d1 : decide ((K : Int) < 0) = false := by (rw [decide_eq_false_iff_not]; omega)
 have d2 : decide (15 ≤ (K : Int)) = false := by (rw [decide_eq_false_iff_not]; omega)
 have i1 : (0 : Int) ≤ (K : Int) ∧ (K : Int) < 15 := by omega
 have hk15 : K < 15 := by omega
 have HWS := km (opN (K : Int) nd tt a b n f) (opT (K : Int)) tx
 have HWL := iF (opN (K : Int) nd tt a b n f) (opT (K : Int)) tx
 have HWY : Hid ((∀ y ∈ bG (opN (K : Int) nd tt a b n f) (opT (K : Int)) tx, y.size ≤ 130) ∧ (bG (opN (K : Int) nd tt a b n f) (opT (K : Int)) tx).length ≤ 10 ∧ 0 < (bG (opN (K : Int) nd tt a b n f) (opT (K : Int)) tx).length) := ⟨HWS, by have := HPL.out; omega, by have := HPL.out; omega⟩
 clear HWS HWL hbd hl9 hp k1 k2
 go_wp2_with fail
 refine CB.mono ?_
 rintro e v2 ⟨mb, mn, F, rfl, HM, HFB, hb⟩
 clear c0 cK CB d1 d2
 replace B := B.trans (hb.mono B.size)
 replace R := R.below hb
 clear hb
 have hlk := HM.look (s := nmK (K : Int)) (Nat.le_trans hnm (by decide)) (HFB.1 K hK1 hK2)
 rw [hfid] at hlk
 have CF2 := CF v2 R
 clear CF HM HFB hfid
 have hcf2 := hcf #[.pointer (some ⟨w.heap.size, 0, none⟩)] v2
 go_wp2_with (first | rw [hlk] | rw [hcf2])
 refine CF2.mono ?_
 rintro e v3 ⟨u, rfl, O, hb⟩
 clear hlk CF2 hcf hcf2
 replace B := B.trans (hb.mono B.size)
 replace R := R.below hb
 clear hb
 have CW := iG (opT (K : Int)) ⟨w.heap.size, 5, none⟩ tx (opA w.heap.size p n (K : Int)) (opN (K : Int) nd tt a b n f) u _ v3 (HE.out.below B) O (by rw [HAL.out]; exact HPL.out.1) HAL.out (HAC.out v3 R (HS.out.below B)) ⟨R.1, R.cell (i := 5) rfl⟩ hx
 clear O HAC HAL HPL R
 generalize bG (opN (K : Int) nd tt a b n f) (opT (K : Int)) tx = LL at *
 go_wp2_with fail
 refine CW.mono ?_
 rintro e v4 ⟨v, rfl, OW, hb⟩
 clear CW
 replace B := B.trans (hb.mono B.size)
 clear hb
 obtain ⟨hz, hl10, hl0⟩ := HWY.out
 clear HWY
 obtain ⟨g, cap, rfl, hg, hcap, hcells⟩ := eA OW hl0
 have hlen := jn_le hz
 have hle : (Go.Lib.join (LL.map (·.data.toList)) spB.data.toList).length ≤ 140737488355328 := Nat.le_trans hlen (Nat.le_trans (Nat.mul_le_mul_right 131 hl10) (by decide))
 have hjs : (jnB LL).size ≤ 1310 := by
  show (jnB LL).data.size ≤ _
  rw [jnB]
  simp only [List.size_toArray]
  exact Nat.le_trans hlen (Nat.mul_le_mul_right 131 hl10)
 have CJ := Any.strings_Join joinA joinX g 0 cap LL spB v4 hcells hg (by omega) hcap hle
 change Calls Tryz.prog 24 #[.slice (some ⟨g, 0, none⟩) LL.length cap, .string ⟨#[32]⟩] v4 (fun e w' => e = .returned (.string (jnB LL)) ∧ Below v4.heap.size v4 w') at CJ
 generalize jnB LL = J at *
 clear hcells hlen hle hz OW
 generalize LL.length = nl at *
 generalize nmK (K : Int) = nm at *
 have e32 : (⟨#[32]⟩ : ByteArray).size = 1 := rfl
 have a0 : ¬ 9223372036854775807 < nm.size + 1 := by omega
 have a1 : ¬ 9223372036854775807 < nm.size + 1 + J.size := by omega
 go_wp2_with fail
 refine CJ.mono ?_
 rintro e v5 ⟨rfl, hb⟩
 go_wp2_with fail
 exact bodyPost_ret (v := .tuple #[.string (nm ++ ⟨#[32]⟩ ++ J), .bool true]) (by simp [results, Tryz.results7, go_sem]) rfl ⟨by rw [HXX.out], B.trans (hb.mono B.size)⟩
end Go.Proofs.YtddjiamollfplaaGreatDoor
