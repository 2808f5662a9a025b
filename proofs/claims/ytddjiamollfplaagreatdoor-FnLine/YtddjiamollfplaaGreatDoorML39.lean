/- Words joined and cut. -/
import Derived.Test.YtddjiamollfplaaGreatDoorML26
import Derived.Test.YtddjiamollfplaaGreatDoorML28
namespace Go.Proofs.YtddjiamollfplaaGreatDoor
open Go.RowKit
set_option linter.unusedVariables false

theorem bt_left {a b : ByteArray} {i : Nat} (h : i < a.size) : bt (a ++ b) i = bt a i := by
 have h' : i < a.data.size := h
 unfold bt
 rw [ByteArray.data_append, Array.getD_eq_getD_getElem?, Array.getD_eq_getD_getElem?, Array.getElem?_append, if_pos h']
theorem bt_right (a b : ByteArray) (i : Nat) : bt (a ++ b) (a.size + i) = bt b i := by
 have h' : ¬ a.size + i < a.data.size := by show ¬ a.size + i < a.size; omega
 unfold bt
 rw [ByteArray.data_append, Array.getD_eq_getD_getElem?, Array.getD_eq_getD_getElem?, Array.getElem?_append, if_neg h', show a.size + i - a.data.size = i by show a.size + i - a.size = i; omega]
theorem ba_ext {a b : ByteArray} (hs : a.size = b.size) (h : ∀ i, i < a.size → bt a i = bt b i) : a = b := by
 apply ByteArray.ext
 apply Array.ext hs
 intro i h1 h2
 have q := h i h1
 unfold bt at q
 rw [Array.getD_eq_getD_getElem?, Array.getD_eq_getD_getElem?, Array.getElem?_eq_getElem h1, Array.getElem?_eq_getElem h2] at q
 have q2 : (a.data[i]).toNat = (b.data[i]).toNat := by
  simp only [Option.getD_some] at q
  omega
 exact UInt8.toNat_inj.1 q2
def sepB (c : UInt8) : ByteArray := ⟨#[c]⟩
def catE (c : UInt8) : List ByteArray → ByteArray
 | [] => ⟨#[]⟩
 | x :: L => x ++ (sepB c ++ catE c L)
theorem ba_nil (a : ByteArray) : (⟨#[]⟩ : ByteArray) ++ a = a := by
 apply ByteArray.ext
 simp [ByteArray.data_append]
theorem ba_nilR (a : ByteArray) : a ++ (⟨#[]⟩ : ByteArray) = a := by
 apply ByteArray.ext
 simp [ByteArray.data_append]
theorem catE_app (c : UInt8) (M : List ByteArray) : ∀ L, catE c (L ++ M) = catE c L ++ catE c M
 | [] => by rw [List.nil_append, catE, ba_nil]
 | x :: L => by rw [List.cons_append, catE, catE, catE_app c M L, ByteArray.append_assoc, ByteArray.append_assoc]
theorem catE_snoc (c : UInt8) (L : List ByteArray) (x : ByteArray) : catE c (L ++ [x]) = catE c L ++ (x ++ sepB c) := by
 rw [catE_app, catE, catE, ba_nilR]
def freeB (c : Int) (x : ByteArray) : Prop := ∀ i, i < x.size → bt x i ≠ c
theorem cut_step {c : UInt8} {P x r s : ByteArray} {K : List ByteArray} (hs : s = P ++ (x ++ (sepB c ++ r))) (hK : cutF s (c.toNat : Int) P.size = (P.size, K)) (hx : freeB (c.toNat : Int) x) : cutF s (c.toNat : Int) (P.size + x.size + 1) = (P.size + x.size + 1, K ++ [x]) := by
 have e1 : ∀ i, i < x.size → bt s (P.size + i) = bt x i := fun i hi => by rw [hs, bt_right, bt_left hi]
 have e2 : bt s (P.size + x.size) = (c.toNat : Int) := by
  rw [hs, bt_right, show x.size = x.size + 0 from rfl, bt_right]
  rfl
 have e3 : cutF s (c.toNat : Int) (P.size + x.size) = (P.size, K) := by
  rw [cutF_run x.size (fun j h1 h2 => by
   have q := hx (j - P.size) (by omega)
   rw [← e1 _ (by omega), show P.size + (j - P.size) = j by omega] at q
   exact q)]
  exact hK
 rw [cutF_yes e2, e3]
 have e4 : s.extract P.size (P.size + x.size) = x := by
  rw [hs, ByteArray.extract_append, show P.size - P.size = 0 by omega, show P.size + x.size - P.size = x.size by omega, ByteArray.extract_append_eq_left rfl]
  have e5 : P.extract P.size (P.size + x.size) = ⟨#[]⟩ := by
   apply ByteArray.ext
   rw [ByteArray.data_extract]
   apply Array.eq_empty_of_size_eq_zero
   rw [Array.size_extract]
   show min (P.size + x.size) P.size - P.size = 0
   omega
  rw [e5, ba_nil]
 show (P.size + x.size + 1, K ++ [s.extract P.size (P.size + x.size)]) = _
 rw [e4]
theorem sepB_size (c : UInt8) : (sepB c).size = 1 := rfl
theorem cut_cat {c : UInt8} (r : ByteArray) : ∀ (L : List ByteArray) (P s : ByteArray) (K : List ByteArray), (∀ x ∈ L, freeB (c.toNat : Int) x) → s = P ++ (catE c L ++ r) → cutF s (c.toNat : Int) P.size = (P.size, K) → cutF s (c.toNat : Int) (P.size + (catE c L).size) = (P.size + (catE c L).size, K ++ L)
 | [], P, s, K, _, hs, hK => by
  show cutF s (c.toNat : Int) (P.size + 0) = (P.size + 0, K ++ [])
  rw [List.append_nil]
  exact hK
 | x :: L, P, s, K, hf, hs, hK => by
  have hs2 : s = P ++ (x ++ (sepB c ++ (catE c L ++ r))) := by rw [hs, catE, ByteArray.append_assoc, ByteArray.append_assoc]
  have q := cut_step hs2 hK (hf x (List.mem_cons_self ..))
  have hp : (P ++ (x ++ sepB c)).size = P.size + x.size + 1 := by rw [ByteArray.size_append, ByteArray.size_append, sepB_size]; omega
  have hs3 : s = (P ++ (x ++ sepB c)) ++ (catE c L ++ r) := by rw [hs2]; simp only [ByteArray.append_assoc]
  have q2 := cut_cat r L (P ++ (x ++ sepB c)) s (K ++ [x]) (fun y hy => hf y (List.mem_cons_of_mem _ hy)) hs3 (by rw [hp]; exact q)
  have hz : (catE c (x :: L)).size = x.size + 1 + (catE c L).size := by rw [catE, ByteArray.size_append, ByteArray.size_append, sepB_size]; omega
  rw [hp] at q2
  rw [hz, show P.size + (x.size + 1 + (catE c L).size) = P.size + x.size + 1 + (catE c L).size by omega, q2, List.append_assoc]
  rfl
theorem cut_all {c : UInt8} {L : List ByteArray} {r : ByteArray} (hf : ∀ x ∈ L, freeB (c.toNat : Int) x) (hr : freeB (c.toNat : Int) r) : cutF (catE c L ++ r) (c.toNat : Int) (catE c L ++ r).size = ((catE c L).size, L) ∧ (catE c L ++ r).extract (catE c L).size (catE c L ++ r).size = r := by
 have q := cut_cat (c := c) r L ⟨#[]⟩ (catE c L ++ r) [] hf (by rw [ba_nil]) rfl
 have e0 : (⟨#[]⟩ : ByteArray).size = 0 := rfl
 rw [e0, Nat.zero_add, List.nil_append] at q
 refine ⟨?_, ByteArray.extract_append_eq_right rfl (ByteArray.size_append ..)⟩
 rw [ByteArray.size_append, cutF_run r.size (fun j h1 h2 => by
  have p := hr (j - (catE c L).size) (by omega)
  rw [← bt_right (catE c L) r, show (catE c L).size + (j - (catE c L).size) = j by omega] at p
  exact p)]
 exact q
theorem cat_cut (s : ByteArray) (c : UInt8) : ∀ i, i ≤ s.size → catE c (cutF s (c.toNat : Int) i).2 = s.extract 0 (cutF s (c.toNat : Int) i).1
 | 0, _ => by
  show (⟨#[]⟩ : ByteArray) = s.extract 0 0
  apply ByteArray.ext
  rw [ByteArray.data_extract]
  symm
  apply Array.eq_empty_of_size_eq_zero
  rw [Array.size_extract]
  omega
 | i + 1, h => by
  have q := cat_cut s c i (by omega)
  have hl := (cutF_le s (c.toNat : Int) i).1
  by_cases hb : bt s i = (c.toNat : Int)
  ·rw [cutF_yes hb]
   show catE c ((cutF s (c.toNat : Int) i).2 ++ [s.extract (cutF s (c.toNat : Int) i).1 i]) = s.extract 0 (i + 1)
   rw [catE_snoc, q]
   have e1 : sepB c = s.extract i (i + 1) := by
    refine ba_ext (by rw [ByteArray.size_extract, sepB_size]; omega) fun k hk => ?_
    have hk0 : k = 0 := by rw [sepB_size] at hk; omega
    subst hk0
    have hi : i < s.data.size := h
    show (c.toNat : Int) = bt (s.extract i (i + 1)) 0
    rw [← hb]
    unfold bt
    rw [ByteArray.data_extract, Array.getD_eq_getD_getElem?, Array.getD_eq_getD_getElem?, Array.getElem?_extract, if_pos (by show 0 < min (i + 1) s.data.size - i; omega)]
    rfl
   rw [e1]
   apply ByteArray.ext
   simp only [ByteArray.data_append, ByteArray.data_extract]
   rw [Array.extract_append_extract, show min (cutF s (c.toNat : Int) i).1 i = (cutF s (c.toNat : Int) i).1 by omega, show max i (i + 1) = i + 1 by omega, Array.extract_append_extract, show min 0 (cutF s (c.toNat : Int) i).1 = 0 by omega, show max (cutF s (c.toNat : Int) i).1 (i + 1) = i + 1 by omega]
  ·rw [cutF_no hb]
   exact q
theorem cat_all (s : ByteArray) (c : UInt8) : catE c (cutF s (c.toNat : Int) s.size).2 ++ s.extract (cutF s (c.toNat : Int) s.size).1 s.size = s := by
 rw [cat_cut s c s.size (Nat.le_refl _)]
 have hl := (cutF_le s (c.toNat : Int) s.size).1
 apply ByteArray.ext
 simp only [ByteArray.data_append, ByteArray.data_extract]
 rw [Array.extract_append_extract, show min 0 (cutF s (c.toNat : Int) s.size).1 = 0 by omega, show max (cutF s (c.toNat : Int) s.size).1 s.size = s.data.size by show max (cutF s (c.toNat : Int) s.size).1 s.size = s.size; omega]
 exact Array.extract_size
theorem jn_cat : ∀ (n : Nat) (L : List ByteArray), L.length = n → ∀ x, jnB (L ++ [x]) = catE 32 L ++ x
 | 0, L, h, x => by
  obtain rfl := List.length_eq_zero_iff.1 h
  rw [List.nil_append, jn1, catE, ba_nil]
 | n + 1, L, h, x => by
  have hne : L ≠ [] := fun e => by rw [e] at h; cases h
  have e := List.dropLast_concat_getLast hne
  have hl : L.dropLast.length = n := by rw [List.length_dropLast, h]; rfl
  rw [← e, jn_moreX x (by simp), jn_cat n L.dropLast hl, catE_snoc]
  simp only [ByteArray.append_assoc]
  rfl
theorem wdW_jn {W : List ByteArray} (h0 : W ≠ []) (hf : ∀ x ∈ W, freeB 32 x) : wdW (jnB W) 32 = W := by
 have e := List.dropLast_concat_getLast h0
 have hx : freeB 32 (W.getLast h0) := hf _ (List.getLast_mem h0)
 have hL : ∀ x ∈ W.dropLast, freeB 32 x := fun x hx => hf x (List.dropLast_subset W hx)
 have q := cut_all (c := 32) (L := W.dropLast) (r := W.getLast h0) hL hx
 have ej : jnB W = catE 32 W.dropLast ++ W.getLast h0 := by rw [← jn_cat _ _ rfl, e]
 have c32 : ((32 : UInt8).toNat : Int) = 32 := rfl
 rw [c32] at q
 rw [ej, wdW, q.1, q.2]
 exact e
theorem jn_wdW (s : ByteArray) : jnB (wdW s 32) = s := by
 rw [wdW, jn_cat _ _ rfl]
 exact cat_all s 32
theorem free_nums {L : List Int} (h : ∀ z ∈ L, 33 ≤ z ∧ z ≤ 255) : freeB 32 (strOfNums L) := fun i hi => by
 rw [strOfNums_size] at hi
 rw [bt_strOf (fun z hz => ⟨by have := h z hz; omega, (h z hz).2⟩) hi, List.getD_eq_getElem?_getD, List.getElem?_eq_getElem hi]
 have := h _ (List.getElem_mem hi)
 show L[i] ≠ 32
 omega
theorem free_app {c : Int} {a b : ByteArray} (ha : freeB c a) (hb : freeB c b) : freeB c (a ++ b) := fun i hi => by
 by_cases h : i < a.size
 ·rw [bt_left h]; exact ha i h
 ·rw [ByteArray.size_append] at hi
  rw [show i = a.size + (i - a.size) by omega, bt_right]
  exact hb _ (by omega)
theorem free_one {c : Int} {b : UInt8} (h : (b.toNat : Int) ≠ c) : freeB c ⟨#[b]⟩ := fun i hi => by
 have h0 : i = 0 := by
  have : i < 1 := hi
  omega
 subst h0
 exact h
theorem free_dgs (K : Nat) : freeB 32 (dgs K) := by
 rw [dgs_eq]
 exact free_nums fun z hz => by have := dL_dig (f := 20) (K := K) (L := []) (fun z hz => by cases hz) z hz; omega
theorem free_tx (n : Int) : freeB 32 (txI n) := by
 unfold txI
 split
 ·exact free_one (by decide)
 ·split
  ·exact free_app (free_one (by decide)) (free_dgs _)
  ·exact free_dgs _
theorem free_hex (s : ByteArray) : freeB 32 (hexO s) := by
 unfold hexO
 split
 ·intro i hi; exact absurd hi (Nat.not_lt_zero _)
 ·split
  ·exact free_one (by decide)
  ·refine free_nums fun z hz => ?_
   have q : ∀ n, ∀ z ∈ hxL s n, 33 ≤ z ∧ z ≤ 255 := by
    intro n
    induction n with
    | zero => intro z hz; cases hz
    | succ n ih =>
     intro z hz
     rw [hxL, List.mem_append] at hz
     rcases hz with hz | hz
     ·exact ih z hz
     ·obtain ⟨b0, b1⟩ := bt_rng s n
      have q1 := hxD_rng (x := bt s n / 16) (by omega) (by omega)
      have q2 := hxD_rng (x := bt s n % 16) (by omega) (by omega)
      simp at hz
      rcases hz with rfl | rfl <;> omega
   exact q _ z hz
theorem free_nm (K : Nat) (h : K ≤ 14) : freeB 32 (nmK (K : Int)) := by
 have q : ∀ K : Fin 15, ∀ i : Fin 8, i.val < (nmK (K.val : Int)).size → bt (nmK (K.val : Int)) i.val ≠ 32 := by decide +kernel
 have q2 : ∀ K : Fin 15, (nmK (K.val : Int)).size ≤ 8 := by decide +kernel
 exact fun i hi => q ⟨K, by omega⟩ ⟨i, Nat.lt_of_lt_of_le hi (q2 ⟨K, by omega⟩)⟩ hi
theorem num_own {w : ByteArray} (h : nuB w = true) : txI (nuI w) = w ∧ -999999999 ≤ nuI w ∧ nuI w ≤ 999999999 := by
 have h2 := h
 rw [nu_yes h]
 unfold nuB at h2
 rw [Bool.and_eq_true, Bool.and_eq_true, Bool.and_eq_true] at h2
 obtain ⟨h3, h4, h5, h6⟩ := h2
 refine ⟨?_, ?_⟩
 ·have e := eq_of_beq h6
  rw [ByteArray.toList_eq, ByteArray.toList_eq] at e
  exact ByteArray.ext (Array.ext' e)
 ·have q := nmV_small h5 (of_decide_eq_true h4)
  unfold nmX
  split <;> omega
theorem hex_own {w : ByteArray} (h : fhB w = true) : hexO (fhO w) = w ∧ (fhO w).size ≤ 64 := by
 by_cases hd : dashB w = true
 ·have ew : w = ⟨#[45]⟩ := by
   have e := eq_of_beq hd
   rw [ByteArray.toList_eq] at e
   exact ByteArray.ext (Array.ext' e)
  have e1 : fhO w = ⟨#[]⟩ := by rw [fhO, hd]
  rw [e1]
  refine ⟨?_, by decide⟩
  rw [hexO, if_neg (by decide), if_pos (show (⟨#[]⟩ : ByteArray).size = 0 from rfl)]
  exact ew.symm
 ·have hd0 : dashB w = false := by simpa using hd
  have h2 := h
  unfold fhB at h2
  rw [hd0, Bool.false_or, Bool.and_eq_true] at h2
  obtain ⟨h3, h4⟩ := h2
  obtain ⟨z1, z2, z3⟩ := of_decide_eq_true h3
  have hv : ∀ k, k < w.size / 2 → 0 ≤ vlI (bt w (2 * k)) ∧ 0 ≤ vlI (bt w (2 * k + 1)) := fun k hk => by
   cases q : (decide (0 ≤ vlI (bt w (2 * k))) && decide (0 ≤ vlI (bt w (2 * k + 1))))
   ·rw [fhD_f hk q] at h4; cases h4
   ·rw [Bool.and_eq_true] at q; exact ⟨of_decide_eq_true q.1, of_decide_eq_true q.2⟩
  have hL : ∀ n, n ≤ w.size / 2 → ∀ k, k < n → (fhL w n).getD k 0 = 16 * vlI (bt w (2 * k)) + vlI (bt w (2 * k + 1)) := by
   intro n
   induction n with
   | zero => intro _ k hk; omega
   | succ n ih =>
    intro hn k hk
    rw [fhL]
    have hl := fhL_len w n
    by_cases e : k = n
    ·subst e
     rw [List.getD_eq_getElem?_getD, List.getElem?_append_right (by omega), hl, Nat.sub_self]
     rfl
    ·rw [List.getD_eq_getElem?_getD, List.getElem?_append_left (by omega), ← List.getD_eq_getElem?_getD]
     exact ih (by omega) k (by omega)
  have hR : ∀ n, n ≤ w.size / 2 → ∀ z ∈ fhL w n, 0 ≤ z ∧ z ≤ 255 := by
   intro n
   induction n with
   | zero => intro _ z hz; cases hz
   | succ n ih =>
    intro hn z hz
    rw [fhL, List.mem_append] at hz
    rcases hz with hz | hz
    ·exact ih (by omega) z hz
    ·have v1 := vl_rng (bt w (2 * n))
     have v2 := vl_rng (bt w (2 * n + 1))
     obtain ⟨v3, v4⟩ := hv n (by omega)
     simp at hz
     subst hz
     omega
  have eO : fhO w = strOfNums (fhL w (w.size / 2)) := fh_yes hd0 h
  have hs : (fhO w).size = w.size / 2 := by rw [eO, strOfNums_size, fhL_len]
  have hb : ∀ k, k < w.size / 2 → bt (fhO w) k = 16 * vlI (bt w (2 * k)) + vlI (bt w (2 * k + 1)) := fun k hk => by
   rw [eO, bt_strOf (hR _ (Nat.le_refl _)) (by rw [fhL_len]; exact hk)]
   exact hL _ (Nat.le_refl _) k hk
  refine ⟨?_, by omega⟩
  rw [hexO, if_neg (by omega), if_neg (by omega), hs]
  have hz : (strOfNums (hxL (fhO w) (w.size / 2))).size = w.size := by rw [strOfNums_size, hxL_len]; omega
  refine ba_ext hz fun i hi => ?_
  rw [hz] at hi
  have hi2 : i / 2 < w.size / 2 := by omega
  obtain ⟨q1, q2⟩ := hxL_at (fhO w) hi2
  obtain ⟨v3, v4⟩ := hv (i / 2) hi2
  have v1 := vl_rng (bt w (2 * (i / 2)))
  have v2 := vl_rng (bt w (2 * (i / 2) + 1))
  rw [bt_strOf (hxL_rng (fhO w) _) (by rw [hxL_len]; omega)]
  have hbk := hb (i / 2) hi2
  rcases Nat.mod_two_eq_zero_or_one i with e | e
  ·have ei : i = 2 * (i / 2) := by omega
   have e16 : bt (fhO w) (i / 2) / 16 = vlI (bt w (2 * (i / 2))) := by rw [hbk]; omega
   rw [e16, vl_hx v3, ← ei] at q1
   exact q1
  ·have ei : i = 2 * (i / 2) + 1 := by omega
   have e16 : bt (fhO w) (i / 2) % 16 = vlI (bt w (2 * (i / 2) + 1)) := by rw [hbk]; omega
   rw [e16, vl_hx v4, ← ei] at q2
   exact q2

end Go.Proofs.YtddjiamollfplaaGreatDoor
