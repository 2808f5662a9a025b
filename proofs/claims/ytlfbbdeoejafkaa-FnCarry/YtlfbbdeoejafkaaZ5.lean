/- Numbers: what is carried on holds true time. -/
import Derived.Test.YtlfbbdeoejafkaaQ3
import Derived.Test.YtlfbbdeoejafkaaW6
import Derived.Test.YtlfbbdeoejafkaaW7
import Derived.Test.YtlfbbdeoejafkaaM1
import Derived.Test.YtlfbbdeoejafkaaR0
import Derived.WalkKit
import Derived.WalkSpells
import Derived.WalkLawsBesides
import Derived.Deep.RegionHeld
import Derived.Deep.RegionHeld3
namespace Go.Proofs.Ytlfbbdeoejafkaa
open Go.RowKit
set_option linter.unusedVariables false
theorem of_upC {x n t : Int} (hn : 0 < n) (h : upI x n ≤ t) : x ≤ t * n := by
  rw [← upI_neg hn] at h
  have h2 : -t ≤ -x / n := by omega
  have h3 := (Int.le_ediv_iff_mul_le hn).1 h2
  rw [Int.neg_mul] at h3
  omega
theorem of_dnC {x n t : Int} (hn : 0 < n) (h : t ≤ dnI x n) : t * n ≤ x := (Int.le_ediv_iff_mul_le hn).1 h
theorem up_add {a b n : Int} (hn : 0 < n) : upI (a + b) n ≤ upI a n + upI b n := by
  refine le_upI hn ?_
  have h1 := of_upC hn (Int.le_refl (upI a n))
  have h2 := of_upC hn (Int.le_refl (upI b n))
  rw [Int.add_mul]; omega
theorem dn_add {a b n : Int} (hn : 0 < n) : dnI a n + dnI b n ≤ dnI (a + b) n := by
  refine dnI_le hn ?_
  have h1 := of_dnC hn (Int.le_refl (dnI a n))
  have h2 := of_dnC hn (Int.le_refl (dnI b n))
  rw [Int.add_mul]; omega
theorem up_mono {a b n : Int} (hn : 0 < n) (h : a ≤ b) : upI a n ≤ upI b n := le_upI hn (Int.le_trans h (of_upC hn (Int.le_refl _)))
theorem dn_mono {a b n : Int} (hn : 0 < n) (h : a ≤ b) : dnI a n ≤ dnI b n := dnI_le hn (Int.le_trans (of_dnC hn (Int.le_refl _)) h)
theorem bt_parts {n d x : Int} (h : btB n d x = true) : okD n d = true ∧ okT x = true ∧ okT (upI (x * d) (d + n)) = true ∧ okT (dnI (x * d) (d - n)) = true := by
  simp [btB, rB] at h; exact ⟨h.1.1.1, h.1.1.2, h.1.2, h.2.2⟩
theorem bt_mk {n d x : Int} (h1 : okD n d = true) (h2 : okT x = true) (h3 : okT (upI (x * d) (d + n)) = true) (h4 : okT (dnI (x * d) (d - n)) = true) : btB n d x = true := by simp [btB, rB, h1, h2, h3, h4]
theorem bt_less {n d p q : Int} (h : btB n d q = true) (h0 : 0 ≤ p) (h1 : p ≤ q) : btB n d p = true := by
  obtain ⟨hD, hq, hu, hd⟩ := bt_parts h
  obtain ⟨d1, d2, d3, d4⟩ := okD_t hD
  obtain ⟨q1, q2⟩ := okT_t hq
  obtain ⟨u1, u2⟩ := okT_t hu
  obtain ⟨v1, v2⟩ := okT_t hd
  have hm : p * d ≤ q * d := Int.mul_le_mul_of_nonneg_right h1 (by omega)
  have hp : 0 ≤ p * d := Int.mul_nonneg h0 (by omega)
  have a1 := up_mono (show 0 < d + n by omega) hm
  have a2 := dn_mono (show 0 < d - n by omega) hm
  have b1 := upI_bd hp (show 0 < d + n by omega)
  have b2 := dnI_bd hp (show 0 < d - n by omega)
  exact bt_mk hD (decide_eq_true ⟨h0, by omega⟩) (decide_eq_true ⟨b1.1, by omega⟩) (decide_eq_true ⟨b2.1, by omega⟩)
theorem cr_full {lo hi a n d c : Int} (h : crC true lo hi a n d c = 0) : crP true lo hi a n d c = true ∧ ¬ c < a ∧ btB n d (c - a) = true ∧ plusB lo hi (upI ((c - a) * d) (d + n)) (dnI ((c - a) * d) (d - n)) = true := by
  cases hp : crP true lo hi a n d c
  · rw [(crC_1 hp).1] at h; exact absurd h (by decide)
  by_cases h4 : c < a
  · rw [(crC_3 hp h4).1] at h; exact absurd h (by decide)
  cases h5 : btB n d (c - a)
  · rw [(crC_4 hp h4 h5).1] at h; exact absurd h (by decide)
  cases h6 : plusB lo hi (upI ((c - a) * d) (d + n)) (dnI ((c - a) * d) (d - n))
  · rw [(crC_5 hp h4 h5 h6).1] at h; exact absurd h (by decide)
  · exact ⟨rfl, h4, rfl, rfl⟩
theorem pair_counts {n d : Int} {f : Nat → Int × Int} {l i j : Nat} (hr : mrB n d f l 1 = true) (hij : i ≤ j) (hj : j < l) : 0 ≤ (f j).2 - (f i).2 ∧ upI (((f j).2 - (f i).2) * d) (d + n) ≤ (f j).1 - (f i).1 ∧ (f j).1 - (f i).1 ≤ dnI (((f j).2 - (f i).2) * d) (d - n) := by
  have ⟨hD, _, _, _⟩ := mkB_t (mrB_t hr).1
  have ⟨d1, d2, d3, d4⟩ := okD_t hD
  have hm : 0 ≤ (f j).2 - (f i).2 ∧ ((f j).1 - (f i).1) * (d - n) ≤ ((f j).2 - (f i).2) * d ∧ ((f j).2 - (f i).2) * d ≤ ((f j).1 - (f i).1) * (d + n) := by
    by_cases e : i = j
    · subst e; simp
    · have ⟨_, _, a3, a4, a5⟩ := mcB_y (two_lt hr (show i < j by omega) hj)
      exact ⟨(okT_t a3).1, a4, a5⟩
  exact ⟨hm.1, le_upI (show (0 : Int) < d + n by omega) hm.2.2, dnI_le (show (0 : Int) < d - n by omega) hm.2.1⟩
theorem up_le_self {n d x : Int} (hn : 0 ≤ n) (hd : 1 ≤ d) (hx : 0 ≤ x) : upI (x * d) (d + n) ≤ x := by
  refine le_upI (by omega) ?_
  rw [Int.mul_add]; have := Int.mul_nonneg hx hn; omega
theorem self_le_dn {n d x : Int} (hn : 0 ≤ n) (hd : 1 ≤ d) (h2 : 2 * n ≤ d) (hx : 0 ≤ x) : x ≤ dnI (x * d) (d - n) := by
  refine dnI_le (by omega) ?_
  rw [Int.mul_sub]; have := Int.mul_nonneg hx hn; omega
theorem plus_mk {al ah bl bh : Int} (h1 : okI al ah = true) (h2 : okI bl bh = true) (h3 : okI (al + bl) (ah + bh) = true) : plusB al ah bl bh = true := by simp [plusB, okII, h1, h2, h3]
theorem crP_mk {lo hi a n d c : Int} (h1 : okI lo hi = true) (h2 : okT a = true) (h3 : okD n d = true) (h4 : okT c = true) : crP true lo hi a n d c = true := by simp [crP, okL, h1, h2, h3, h4]
theorem holds_mk6 {lo hi t : Int} (h : okI lo hi = true) (h1 : lo ≤ t) (h2 : t ≤ hi) : holdsI lo hi t = true := by simp [holdsI, h, h1, h2]
theorem within_mk6 {al ah bl bh : Int} (h1 : okI al ah = true) (h2 : okI bl bh = true) (h3 : bl ≤ al) (h4 : ah ≤ bh) : withinI al ah bl bh = true := by
  simp [withinI, okII, h1, h2, h3, h4]
theorem carry_nums {n d : Int} {f : Nat → Int × Int} {l i k j : Nat} {lo hi : Int} (hr : mrB n d f l 1 = true) (hik : i ≤ k) (hkj : k ≤ j) (hj : j < l) (h1 : lo ≤ (f i).1) (h2 : (f i).1 ≤ hi) (hz : crC true lo hi (f i).2 n d (f j).2 = 0) :
    holdsI (crL true lo hi (f i).2 n d (f j).2) (crH true lo hi (f i).2 n d (f j).2) (f j).1 = true ∧ crC true lo hi (f i).2 n d (f k).2 = 0 ∧
    crC true (crL true lo hi (f i).2 n d (f k).2) (crH true lo hi (f i).2 n d (f k).2) (f k).2 n d (f j).2 = 0 ∧
    holdsI (crL true (crL true lo hi (f i).2 n d (f k).2) (crH true lo hi (f i).2 n d (f k).2) (f k).2 n d (f j).2) (crH true (crL true lo hi (f i).2 n d (f k).2) (crH true lo hi (f i).2 n d (f k).2) (f k).2 n d (f j).2) (f j).1 = true ∧
    withinI (crL true (crL true lo hi (f i).2 n d (f k).2) (crH true lo hi (f i).2 n d (f k).2) (f k).2 n d (f j).2) (crH true (crL true lo hi (f i).2 n d (f k).2) (crH true lo hi (f i).2 n d (f k).2) (f k).2 n d (f j).2) (crL true lo hi (f i).2 n d (f j).2) (crH true lo hi (f i).2 n d (f j).2) = true := by
  obtain ⟨hp, hc, hbt, hpl⟩ := cr_full hz
  obtain ⟨o1, o2, o3, o4⟩ := crP_p hp
  obtain ⟨d1, d2, d3, d4⟩ := okD_t o3
  obtain ⟨e0, e1, e2⟩ := crC_0 hp hc hbt hpl
  have oA := (cr_ok hz).2.2
  have ⟨_, _, _, hok⟩ := mkB_t (mrB_t hr).1
  have ok := (hok k (by omega)).2
  obtain ⟨A0, A1, A2⟩ := pair_counts hr (Nat.le_trans hik hkj) hj
  obtain ⟨B0, B1, B2⟩ := pair_counts hr hik (by omega)
  obtain ⟨C0, C1, C2⟩ := pair_counts hr hkj hj
  have q1 : (f k).2 - (f i).2 ≤ (f j).2 - (f i).2 := by omega
  have q2 : (f j).2 - (f k).2 ≤ (f j).2 - (f i).2 := by omega
  have b1 := bt_less hbt B0 q1
  have b2 := bt_less hbt C0 q2
  have s1 := up_add (a := ((f k).2 - (f i).2) * d) (b := ((f j).2 - (f k).2) * d) (show 0 < d + n by omega)
  have s2 := dn_add (a := ((f k).2 - (f i).2) * d) (b := ((f j).2 - (f k).2) * d) (show 0 < d - n by omega)
  rw [← Int.add_mul, show (f k).2 - (f i).2 + ((f j).2 - (f k).2) = (f j).2 - (f i).2 by omega] at s1 s2
  obtain ⟨_, _, u1, u2⟩ := bt_parts b1
  obtain ⟨_, _, u3, u4⟩ := bt_parts b2
  have l1 := up_le_self d3 d1 B0
  have l2 := self_le_dn d3 d1 d4 B0
  have l3 := up_le_self d3 d1 C0
  have l4 := self_le_dn d3 d1 d4 C0
  have nlt1 : ¬ (f k).2 < (f i).2 := by omega
  have nlt2 : ¬ (f j).2 < (f k).2 := by omega
  rw [e1, e2] at oA ⊢
  have P1 : crP true lo hi (f i).2 n d (f k).2 = true := crP_mk o1 o2 o3 ok
  generalize hU : upI (((f j).2 - (f i).2) * d) (d + n) = U at *
  generalize hV : dnI (((f j).2 - (f i).2) * d) (d - n) = V at *
  have X := @crC_0 lo hi (f i).2 n d (f k).2 P1 nlt1 b1
  have Y := fun (lo' hi' : Int) (h : okI lo' hi' = true) => @crC_0 lo' hi' (f k).2 n d (f j).2 (crP_mk h ok o3 o4) nlt2 b2
  clear hU hV hbt hpl hp e0 e1 e2 hc P1 b1 b2 hok
  generalize upI (((f k).2 - (f i).2) * d) (d + n) = U1 at *
  generalize dnI (((f k).2 - (f i).2) * d) (d - n) = V1 at *
  generalize upI (((f j).2 - (f k).2) * d) (d + n) = U2 at *
  generalize dnI (((f j).2 - (f k).2) * d) (d - n) = V2 at *
  obtain ⟨p1, p2, p3⟩ := okI_t o1
  obtain ⟨r1, r2, r3⟩ := okI_t oA
  obtain ⟨v1, v2⟩ := okT_t u1
  obtain ⟨v3, v4⟩ := okT_t u2
  obtain ⟨v5, v6⟩ := okT_t u3
  obtain ⟨v7, v8⟩ := okT_t u4
  have m1 : okI (lo + U1) (hi + V1) = true := decide_eq_true ⟨by omega, by omega, by omega⟩
  have m2 : okI (lo + U1 + U2) (hi + V1 + V2) = true := decide_eq_true ⟨by omega, by omega, by omega⟩
  have k1 : okI U1 V1 = true := decide_eq_true ⟨by omega, by omega, by omega⟩
  have k2 : okI U2 V2 = true := decide_eq_true ⟨by omega, by omega, by omega⟩
  obtain ⟨x0, x1, x2⟩ := X (plus_mk o1 k1 m1)
  rw [x0, x1, x2]
  obtain ⟨y0, y1, y2⟩ := Y (lo + U1) (hi + V1) m1 (plus_mk m1 k2 m2)
  rw [y0, y1, y2]
  exact ⟨holds_mk6 oA (by omega) (by omega), rfl, rfl, holds_mk6 m2 (by omega) (by omega), within_mk6 m2 oA (by omega) (by omega)⟩
theorem tmod_in6 {x : Int} {k : Nat} (h0 : 0 ≤ x) (hk : 1 ≤ k) : ∃ r : Nat, x.tmod (k : Int) = (r : Int) ∧ r < k := by
  have e : x.tmod (k : Int) = x % (k : Int) := Int.tmod_eq_emod_of_nonneg h0
  have a := Int.emod_nonneg x (b := (k : Int)) (by omega)
  have b := Int.emod_lt_of_pos x (show (0 : Int) < (k : Int) by omega)
  exact ⟨(x % (k : Int)).toNat, by rw [e]; omega, by omega⟩
theorem cl_may6 {n d b v : Int} (h : ctB n d b = true) : mcB n d b (clI n d b v) = true := by
  have ⟨h1, h2, h3, h4, h5⟩ := clI_in (t := v) h
  have ⟨d1, d2, d3, d4⟩ := okD_t h2
  exact mcB_of h2 h1 h3 (of_upC (by omega) h4) (of_dnC (by omega) h5)
theorem mkL_get6 (n d t c : Int) (f : Nat → Int × Int) (k i : Nat) (hi : i ≤ k) : (mkL n d t c f k).getD i (0, 0) = mkM n d t c f i := by
  have : i < k + 1 := by omega
  simp [mkL, List.getD_eq_getElem?_getD, this]
theorem run_marks6 {n d t c : Int} {f : Nat → Int × Int} {m : Nat} (h : (runL n d t c f m).length ≠ 0) : mrB n d (fun i => (runL n d t c f m).getD i (0, 0)) (runL n d t c f m).length 1 = true := by
  cases hg : runG n d t c m
  · simp [runL, hg] at h
  have e : runL n d t c f m = mkL n d t c f (runN n d t c f m) := by simp [runL, hg]
  rw [e, mkL_len]
  simp only [runG, Bool.and_eq_true, decide_eq_true_eq] at hg
  have hle := runN_le (n := n) (d := d) (t := t) (c := c) (f := f) m
  have hst := runN_step (n := n) (d := d) (t := t) (c := c) (f := f) m
  generalize runN n d t c f m = k at *
  have hok : ∀ i, i ≤ k → okO n d (mkM n d t c f i).1 (mkM n d t c f i).2 = true := fun i hi => mkM_ok hg.1 fun j hj => hst j (by omega)
  refine mrB_of (mkB_of (okO_t hg.1).1 (by omega) (by omega) fun i hi => ?_) (prB_of fun i hi j hj hb => ?_)
  · rw [mkL_get6 _ _ _ _ _ _ _ (by omega)]; exact (okO_t (hok i (by omega))).2
  · have ej : i = j + 1 := by omega
    subst ej
    unfold two; dsimp only
    rw [mkL_get6 _ _ _ _ _ _ _ (by omega), mkL_get6 _ _ _ _ _ _ _ (by omega)]
    have hs := hst j (by omega)
    simp only [stepAt, stepB, Bool.and_eq_true] at hs
    have e1 : (mkM n d t c f (j + 1)).1 - (mkM n d t c f j).1 = (f j).1 := by simp only [mkM]; omega
    have e2 : (mkM n d t c f (j + 1)).2 - (mkM n d t c f j).2 = clI n d (f j).1 (f j).2 := by simp only [mkM]; omega
    rw [e1, e2]
    exact cl_may6 hs.1.1.2
end Go.Proofs.Ytlfbbdeoejafkaa
