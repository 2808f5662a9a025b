/- The walk of FnFuseTruth. -/
import Derived.Test.YtaggohibfghnmaaY92
import Derived.Test.YtaggohibfghnmaaX914
import Derived.Test.YtaggohibfghnmaaX916
import Derived.Test.YtaggohibfghnmaaY94
import Derived.Test.YtaggohibfghnmaaK1
import Derived.Test.YtaggohibfghnmaaW1
import Derived.Test.YtaggohibfghnmaaW7
import Derived.WalkKit
import Derived.WalkSpells
import Derived.WalkLawsBesides
import Derived.Deep.RegionHeld
namespace Go.Proofs.Ytaggohibfghnmaa
open Go.RowKit
set_option linter.unusedVariables false
/- What `at` reads is one number for each place, whatever lies beyond the code. -/
set_option maxHeartbeats 400000 in
theorem at_val (a : Option Addr) (n c B : Nat) (w : World) (hn : n ≤ 1048576) (hcode : CodeB w B a n) :
    ∃ g : Nat → Int, (∀ i, 0 ≤ g i ∧ g i ≤ 255) ∧ ∀ (v : World), Below B w v → ∀ i : Nat, i ≤ 1000 →
      Calls Try.prog 9 #[.slice a n c, .int .i64 (i : Int)] v fun e w' => e = .returned (.int .i64 (g i)) ∧ v = w' := by
  have hex : ∀ i : Nat, ∃ z : Int, (0 ≤ z ∧ z ≤ 255) ∧ (i < n → ∃ b off, a = some ⟨b, off, none⟩ ∧ b < B ∧ w.cell? ⟨b, off + i, none⟩ = some (.int .u8 z)) ∧ (¬ i < n → z = ((i : Int) * 7 + n) % 256) := fun i => by
    by_cases h : i < n
    · rcases hcode with h0 | ⟨b, off, ha, hb, hz⟩
      · omega
      · obtain ⟨z, h1, h2, h3⟩ := hz i h
        exact ⟨z, ⟨h2, h3⟩, fun _ => ⟨b, off, ha, hb, h1⟩, fun h9 => absurd h h9⟩
    · exact ⟨_, ⟨Int.emod_nonneg _ (by omega), by have := Int.emod_lt_of_pos ((i : Int) * 7 + n) (b := 256) (by omega); omega⟩, fun h9 => absurd h9 h, fun _ => rfl⟩
  refine ⟨fun i => Classical.choose (hex i), fun i => (Classical.choose_spec (hex i)).1, fun v hv i hi => ?_⟩
  obtain ⟨h1, h2, h3⟩ := Classical.choose_spec (hex i)
  dsimp only
  generalize Classical.choose (hex i) = z at *
  clear hex hcode
  by_cases h : i < n
  · have hd : (i : Int) < (n : Int) := by omega
    obtain ⟨b, off, rfl, hb, hz⟩ := h2 h
    have hz' : v.cell? ⟨b, off + i, none⟩ = some (.int .u8 z) := (hv.cell (p := ⟨b, off + i, none⟩) hb).trans hz
    clear h2 h3 hv hz
    go_enter Try.func9, Try.ntmps9
    go_wp2_with fail
    go_ret
    exact ⟨rfl, rfl⟩
  · have hd : decide ((i : Int) < (n : Int)) = false := by simp; omega
    have hz := h3 h
    clear h2 h3 hv
    go_enter Try.func9, Try.ntmps9
    go_wp2_with fail
    go_ret
    subst hz
    exact ⟨rfl, rfl⟩
theorem cov_ext {f g : Nat → Int × Int} {t : Int} : ∀ {n : Nat}, (∀ j, j < n → f j = g j) → cov f n t = cov g n t
  | 0, _ => rfl
  | n + 1, h => by
    simp only [cov]
    rw [cov_ext (n := n) fun j hj => h j (by omega), h n (by omega)]
theorem allOk_of {f : Nat → Int × Int} : ∀ {n : Nat}, (∀ j, j < n → okI (f j).1 (f j).2 = true) → allOk f n = true
  | 0, _ => rfl
  | n + 1, h => by
    simp only [allOk]
    rw [allOk_of (n := n) fun j hj => h j (by omega), h n (by omega)]; rfl
theorem RowK.ext {w : World} {b t n k : Nat} {f g : Nat → Int × Int} (h : RowK w b t n k f) (he : ∀ j, j < k → f j = g j) : RowK w b t n k g := by
  obtain ⟨q, hr, hq⟩ := h
  exact ⟨q, hr, fun j hj => by rw [← he j hj]; exact hq j hj⟩
theorem grown_put9 (w : World) (q k : Nat) (x y : Int) : w.grownBy ((w.setCell ⟨q, k * 2, none⟩ (.int .i64 x)).setCell ⟨q, k * 2 + 1, none⟩ (.int .i64 y)) (some q) := grown_set (grown_set ⟨rfl, rfl, rfl, Nat.le_refl _, fun _ _ _ => rfl⟩ _ _) _ _
def upd (F : Nat → Int × Int) (k : Nat) (q : Int × Int) : Nat → Int × Int := fun j => if j = k then q else F j
theorem upd_at (F : Nat → Int × Int) (k : Nat) (q : Int × Int) : upd F k q k = q := if_pos rfl
theorem upd_lt (F : Nat → Int × Int) (k : Nat) (q : Int × Int) : ∀ j, j < k → F j = upd F k q j := fun j hj => (if_neg (by omega)).symm
/- Sources so far: in order, and at most l of them do not hold t. -/
def Src9 (F : Nat → Int × Int) (k : Nat) (t l : Int) : Prop := (∀ j, j < k → okI (F j).1 (F j).2 = true) ∧ (k : Int) ≤ (cov F k t : Int) + l
theorem Src9.lie {F : Nat → Int × Int} {k : Nat} {t l : Int} (h : Src9 F k t l) {x y : Int} (hk : okI x y = true) : Src9 (upd F k (x, y)) (k + 1) t (l + 1) := by
  refine ⟨fun j hj => ?_, ?_⟩
  · by_cases e : j = k
    · rw [e, upd_at]; exact hk
    · rw [← upd_lt F k (x, y) j (by omega)]; exact h.1 j (by omega)
  · have := h.2
    simp only [cov]
    rw [← cov_ext (upd_lt F k (x, y))]
    split <;> (try simp) <;> omega
theorem Src9.good {F : Nat → Int × Int} {k : Nat} {t l : Int} (h : Src9 F k t l) {x y : Int} (hk : holdsI x y t = true) : Src9 (upd F k (x, y)) (k + 1) t l := by
  have hk2 : okI x y = true := by simp only [holdsI, Bool.and_eq_true] at hk; exact hk.1
  refine ⟨fun j hj => ?_, ?_⟩
  · by_cases e : j = k
    · rw [e, upd_at]; exact hk2
    · rw [← upd_lt F k (x, y) j (by omega)]; exact h.1 j (by omega)
  · have := h.2
    simp only [cov]
    rw [← cov_ext (upd_lt F k (x, y)), upd_at, if_pos hk]
    simp; omega
theorem fuse_truth {F : Nat → Int × Int} {m : Nat} {ol oh t ff le : Int} (kn : Bool) (hs : srcB F m = true) (h0 : 0 ≤ ff) (h1 : ff < (m : Int)) (h2 : 1 ≤ le) (h3 : le ≤ (m : Int)) (ho : okI ol oh = true) (ht : ol ≤ t ∧ t ≤ oh) (hc : (m : Int) - ff ≤ (cov F m t : Int)) :
    fuC ol oh kn F m ff le = 0 ∧ holdsI (fuL ol oh kn F m ff le) (fuH ol oh kn F m ff le) t = true ∧ (kn = true → withinI (fuL ol oh kn F m ff le) (fuH ol oh kn F m ff le) ol oh = true) := by
  have ⟨hn, hok⟩ := srcB_le hs
  have e := rnL_t hs (show 1 ≤ (m : Int) - ff by omega)
  have hne : 0 < (rns F m ((m : Int) - ff)).length := by
    obtain ⟨r, hr, _⟩ := (rns_in (k := (m : Int) - ff) hok (by omega)).2 t hc
    exact List.length_pos_iff.2 (fun e9 => by rw [e9] at hr; simp at hr)
  have hhb : hlB (rnL F m ((m : Int) - ff)) = true := by rw [e]; simp [hlB, hne]
  obtain ⟨-, -, -, -, c5⟩ := hull_in (k := (m : Int) - ff) hok (by omega) hne
  have ⟨t1, t2⟩ := c5 t hc
  obtain ⟨-, -, -, -, b1, b2, b3⟩ := (hull_law F m ((m : Int) - ff)).2 hhb
  rw [← e] at t1 t2
  have ⟨o1, o2, o3⟩ := okI_t ho
  have eb : fuBad ol oh kn F m ff le = false := by
    simp [fuBad, hs, ho]; omega
  have ew : fuFew m ff le = false := by simp [fuFew]; omega
  have hko : okI (hlL (rnL F m ((m : Int) - ff))) (hlH (rnL F m ((m : Int) - ff))) = true := decide_eq_true ⟨b3, b1, b2⟩
  cases kn
  · have ec : fuC ol oh false F m ff le = 0 := by simp [fuC, eb, ew, hhb]
    refine ⟨ec, ?_, fun h => by cases h⟩
    have el : fuL ol oh false F m ff le = hlL (rnL F m ((m : Int) - ff)) := by simp [fuL, ec]
    have eh : fuH ol oh false F m ff le = hlH (rnL F m ((m : Int) - ff)) := by simp [fuH, ec]
    rw [el, eh]
    simp only [holdsI, hko, Bool.true_and]
    exact decide_eq_true ⟨t1, t2⟩
  · obtain ⟨xl, exl⟩ : ∃ x, hlL (rnL F m ((m : Int) - ff)) = x := ⟨_, rfl⟩
    obtain ⟨xh, exh⟩ : ∃ x, hlH (rnL F m ((m : Int) - ff)) = x := ⟨_, rfl⟩
    rw [exl] at t1 hko b1 b3
    rw [exh] at t2 hko b2 b3
    have m1 : imx ol xl ≤ t ∧ ol ≤ imx ol xl ∧ xl ≤ imx ol xl := by rcases imx_cases ol xl with ⟨e1, e2⟩ | ⟨e1, e2⟩ <;> rw [e1] <;> omega
    have m2 : t ≤ imn oh xh ∧ imn oh xh ≤ oh ∧ imn oh xh ≤ xh := by rcases imn_cases oh xh with ⟨e1, e2⟩ | ⟨e1, e2⟩ <;> rw [e1] <;> omega
    have hm9 : okI (imx ol xl) (imn oh xh) = true := decide_eq_true ⟨by omega, by omega, by omega⟩
    have hmt : meetB ol oh xl xh = true := by rw [meetB_in ho hko]; exact hm9
    have ec : fuC ol oh true F m ff le = 0 := by simp [fuC, eb, ew, hhb, exl, exh, hmt]
    have el : fuL ol oh true F m ff le = imx ol xl := by simp [fuL, ec, exl]
    have eh : fuH ol oh true F m ff le = imn oh xh := by simp [fuH, ec, exh]
    rw [el, eh]
    refine ⟨ec, ?_, fun _ => ?_⟩
    · simp only [holdsI, hm9, Bool.true_and]
      exact decide_eq_true ⟨m1.1, m2.1⟩
    · simp only [withinI, okII, hm9, ho, Bool.true_and]
      exact decide_eq_true ⟨m1.2.1, m2.2.1⟩

set_option maxRecDepth 100000 in
set_option maxHeartbeats 8000000 in
theorem walkFuseTruth (a : Option Addr) (n c : Nat) (w : World) (hcode : CodeB w w.heap.size a n) :
    Calls Try.prog 3 #[.slice a n c] w fun e w' => e = .returned (.bool true) ∧ Below w.heap.size w w' := by
  have HC : Hid (CodeB w w.heap.size a n) := hcode
  clear hcode
  by_cases hbig : 1048576 < n
  · have hd : decide (1048576 < (n : Int)) = true := by simp; omega
    go_enter Try.func3, Try.ntmps3
    go_wp2_with fail
    refine (big_any _ _ _ _).mono ?_
    rintro e w' ⟨rfl, rfl⟩
    rw [hd]
    go_wp2_with fail
    go_ret
    exact ⟨rfl, Below.refl _ _⟩
  · have hd : decide (1048576 < (n : Int)) = false := by simp; omega
    obtain ⟨g, hg, CA⟩ := at_val a n c w.heap.size w (by omega) HC.out
    go_enter Try.func3, Try.ntmps3
    go_wp2_with fail
    refine (big_any _ _ _ _).mono ?_
    rintro e w' ⟨rfl, rfl⟩
    rw [hd]
    go_wp2_with fail
    refine (DrawFuse_any a n c _ (by omega) HC.out).mono ?_
    rintro e w1 ⟨ol, oh, kn, v, L, ff, le, rfl, o1, hL, B1⟩
    obtain ⟨a1, c1, rfl, hc1, hcm, S1⟩ := own_src o1
    have HS : Hid (Src w1 a1 L.length fun i => L.getD i (0, 0)) := S1
    have HR : Hid (L.length = 0 ∨ ∃ q, a1 = some ⟨q, 0, none⟩ ∧ w.heap.size ≤ q ∧ q < w1.heap.size ∧ L.length ≤ c1 ∧ RowK w1 q 25 c1 0 fmk) := by
      rcases o1.2 with ⟨h9, h0⟩ | ⟨q, cap, cur, h9, _⟩
      · exact .inl h0
      · simp at h9
        obtain ⟨rfl, rfl⟩ := h9
        obtain ⟨x1, x2, x3⟩ := own_rowK o1
        have x4 := (o1.lt q rfl).2
        exact .inr ⟨q, rfl, x1, x4, x2, x3⟩
    clear S1 hbig HC o1 hd
    generalize (fun i => L.getD i (0, 0)) = f at *
    have hLm : L.length ≤ maxLen := by unfold maxLen; omega
    generalize L.length = m at *
    have hB1 := B1.size
    have CA1 : ∀ v : World, Below w1.heap.size w1 v → Calls Try.prog 9 #[.slice a n c, .int .i64 1] v fun e w' => e = .returned (.int .i64 (g 1)) ∧ v = w' := fun v hb => CA v (B1.trans (hb.mono hB1)) 1 (by omega)
    have CA2 : ∀ v : World, Below w.heap.size w v → Calls Try.prog 9 #[.slice a n c, .int .i64 2] v fun e w' => e = .returned (.int .i64 (g 2)) ∧ v = w' := fun v hb => CA v hb 2 (by omega)
    have CA3 : ∀ v : World, Below w.heap.size w v → Calls Try.prog 9 #[.slice a n c, .int .i64 3] v fun e w' => e = .returned (.int .i64 (g 3)) ∧ v = w' := fun v hb => CA v hb 3 (by omega)
    have g1 := hg 1
    have g2 := hg 2
    have g3 := hg 3
    generalize g 1 = t0 at *
    generalize g 2 = t2 at *
    generalize g 3 = t3 at *
    have A := Below.al9 w1 (.cells #[.int .i64 ol, .int .i64 oh] 25)
    have P := Vb.new w1 ol oh 25
    have B : Below w1.heap.size w1 (w1.alloc (.cells #[.int .i64 ol, .int .i64 oh] 25)) := A
    clear A
    go_upto_region 4 with fail
    generalize hjp : w1.alloc (.cells #[.int .i64 ol, .int .i64 oh] 25) = v1 at *
    obtain ⟨jp, hjp2⟩ : ∃ jp, w1.heap.size = jp := ⟨_, rfl⟩
    rw [hjp2] at P
    rw [hjp2]
    clear hjp
    have BV := B
    go_wp2_with fail
    refine (CA1 _ B).mono ?_
    rintro e w' ⟨rfl, rfl⟩
    have hm1 := Int.emod_lt_of_pos t0 (b := 40) (by omega)
    have hm2 := Int.emod_nonneg t0 (b := 40) (by omega)
    have ht : t0.tmod 40 = t0 % 40 := Int.tmod_eq_emod_of_nonneg (by omega)
    by_cases hm12 : (12 : Int) < (m : Int)
    · skip
      have CF := fun (v : World) (hb : Below w1.heap.size w1 v) => implFuse ol oh kn a1 m c1 f (-1) 1 v hLm (HS.out.below hb)
      have e1 : fuC ol oh kn f m (-1) 1 = 1 := by simp [fuC, fuBad]
      rw [e1] at CF
      generalize fuL ol oh kn f m (-1) 1 = fl at *
      generalize fuH ol oh kn f m (-1) 1 = fh at *
      clear e1
      obtain ⟨p0, p1, p2, p3, p4⟩ := id P
      go_wp2_with fail
      refine (CF _ B).mono ?_
      rintro e w3 ⟨rfl, hb⟩
      replace B := B.trans (hb.mono B.size)
      have A := Below.al9 w3 (.cells #[.int .i64 fl, .int .i64 fh] 25)
      replace B := B.trans (A.mono B.size)
      clear p0 p1 p2 p3 p4 A hb CF P
      go_upto_region 7 with fail
      generalize w3.alloc (.cells #[.int .i64 fl, .int .i64 fh] 25) = v3 at *
      go_wp2_with fail
      go_ret
      exact ⟨rfl, B1.trans (B.mono hB1)⟩
    have hd1 : decide ((12 : Int) < (m : Int)) = false := by simp; omega
    by_cases hf0 : ff < 0
    · skip
      have CF := fun (v : World) (hb : Below w1.heap.size w1 v) => implFuse ol oh kn a1 m c1 f (-1) 1 v hLm (HS.out.below hb)
      have e1 : fuC ol oh kn f m (-1) 1 = 1 := by simp [fuC, fuBad]
      rw [e1] at CF
      generalize fuL ol oh kn f m (-1) 1 = fl at *
      generalize fuH ol oh kn f m (-1) 1 = fh at *
      clear e1
      obtain ⟨p0, p1, p2, p3, p4⟩ := id P
      go_wp2_with fail
      refine (CF _ B).mono ?_
      rintro e w3 ⟨rfl, hb⟩
      replace B := B.trans (hb.mono B.size)
      have A := Below.al9 w3 (.cells #[.int .i64 fl, .int .i64 fh] 25)
      replace B := B.trans (A.mono B.size)
      clear p0 p1 p2 p3 p4 A hb CF P
      go_upto_region 7 with fail
      generalize w3.alloc (.cells #[.int .i64 fl, .int .i64 fh] 25) = v3 at *
      go_wp2_with fail
      go_ret
      exact ⟨rfl, B1.trans (B.mono hB1)⟩
    have hd2 : decide (ff < 0) = false := by simp; omega
    by_cases hl0 : le < 1
    · skip
      have CF := fun (v : World) (hb : Below w1.heap.size w1 v) => implFuse ol oh kn a1 m c1 f (-1) 1 v hLm (HS.out.below hb)
      have e1 : fuC ol oh kn f m (-1) 1 = 1 := by simp [fuC, fuBad]
      rw [e1] at CF
      generalize fuL ol oh kn f m (-1) 1 = fl at *
      generalize fuH ol oh kn f m (-1) 1 = fh at *
      clear e1
      obtain ⟨p0, p1, p2, p3, p4⟩ := id P
      go_wp2_with fail
      refine (CF _ B).mono ?_
      rintro e w3 ⟨rfl, hb⟩
      replace B := B.trans (hb.mono B.size)
      have A := Below.al9 w3 (.cells #[.int .i64 fl, .int .i64 fh] 25)
      replace B := B.trans (A.mono B.size)
      clear p0 p1 p2 p3 p4 A hb CF P
      go_upto_region 7 with fail
      generalize w3.alloc (.cells #[.int .i64 fl, .int .i64 fh] 25) = v3 at *
      go_wp2_with fail
      go_ret
      exact ⟨rfl, B1.trans (B.mono hB1)⟩
    have hd3 : decide (le < 1) = false := by simp; omega
    clear HS
    replace B := B1.trans (B.mono hB1)
    go_upto_region 8 with fail
    have ht1 : 20 ≤ 20 + t0 % 40 := by omega
    have ht2 : 20 + t0 % 40 ≤ 59 := by omega
    generalize 20 + t0 % 40 = t at *
    clear hm1 hm2 ht g1 CA1
    have HI : Hid (m = 0 ∨ ∃ q, a1 = some ⟨q, 0, none⟩ ∧ w.heap.size ≤ q ∧ q < jp ∧ RowK v1 q 25 c1 0 fmk) := by
      rcases HR.out with h0 | ⟨q, x1, x2, x3, x4, x5⟩
      · exact .inl h0
      · exact .inr ⟨q, x1, x2, by omega, x5.below BV x3⟩
    clear HR BV
    go_wp2_with fail
    go_loopw [11, 12] (fun lv iv wr => ∃ (l : Int) (k : Nat) (F : Nat → Int × Int), lv = .int .i64 l ∧ iv = .int .i64 k ∧ k ≤ m ∧ 0 ≤ l ∧ l ≤ (k : Int) ∧ l ≤ ff ∧ Src9 F k t l ∧ Vb wr jp ol oh ∧ Below w.heap.size w wr ∧ Hid (m = 0 ∨ ∃ q, a1 = some ⟨q, 0, none⟩ ∧ w.heap.size ≤ q ∧ q < jp ∧ RowK wr q 25 c1 k F)) (fun _ iv _ => m - (intOf iv).toNat)
    case atStart => exact ⟨0, 0, fmk, rfl, rfl, Nat.zero_le _, by omega, by omega, by omega, ⟨fun j hj => absurd hj (Nat.not_lt_zero _), by simp⟩, P, B, HI⟩
    case round =>
      obtain ⟨l, k, F, rfl, rfl, hk, hl1, hl2, hl3, S, P9, B9, R9⟩ := hrel
      clear P B HI
      by_cases hlt : k < m
      · have hli : (k : Int) < (m : Int) := by omega
        rcases R9.out with h0 | ⟨q, rfl, hq1, hq2, hrow⟩
        · omega
        clear R9
        obtain ⟨l1, ⟨v3, e3⟩, ⟨v4, e4⟩, f3, f4⟩ := hrow.facts (show k < c1 by omega)
        have CK3 : ∀ v : World, Below w.heap.size w v → Calls Try.prog 9 #[.slice a n c, .int .i64 ((k : Int) + 3)] v fun e w' => e = .returned (.int .i64 (g (k + 3))) ∧ v = w' := fun v hb => CA v hb (k + 3) (by omega)
        have CK9 : ∀ v : World, Below w.heap.size w v → Calls Try.prog 9 #[.slice a n c, .int .i64 ((k : Int) + 9)] v fun e w' => e = .returned (.int .i64 (g (k + 9))) ∧ v = w' := fun v hb => CA v hb (k + 9) (by omega)
        have CK5 : ∀ v : World, Below w.heap.size w v → Calls Try.prog 9 #[.slice a n c, .int .i64 ((k : Int) + 5)] v fun e w' => e = .returned (.int .i64 (g (k + 5))) ∧ v = w' := fun v hb => CA v hb (k + 5) (by omega)
        have CK7 : ∀ v : World, Below w.heap.size w v → Calls Try.prog 9 #[.slice a n c, .int .i64 ((k : Int) + 7)] v fun e w' => e = .returned (.int .i64 (g (k + 7))) ∧ v = w' := fun v hb => CA v hb (k + 7) (by omega)
        have CK8 : ∀ v : World, Below w.heap.size w v → Calls Try.prog 9 #[.slice a n c, .int .i64 ((k : Int) + 8)] v fun e w' => e = .returned (.int .i64 (g (k + 8))) ∧ v = w' := fun v hb => CA v hb (k + 8) (by omega)
        have g3' := hg (k + 3)
        have g9 := hg (k + 9)
        have g5 := hg (k + 5)
        have g7 := hg (k + 7)
        have g8 := hg (k + 8)
        generalize g (k + 3) = x3 at *
        generalize g (k + 9) = x9 at *
        generalize g (k + 5) = x5 at *
        generalize g (k + 7) = x7 at *
        generalize g (k + 8) = x8 at *
        have n5 := Int.emod_lt_of_pos x5 (b := 9) (by omega)
        have o5 := Int.emod_nonneg x5 (b := 9) (by omega)
        have n7 := Int.emod_lt_of_pos x7 (b := 20) (by omega)
        have o7 := Int.emod_nonneg x7 (b := 20) (by omega)
        have n8 := Int.emod_lt_of_pos x8 (b := 20) (by omega)
        have o8 := Int.emod_nonneg x8 (b := 20) (by omega)
        have n3 := Int.emod_lt_of_pos x3 (b := 3) (by omega)
        have o3 := Int.emod_nonneg x3 (b := 3) (by omega)
        have hne : jp ≠ q := by omega
        by_cases hlf : l < ff
        · go_wp2_with fail
          refine (CK3 _ B9).mono ?_
          rintro e w' ⟨rfl, rfl⟩
          by_cases hx3 : x3 % 3 = 0
          · have hb3 : (x3 % 3 == 0) = true := by simpa using hx3
            have hk9 : okI x9 (x9 + x5 % 9) = true := decide_eq_true ⟨by omega, by omega, by omega⟩
            have S2 := S.lie hk9
            have R2 := (hrow.ext (upd_lt F k (x9, x9 + x5 % 9))).step
            simp only [upd_at] at R2
            have G2 := fun (w9 : World) => grown_put9 w9 q k x9 (x9 + x5 % 9)
            have P2 := P9.grown (G2 _) hne
            have B2 := B9.trans (grown_belowB (G2 _) hq1 B9.size)
            clear hk9 S hrow G2 P9
            go_wp2_with fail
            refine (CK9 _ B9).mono ?_
            rintro e w'' ⟨rfl, rfl⟩
            go_wp2_with fail
            refine (CK9 _ B9).mono ?_
            rintro e w'' ⟨rfl, rfl⟩
            go_wp2_with fail
            refine (CK5 _ B9).mono ?_
            rintro e w'' ⟨rfl, rfl⟩
            go_wp2_with fail
            go_roundw
            case rel => exact ⟨l + 1, k + 1, _, rfl, by go_num, by omega, by omega, by omega, by omega, S2, P2, B2, .inr ⟨q, rfl, hq1, hq2, R2⟩⟩
            case measure => simp [intOf]; omega
          · have hb3 : (x3 % 3 == 0) = false := by simpa using hx3
            have hh9 : holdsI (t - x7 % 20) (t + x8 % 20) t = true := by
              have : okI (t - x7 % 20) (t + x8 % 20) = true := decide_eq_true ⟨by omega, by omega, by omega⟩
              simp only [holdsI, this, Bool.true_and]
              exact decide_eq_true ⟨by omega, by omega⟩
            have S2 := S.good hh9
            have R2 := (hrow.ext (upd_lt F k (t - x7 % 20, t + x8 % 20))).step
            simp only [upd_at] at R2
            have G2 := fun (w9 : World) => grown_put9 w9 q k (t - x7 % 20) (t + x8 % 20)
            have P2 := P9.grown (G2 _) hne
            have B2 := B9.trans (grown_belowB (G2 _) hq1 B9.size)
            clear hh9 S hrow G2 P9
            go_wp2_with fail
            refine (CK7 _ B9).mono ?_
            rintro e w'' ⟨rfl, rfl⟩
            go_wp2_with fail
            refine (CK8 _ B9).mono ?_
            rintro e w'' ⟨rfl, rfl⟩
            go_wp2_with fail
            go_roundw
            case rel => exact ⟨l, k + 1, _, rfl, by go_num, by omega, hl1, by omega, hl3, S2, P2, B2, .inr ⟨q, rfl, hq1, hq2, R2⟩⟩
            case measure => simp [intOf]; omega
        · have hd4 : decide (l < ff) = false := by simp; omega
          have hh9 : holdsI (t - x7 % 20) (t + x8 % 20) t = true := by
            have : okI (t - x7 % 20) (t + x8 % 20) = true := decide_eq_true ⟨by omega, by omega, by omega⟩
            simp only [holdsI, this, Bool.true_and]
            exact decide_eq_true ⟨by omega, by omega⟩
          have S2 := S.good hh9
          have R2 := (hrow.ext (upd_lt F k (t - x7 % 20, t + x8 % 20))).step
          simp only [upd_at] at R2
          have G2 := fun (w9 : World) => grown_put9 w9 q k (t - x7 % 20) (t + x8 % 20)
          have P2 := P9.grown (G2 _) hne
          have B2 := B9.trans (grown_belowB (G2 _) hq1 B9.size)
          clear hh9 S hrow G2 P9
          go_wp2_with fail
          refine (CK7 _ B9).mono ?_
          rintro e w'' ⟨rfl, rfl⟩
          go_wp2_with fail
          refine (CK8 _ B9).mono ?_
          rintro e w'' ⟨rfl, rfl⟩
          go_wp2_with fail
          go_roundw
          case rel => exact ⟨l, k + 1, _, rfl, by go_num, by omega, hl1, by omega, hl3, S2, P2, B2, .inr ⟨q, rfl, hq1, hq2, R2⟩⟩
          case measure => simp [intOf]; omega
      · have hkm : k = m := by omega
        subst hkm
        have hli : ¬ (k : Int) < (k : Int) := by omega
        have n2 := Int.emod_lt_of_pos t2 (b := 30) (by omega)
        have o2 := Int.emod_nonneg t2 (b := 30) (by omega)
        have n3 := Int.emod_lt_of_pos t3 (b := 30) (by omega)
        have o3 := Int.emod_nonneg t3 (b := 30) (by omega)
        have hok : okI (t - t2 % 30) (t + t3 % 30) = true := decide_eq_true ⟨by omega, by omega, by omega⟩
        have htr : t - t2 % 30 ≤ t ∧ t ≤ t + t3 % 30 := by omega
        have hsb : srcB F k = true := by
          simp only [srcB, allOk_of S.1, Bool.and_true]
          exact decide_eq_true (by omega)
        have hcv : (k : Int) - ff ≤ (cov F k t : Int) := by have := S.2; omega
        have hwj : w.heap.size ≤ jp := by omega
        have BP := fun (w9 : World) => Below.put2 (Below.refl jp w9) (Nat.le_refl jp) (t - t2 % 30) (t + t3 % 30)
        have HS := fun (w9 : World) (h : Hid (k = 0 ∨ ∃ q, a1 = some ⟨q, 0, none⟩ ∧ w.heap.size ≤ q ∧ q < jp ∧ RowK w9 q 25 c1 k F)) => show Hid (Src (put2 w9 jp (t - t2 % 30) (t + t3 % 30)) a1 k F) by
          rcases h.out with h0 | ⟨q, h1, h2, h3, h4⟩
          · exact .inl h0
          · exact .inr ⟨q, 0, h1, rowK_prs (h4.below (BP w9) h3) hc1⟩
        have P2 := P9.put (t - t2 % 30) (t + t3 % 30)
        have B2 := Below.put2 B9 hwj (t - t2 % 30) (t + t3 % 30)
        have HS2 := HS _ R9
        unfold put2 at P2 B2 HS2
        obtain ⟨p0, p1, p2, p3, p4⟩ := id P9
        clear HS BP R9 S P9
        go_wp2_with fail
        refine (CA2 _ B9).mono ?_
        rintro e w'' ⟨rfl, rfl⟩
        go_wp2_with fail
        refine (CA3 _ B9).mono ?_
        rintro e w'' ⟨rfl, rfl⟩
        go_upto_region 17 with fail
        clear p0 p1 p2 p3 p4 B9
        generalize ((wr.setCell ⟨jp, 0, none⟩ (.int .i64 (t - t2 % 30))).setCell ⟨jp, 1, none⟩ (.int .i64 (t + t3 % 30))) = v2 at *
        generalize t - t2 % 30 = ol9 at *
        generalize t + t3 % 30 = oh9 at *
        have hcase : ((k : Int) < le ∧ fuC ol9 oh9 kn F k ff le = 2) ∨ (le ≤ (k : Int) ∧ (k : Int) ≤ ff ∧ fuC ol9 oh9 kn F k ff le = 2) ∨ (le ≤ (k : Int) ∧ ff < (k : Int) ∧ fuC ol9 oh9 kn F k ff le = 0 ∧ holdsI (fuL ol9 oh9 kn F k ff le) (fuH ol9 oh9 kn F k ff le) t = true ∧ (kn = true → withinI (fuL ol9 oh9 kn F k ff le) (fuH ol9 oh9 kn F k ff le) ol9 oh9 = true)) := by
          have eb : fuBad ol9 oh9 kn F k ff le = false := by
            simp [fuBad, hsb, hok]; omega
          by_cases c1 : (k : Int) < le
          · exact .inl ⟨c1, by simp [fuC, eb, fuFew, c1]⟩
          by_cases c2 : (k : Int) ≤ ff
          · exact .inr (.inl ⟨by omega, c2, by simp [fuC, eb, fuFew, c2]⟩)
          exact .inr (.inr ⟨by omega, by omega, fuse_truth kn hsb hf0 (by omega) hl0 (by omega) hok htr hcv⟩)
        have CF := implFuse ol9 oh9 kn a1 k c1 F ff le v2 hLm HS2.out
        generalize fuL ol9 oh9 kn F k ff le = fl at *
        generalize fuH ol9 oh9 kn F k ff le = fh at *
        generalize fuC ol9 oh9 kn F k ff le = cc at *
        unfold maxLen at hLm
        clear HS2 hsb hcv hok htr CA CA2 CA3 hg
        obtain ⟨p0, p1, p2, p3, p4⟩ := id P2
        go_wp2_with fail
        refine CF.mono ?_
        rintro e w3 ⟨rfl, hb⟩
        clear p0 p1 p2 p3 p4 CF
        have P3 := P2.below hb
        have B3 := B2.trans (hb.mono B2.size)
        clear P2 B2 hb
        have A := Below.al9 w3 (.cells #[.int .i64 fl, .int .i64 fh] 25)
        have Q := Vb.new w3 fl fh 25
        replace P3 := P3.below A
        replace B3 := B3.trans (A.mono B3.size)
        clear A
        go_upto_region 18 with fail
        generalize w3.heap.size = jq at *
        generalize w3.alloc (.cells #[.int .i64 fl, .int .i64 fh] 25) = v3 at *
        rcases hcase with ⟨c1, rfl⟩ | ⟨c1, c2, rfl⟩ | ⟨c1, c2, rfl, hho, hwi⟩
        · have hd5 : decide ((k : Int) < le) = true := by simpa using c1
          go_wp2_with fail
          go_ret
          exact ⟨rfl, B3⟩
        · have hd5 : decide ((k : Int) < le) = false := by simp; omega
          have hd6 : decide ((k : Int) ≤ ff) = true := by simpa using c2
          go_wp2_with fail
          go_ret
          exact ⟨rfl, B3⟩
        · have hd5 : decide ((k : Int) < le) = false := by simp; omega
          have hd6 : decide ((k : Int) ≤ ff) = false := by simp; omega
          obtain ⟨q0, q1, q2, q3, q4⟩ := id Q
          go_wp2_with fail
          refine (implHolds_any _ _ _ _).mono ?_
          rintro e w5 ⟨rfl, hb⟩
          rw [hho]
          clear q0 q1 q2 q3 q4
          replace P3 := P3.below hb
          replace Q := Q.below hb
          replace B3 := B3.trans (hb.mono B3.size)
          clear hb
          cases kn
          · skip
            go_wp2_with fail
            go_ret
            exact ⟨rfl, B3⟩
          · have hw := hwi rfl
            obtain ⟨q0, q1, q2, q3, q4⟩ := id Q
            obtain ⟨p0, p1, p2, p3, p4⟩ := id P3
            go_wp2_with fail
            refine (implWithin_any _ _ _ _ _).mono ?_
            rintro e w6 ⟨rfl, hb⟩
            rw [hw]
            replace B3 := B3.trans (hb.mono B3.size)
            clear q0 q1 q2 q3 q4 p0 p1 p2 p3 p4 hb
            go_wp2_with fail
            go_ret
            exact ⟨rfl, B3⟩

end Go.Proofs.Ytaggohibfghnmaa
