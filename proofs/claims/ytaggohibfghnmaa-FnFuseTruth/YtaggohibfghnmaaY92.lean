/- The walk of FnHulls. -/
import Derived.Test.YtaggohibfghnmaaX930
import Derived.Test.YtaggohibfghnmaaX92
import Derived.Test.YtaggohibfghnmaaY91
import Derived.Test.YtaggohibfghnmaaK1
import Derived.WalkKit
import Derived.WalkSpells
import Derived.WalkLawsBesides
import Derived.Deep.RegionHeld
namespace Go.Proofs.Ytaggohibfghnmaa
open Go.RowKit
set_option linter.unusedVariables false
/- What a law needs of the hull, for every list and number. -/
theorem hull_law (f : Nat → Int × Int) (n : Nat) (k : Int) : (hlB (rnL f n k) = false → rnL f n k = [] ∧ hlL (rnL f n k) = 0 ∧ hlH (rnL f n k) = 0) ∧ (hlB (rnL f n k) = true → k ≤ cvI f n (hlL (rnL f n k)) ∧ k ≤ cvI f n (hlH (rnL f n k)) ∧ cvI f n (hlL (rnL f n k) - 1) < k ∧ cvI f n (hlH (rnL f n k) + 1) < k ∧ (-1000000000000 ≤ hlL (rnL f n k) ∧ hlH (rnL f n k) ≤ 1000000000000 ∧ hlL (rnL f n k) ≤ hlH (rnL f n k))) := by
  constructor
  · intro h
    have h0 : (rnL f n k).length = 0 := by simp [hlB] at h; simp [h]
    have e : rnL f n k = [] := List.length_eq_zero_iff.1 h0
    rw [e]; exact ⟨rfl, rfl, rfl⟩
  · intro h
    by_cases hg : srcB f n = true ∧ 1 ≤ k
    · obtain ⟨hs, h1⟩ := hg
      have ⟨hn, ho⟩ := srcB_le hs
      have e := rnL_t hs h1
      have hne : 0 < (rns f n k).length := by rw [e] at h; simpa [hlB] using h
      obtain ⟨c1, c2, c3, c4, c5⟩ := hull_in ho h1 hne
      obtain ⟨hp, hk⟩ := rns_ok (k := k) ho
      have o0 := okI_t (ok_at hk hne)
      have o1 := okI_t (ok_at hk (i := (rns f n k).length - 1) (by omega))
      have hle := (c5 _ c1).2
      rw [e]
      simp only [cvI_t hs]
      exact ⟨c1, c2, c3, c4, o0.2.1, o1.2.2, hle⟩
    · have e : rnL f n k = [] := if_neg hg
      rw [e] at h; simp [hlB] at h
set_option maxRecDepth 100000 in
set_option maxHeartbeats 4000000 in
theorem walkHulls (a : Option Addr) (n c : Nat) (w : World) (hcode : CodeB w w.heap.size a n) :
    Calls Try.prog 4 #[.slice a n c] w fun e w' => e = .returned (.bool true) ∧ Below w.heap.size w w' := by
  have HC : Hid (CodeB w w.heap.size a n) := hcode
  clear hcode
  by_cases hbig : 1048576 < n
  · have hd : decide (1048576 < (n : Int)) = true := by simp; omega
    go_enter Try.func4, Try.ntmps4
    go_wp2_with fail
    refine (big_any _ _ _ _).mono ?_
    rintro e w' ⟨rfl, rfl⟩
    rw [hd]
    go_wp2_with fail
    go_ret
    exact ⟨rfl, Below.refl _ _⟩
  · have hd : decide (1048576 < (n : Int)) = false := by simp; omega
    go_enter Try.func4, Try.ntmps4
    go_wp2_with fail
    refine (big_any _ _ _ _).mono ?_
    rintro e w' ⟨rfl, rfl⟩
    rw [hd]
    go_wp2_with fail
    refine (DrawHullOf_any a n c _ (by omega) HC.out).mono ?_
    rintro e w1 ⟨v, L, k, rfl, o1, hL, k0, k1, B⟩
    obtain ⟨a1, c1, rfl, hc1, hcm, S1⟩ := own_src o1
    have HS : Hid (Src w1 a1 L.length fun i => L.getD i (0, 0)) := S1
    clear S1 hbig HC o1
    generalize (fun i => L.getD i (0, 0)) = f at *
    have hLm : L.length ≤ maxLen := by unfold maxLen; omega
    generalize L.length = m at *
    have hB1 := B.size
    have CH := fun (v : World) (hb : Below w1.heap.size w1 v) => implHull a1 m c1 f k v hLm (HS.out.below hb)
    have CI := fun (v : World) (hb : Below w1.heap.size w1 v) => implHB a1 m c1 f k v hLm (by omega) (HS.out.below hb)
    have CSp := fun (v : World) (hb : Below w1.heap.size w1 v) => specHB a1 m c1 f k v hLm (by omega) (HS.out.below hb)
    have CR := fun (v : World) (hb : Below w1.heap.size w1 v) => implRuns_any a1 m c1 f k v hLm (HS.out.below hb)
    have CC := fun (t : Int) (v : World) (hb : Below w1.heap.size w1 v) => implCoverAt a1 m c1 f t v hLm (HS.out.below hb)
    obtain ⟨s1, s2, s3⟩ := hull_same f m k
    rw [s1] at s2 s3
    rw [s1, s2, s3] at CI CSp
    obtain ⟨hno, hyes⟩ := hull_law f m k
    clear s1 s2 s3 HS
    have HNo : Hid (hlB (rnL f m k) = false → rnL f m k = [] ∧ hlL (rnL f m k) = 0 ∧ hlH (rnL f m k) = 0) := hno
    clear hno
    generalize hlL (rnL f m k) = lo at *
    generalize hlH (rnL f m k) = hi at *
    generalize hob : hlB (rnL f m k) = ob at *
    clear hob
    have B0 := Below.refl w1.heap.size w1
    go_wp2_with fail
    refine (CH _ B0).mono ?_
    rintro e w2 ⟨rfl, B2⟩
    clear B0
    have A := Below.al9 w2 (.cells #[.int .i64 lo, .int .i64 hi] 25)
    have X := Vb.new w2 lo hi 25
    replace B2 := B2.trans (A.mono B2.size)
    clear A
    go_upto_region 5 with fail
    generalize hj2 : w2.heap.size = j2 at *
    generalize w2.alloc (.cells #[.int .i64 lo, .int .i64 hi] 25) = v2 at *
    clear hj2
    go_wp2_with fail
    refine (CI _ B2).mono ?_
    rintro e w3 ⟨rfl, hb⟩
    replace X := X.below hb
    have B3 := B2.trans (hb.mono B2.size)
    clear hb B2
    have A := Below.al9 w3 (.cells #[.int .i64 lo, .int .i64 hi] 25)
    have Y := Vb.new w3 lo hi 25
    have hx3 := X.1
    replace X := X.below A
    replace B3 := B3.trans (A.mono B3.size)
    clear A
    go_upto_region 6 with fail
    generalize hj3 : w3.heap.size = j3 at *
    generalize w3.alloc (.cells #[.int .i64 lo, .int .i64 hi] 25) = v3 at *
    clear hj3
    go_wp2_with fail
    refine (CSp _ B3).mono ?_
    rintro e w4 ⟨rfl, hb⟩
    replace X := X.below hb
    replace Y := Y.below hb
    have B4 := B3.trans (hb.mono B3.size)
    clear hb B3
    have A := Below.al9 w4 (.cells #[.int .i64 lo, .int .i64 hi] 25)
    have hx4 := X.1
    have hy4 := Y.1
    replace X := X.below A
    replace Y := Y.below A
    replace B4 := B4.trans (A.mono B4.size)
    clear A
    go_upto_region 7 with fail
    generalize hj4 : w4.heap.size = j4 at *
    generalize w4.alloc (.cells #[.int .i64 lo, .int .i64 hi] 25) = v4 at *
    clear hj4
    obtain ⟨x0, x1, x2, x3, x4⟩ := id X
    obtain ⟨y0, y1, y2, y3, y4⟩ := id Y
    cases ob
    · obtain ⟨e1, -, -⟩ := HNo.out rfl
      rw [e1] at CR
      go_wp2_with fail
      refine (CR _ B4).mono ?_
      rintro e w5 ⟨v, rfl, o5, hb⟩
      obtain ⟨a5, c5, rfl, -, -, -⟩ := own_src o5
      have B5 := B.trans ((B4.trans (hb.mono B4.size)).mono hB1)
      go_wp2_with fail
      go_ret
      exact ⟨rfl, B5⟩
    · obtain ⟨h1, h2, h3, h4, h5, h6, h7⟩ := hyes rfl
      have d1 : decide (k ≤ cvI f m lo) = true := by simpa using h1
      have d2 : decide (k ≤ cvI f m hi) = true := by simpa using h2
      have d3 : decide (cvI f m (lo - 1) < k) = true := by simpa using h3
      have d4 : decide (cvI f m (hi + 1) < k) = true := by simpa using h4
      clear h1 h2 h3 h4 hyes HNo CR CH CI CSp
      go_wp2_with fail
      refine (CC _ _ B4).mono ?_
      rintro e w5 ⟨rfl, hb⟩
      clear x0 x1 x2 x3 x4 y0 y1 y2 y3 y4 Y
      replace X := X.below hb
      have B5 := B4.trans (hb.mono B4.size)
      clear hb B4
      obtain ⟨x0, x1, x2, x3, x4⟩ := id X
      go_wp2_with fail
      refine (CC _ _ B5).mono ?_
      rintro e w6 ⟨rfl, hb⟩
      clear x0 x1 x2 x3 x4
      replace X := X.below hb
      have B6 := B5.trans (hb.mono B5.size)
      clear hb B5
      obtain ⟨x0, x1, x2, x3, x4⟩ := id X
      go_wp2_with fail
      refine (CC _ _ B6).mono ?_
      rintro e w7 ⟨rfl, hb⟩
      clear x0 x1 x2 x3 x4
      replace X := X.below hb
      have B7 := B6.trans (hb.mono B6.size)
      clear hb B6
      obtain ⟨x0, x1, x2, x3, x4⟩ := id X
      go_wp2_with fail
      refine (CC _ _ B7).mono ?_
      rintro e w8 ⟨rfl, hb⟩
      have B8 := B.trans ((B7.trans (hb.mono B7.size)).mono hB1)
      clear x0 x1 x2 x3 x4
      go_wp2_with fail
      go_ret
      exact ⟨rfl, B8⟩
end Go.Proofs.Ytaggohibfghnmaa
