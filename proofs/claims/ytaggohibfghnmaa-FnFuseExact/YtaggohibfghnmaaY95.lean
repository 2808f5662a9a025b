/- The walk of FnFuseExact. -/
import Derived.Test.YtaggohibfghnmaaY92
import Derived.Test.YtaggohibfghnmaaX914
import Derived.Test.YtaggohibfghnmaaX916
import Derived.Test.YtaggohibfghnmaaY94
import Derived.Test.YtaggohibfghnmaaK1
import Derived.WalkKit
import Derived.WalkSpells
import Derived.WalkLawsBesides
import Derived.Deep.RegionHeld
namespace Go.Proofs.Ytaggohibfghnmaa
open Go.RowKit
set_option linter.unusedVariables false
theorem mi_hold {f : Nat → Int × Int} {lo hi : Int} {k : Nat} (h : holdsI (f k).1 (f k).2 lo = true) (hk : okI lo hi = true) : mi f lo hi k = false := by
  simp only [holdsI, Bool.and_eq_true, decide_eq_true_eq] at h
  have hm := mi_meet (f := f) h.1 hk
  have ⟨a1, a2, a3⟩ := okI_t h.1
  have ⟨b1, b2, b3⟩ := okI_t hk
  have : meetB (f k).1 (f k).2 lo hi = true := by
    rw [meetB_in h.1 hk]
    refine decide_eq_true ⟨?_, ?_, ?_⟩ <;> (rcases imx_cases (f k).1 lo with ⟨e1, e2⟩ | ⟨e1, e2⟩ <;> rcases imn_cases (f k).2 hi with ⟨e3, e4⟩ | ⟨e3, e4⟩ <;> (try rw [e1]) <;> (try rw [e3]) <;> omega)
  rw [this] at hm
  simpa using hm.symm
theorem miss_cov {f : Nat → Int × Int} {lo hi : Int} (hk : okI lo hi = true) : ∀ n, (msN f lo hi n).length + cov f n lo ≤ n
  | 0 => by simp [msN, cov]
  | n + 1 => by
    have ih := miss_cov (f := f) hk n
    simp only [msN, cov]
    cases hh : holdsI (f n).1 (f n).2 lo
    · simp; split <;> (try simp) <;> omega
    · rw [mi_hold hh hk]; simp; omega
theorem miss_le {f : Nat → Int × Int} {n : Nat} {ff : Int} (hs : srcB f n = true) (h1 : ff < (n : Int)) (hb : hlB (rnL f n ((n : Int) - ff)) = true) : ((msL f n (hlL (rnL f n ((n : Int) - ff))) (hlH (rnL f n ((n : Int) - ff)))).length : Int) ≤ ff := by
  obtain ⟨c1, -, -, -, c5, c6, c7⟩ := (hull_law f n ((n : Int) - ff)).2 hb
  rw [cvI_t hs] at c1
  rw [msL_t hs]
  have := miss_cov (f := f) (lo := hlL (rnL f n ((n : Int) - ff))) (hi := hlH (rnL f n ((n : Int) - ff))) (decide_eq_true ⟨c7, c5, c6⟩) n
  omega
theorem own_shape8 {w : World} {base : Nat} {T : TypeId} {s : Nat} {v : Value} {n : Nat} {xs : List Value} (h : w.ownsRow base T s v n xs) : ∃ a c, v = .slice a n c ∧ True := by
  rcases h.2 with ⟨rfl, rfl⟩ | ⟨g, cap, _, rfl, _⟩
  · exact ⟨none, 0, rfl, trivial⟩
  · exact ⟨_, cap, rfl, trivial⟩
set_option maxRecDepth 100000 in
set_option maxHeartbeats 8000000 in
theorem walkFuseExact (a : Option Addr) (n c : Nat) (w : World) (hcode : CodeB w w.heap.size a n) :
    Calls Try.prog 6 #[.slice a n c] w fun e w' => e = .returned (.bool true) ∧ Below w.heap.size w w' := by
  have HC : Hid (CodeB w w.heap.size a n) := hcode
  clear hcode
  by_cases hbig : 1048576 < n
  · have hd : decide (1048576 < (n : Int)) = true := by simp; omega
    go_enter Try.func6, Try.ntmps6
    go_wp2_with fail
    refine (big_any _ _ _ _).mono ?_
    rintro e w' ⟨rfl, rfl⟩
    rw [hd]
    go_wp2_with fail
    go_ret
    exact ⟨rfl, Below.refl _ _⟩
  · have hd : decide (1048576 < (n : Int)) = false := by simp; omega
    go_enter Try.func6, Try.ntmps6
    go_wp2_with fail
    refine (big_any _ _ _ _).mono ?_
    rintro e w' ⟨rfl, rfl⟩
    rw [hd]
    go_wp2_with fail
    refine (DrawFuse_any a n c _ (by omega) HC.out).mono ?_
    rintro e w1 ⟨ol, oh, kn, v, L, ff, le, rfl, o1, hL, B1⟩
    obtain ⟨a1, c1, rfl, hc1, hcm, S1⟩ := own_src o1
    have HS : Hid (Src w1 a1 L.length fun i => L.getD i (0, 0)) := S1
    clear S1 hbig HC o1 hd
    generalize (fun i => L.getD i (0, 0)) = f at *
    have hLm : L.length ≤ maxLen := by unfold maxLen; omega
    generalize L.length = m at *
    have hB1 := B1.size
    have CF := fun (v : World) (hb : Below w1.heap.size w1 v) => implFuse ol oh kn a1 m c1 f ff le v hLm (HS.out.below hb)
    have CS := fun (v : World) (hb : Below w1.heap.size w1 v) => specSources a1 m c1 f v hLm (HS.out.below hb)
    have CH := fun (hk : (m : Int) - ff ≤ 9223372036854775807) (v : World) (hb : Below w1.heap.size w1 v) => specHB a1 m c1 f ((m : Int) - ff) v hLm hk (HS.out.below hb)
    obtain ⟨s1, s2, s3⟩ := hull_same f m ((m : Int) - ff)
    rw [s1] at s2 s3
    rw [s1, s2, s3] at CH
    clear s1 s2 s3
    have CMi := fun (v : World) (lo hi : Int) (hb : Below w1.heap.size w1 v) => implMissing a1 m c1 f lo hi v hLm (HS.out.below hb)
    have A := Below.al9 w1 (.cells #[.int .i64 ol, .int .i64 oh] 25)
    have P := Vb.new w1 ol oh 25
    have B : Below w1.heap.size w1 (w1.alloc (.cells #[.int .i64 ol, .int .i64 oh] 25)) := A
    clear A HS
    go_upto_region 4 with fail
    generalize hjp : w1.alloc (.cells #[.int .i64 ol, .int .i64 oh] 25) = v1 at *
    obtain ⟨jp, hjp2⟩ : ∃ jp, w1.heap.size = jp := ⟨_, rfl⟩
    rw [hjp2] at P
    rw [hjp2]
    clear hjp
    obtain ⟨p0, p1, p2, p3, p4⟩ := id P
    go_wp2_with fail
    refine (CF _ B).mono ?_
    rintro e w2 ⟨rfl, hb⟩
    clear p0 p1 p2 p3 p4 CF
    replace P := P.below hb
    replace B := B.trans (hb.mono B.size)
    clear hb
    have hcase : (srcB f m = false ∧ fuC ol oh kn f m ff le = 1) ∨ (srcB f m = true ∧ ((ff < 0 ∧ fuC ol oh kn f m ff le = 1) ∨ (0 ≤ ff ∧ ((le < 1 ∧ fuC ol oh kn f m ff le = 1) ∨ (1 ≤ le ∧ ((kn = true ∧ okI ol oh = false ∧ fuC ol oh kn f m ff le = 1) ∨ ((kn = false ∨ (kn = true ∧ okI ol oh = true)) ∧ (((m : Int) < le ∧ fuC ol oh kn f m ff le = 2) ∨ (le ≤ (m : Int) ∧ (((m : Int) ≤ ff ∧ fuC ol oh kn f m ff le = 2) ∨ (ff < (m : Int) ∧ ((hlB (rnL f m ((m : Int) - ff)) = false ∧ fuC ol oh kn f m ff le = 3) ∨ (hlB (rnL f m ((m : Int) - ff)) = true ∧ ((kn = false ∧ fuC ol oh kn f m ff le = 0 ∧ fuL ol oh kn f m ff le = hlL (rnL f m ((m : Int) - ff)) ∧ fuH ol oh kn f m ff le = hlH (rnL f m ((m : Int) - ff))) ∨ (kn = true ∧ ((meetB (hlL (rnL f m ((m : Int) - ff))) (hlH (rnL f m ((m : Int) - ff))) ol oh = false ∧ fuC ol oh kn f m ff le = 4) ∨ (meetB (hlL (rnL f m ((m : Int) - ff))) (hlH (rnL f m ((m : Int) - ff))) ol oh = true ∧ fuC ol oh kn f m ff le = 0 ∧ fuL ol oh kn f m ff le = imx (hlL (rnL f m ((m : Int) - ff))) ol ∧ fuH ol oh kn f m ff le = imn (hlH (rnL f m ((m : Int) - ff))) oh ∧ ((msL f m (hlL (rnL f m ((m : Int) - ff))) (hlH (rnL f m ((m : Int) - ff)))).length : Int) ≤ ff))))))))))))))))) := by
      cases hsb : srcB f m
      · exact .inl ⟨rfl, by simp [fuC, fuBad, hsb]⟩
      refine .inr ⟨rfl, ?_⟩
      by_cases hf0 : ff < 0
      · exact .inl ⟨hf0, by simp [fuC, fuBad, hf0]⟩
      refine .inr ⟨by omega, ?_⟩
      by_cases hl0 : le < 1
      · exact .inl ⟨hl0, by simp [fuC, fuBad, hl0]⟩
      refine .inr ⟨by omega, ?_⟩
      by_cases hko : kn = true ∧ okI ol oh = false
      · exact .inl ⟨hko.1, hko.2, by simp [fuC, fuBad, hko.1, hko.2]⟩
      have hk2 : kn = false ∨ (kn = true ∧ okI ol oh = true) := by
        cases kn
        · exact .inl rfl
        · refine .inr ⟨rfl, ?_⟩
          cases hq : okI ol oh
          · exact absurd ⟨rfl, hq⟩ hko
          · rfl
      have eb : fuBad ol oh kn f m ff le = false := by
        rcases hk2 with rfl | ⟨rfl, hq⟩
        · simp [fuBad, hsb]; omega
        · simp [fuBad, hsb, hq]; omega
      refine .inr ⟨hk2, ?_⟩
      by_cases hn1 : (m : Int) < le
      · exact .inl ⟨hn1, by simp [fuC, eb, fuFew, hn1]⟩
      refine .inr ⟨by omega, ?_⟩
      by_cases hn2 : (m : Int) ≤ ff
      · exact .inl ⟨hn2, by simp [fuC, eb, fuFew, hn2]⟩
      have ew : fuFew m ff le = false := by simp [fuFew]; omega
      refine .inr ⟨by omega, ?_⟩
      cases hhb : hlB (rnL f m ((m : Int) - ff))
      · exact .inl ⟨rfl, by simp [fuC, eb, ew, hhb]⟩
      refine .inr ⟨rfl, ?_⟩
      have hml := miss_le hsb (by omega : ff < (m : Int)) hhb
      cases kn
      · have e : fuC ol oh false f m ff le = 0 := by simp [fuC, eb, ew, hhb]
        exact .inl ⟨rfl, e, by simp [fuL, e], by simp [fuH, e]⟩
      refine .inr ⟨rfl, ?_⟩
      cases hmt : meetB (hlL (rnL f m ((m : Int) - ff))) (hlH (rnL f m ((m : Int) - ff))) ol oh
      · exact .inl ⟨rfl, by rw [meetB_comm] at hmt; simp [fuC, eb, ew, hhb, hmt]⟩
      · have e : fuC ol oh true f m ff le = 0 := by rw [meetB_comm] at hmt; simp [fuC, eb, ew, hhb, hmt]
        exact .inr ⟨rfl, e, by simp [fuL, e, imx_comm], by simp [fuH, e, imn_comm], hml⟩
    generalize fuL ol oh kn f m ff le = fl at *
    generalize fuH ol oh kn f m ff le = fh at *
    generalize fuC ol oh kn f m ff le = cc at *
    generalize hlL (rnL f m ((m : Int) - ff)) = hl at *
    generalize hlH (rnL f m ((m : Int) - ff)) = hh at *
    generalize hlB (rnL f m ((m : Int) - ff)) = hb9 at *
    have CM := fun (v : World) => specMeet_any hl hh ol oh v
    have A := Below.al9 w2 (.cells #[.int .i64 fl, .int .i64 fh] 25)
    have Q := Vb.new w2 fl fh 25
    have hpj := P.1
    replace P := P.below A
    replace B := B.trans (A.mono B.size)
    clear A
    go_upto_region 5 with fail
    generalize hjq : w2.heap.size = jq at *
    generalize w2.alloc (.cells #[.int .i64 fl, .int .i64 fh] 25) = v2 at *
    clear hjq
    unfold maxLen at hLm
    go_wp2_with fail
    refine (CS _ B).mono ?_
    rintro e w3 ⟨rfl, hb⟩
    replace P := P.below hb
    replace Q := Q.below hb
    replace B := B.trans (hb.mono B.size)
    clear hb CS
    rcases hcase with ⟨hsb, rfl⟩ | ⟨hsb, hcase⟩
    · rw [hsb]
      go_wp2_with fail
      go_ret
      exact ⟨rfl, B1.trans (B.mono hB1)⟩
    rw [hsb]
    rcases hcase with ⟨hf0, rfl⟩ | ⟨hf0, hcase⟩
    · have hd1 : decide (ff < 0) = true := by simpa using hf0
      go_wp2_with fail
      go_ret
      exact ⟨rfl, B1.trans (B.mono hB1)⟩
    have hd1 : decide (ff < 0) = false := by simp; omega
    rcases hcase with ⟨hl0, rfl⟩ | ⟨hl0, hcase⟩
    · have hd2 : decide (le < 1) = true := by simpa using hl0
      go_wp2_with fail
      go_ret
      exact ⟨rfl, B1.trans (B.mono hB1)⟩
    have hd2 : decide (le < 1) = false := by simp; omega
    rcases hcase with ⟨rfl, hok, rfl⟩ | ⟨hkn, hcase⟩
    · skip
      obtain ⟨p0, p1, p2, p3, p4⟩ := id P
      go_wp2_with fail
      refine (specIvalOk_any _ _ _).mono ?_
      rintro e w4 ⟨rfl, hb⟩
      rw [hok]
      clear p0 p1 p2 p3 p4
      replace P := P.below hb
      replace Q := Q.below hb
      replace B := B.trans (hb.mono B.size)
      clear hb
      go_wp2_with fail
      go_ret
      exact ⟨rfl, B1.trans (B.mono hB1)⟩
    rcases hkn with rfl | ⟨rfl, hok⟩
    · skip
      have hcase2 := hcase
      clear hcase
      rcases hcase2 with ⟨hn1, rfl⟩ | ⟨hn1, hcase⟩
      · have hd3 : decide ((m : Int) < le) = true := by simpa using hn1
        go_wp2_with fail
        go_ret
        exact ⟨rfl, B1.trans (B.mono hB1)⟩
      have hd3 : decide ((m : Int) < le) = false := by simp; omega
      rcases hcase with ⟨hn2, rfl⟩ | ⟨hn2, hcase⟩
      · have hd4 : decide ((m : Int) ≤ ff) = true := by simpa using hn2
        go_wp2_with fail
        go_ret
        exact ⟨rfl, B1.trans (B.mono hB1)⟩
      have hd4 : decide ((m : Int) ≤ ff) = false := by simp; omega
      go_wp2_with fail
      refine (CH (by omega) _ B).mono ?_
      rintro e w5 ⟨rfl, hb⟩
      replace P := P.below hb
      replace Q := Q.below hb
      replace B := B.trans (hb.mono B.size)
      clear hb CH
      have A := Below.al9 w5 (.cells #[.int .i64 hl, .int .i64 hh] 25)
      have X := Vb.new w5 hl hh 25
      have hp5 := P.1
      have hq5 := Q.1
      replace P := P.below A
      replace Q := Q.below A
      replace B := B.trans (A.mono B.size)
      clear A
      go_upto_region 10 with fail
      generalize hjx : w5.heap.size = jx at *
      generalize w5.alloc (.cells #[.int .i64 hl, .int .i64 hh] 25) = v5 at *
      clear hjx
      rcases hcase with ⟨rfl, rfl⟩ | ⟨rfl, hcase⟩
      · skip
        go_wp2_with fail
        go_ret
        exact ⟨rfl, B1.trans (B.mono hB1)⟩
      rcases hcase with ⟨-, rfl, rfl, rfl⟩ | ⟨h9, _⟩
      · obtain ⟨q0, q1, q2, q3, q4⟩ := id Q
        obtain ⟨x0, x1, x2, x3, x4⟩ := id X
        go_wp2_with fail
        go_ret
        exact ⟨rfl, B1.trans (B.mono hB1)⟩
      · cases h9
    · skip
      obtain ⟨p0, p1, p2, p3, p4⟩ := id P
      go_wp2_with fail
      refine (specIvalOk_any _ _ _).mono ?_
      rintro e w4 ⟨rfl, hb⟩
      rw [hok]
      clear p0 p1 p2 p3 p4
      replace P := P.below hb
      replace Q := Q.below hb
      replace B := B.trans (hb.mono B.size)
      clear hb
      have hcase2 := hcase
      clear hcase
      rcases hcase2 with ⟨hn1, rfl⟩ | ⟨hn1, hcase⟩
      · have hd3 : decide ((m : Int) < le) = true := by simpa using hn1
        go_wp2_with fail
        go_ret
        exact ⟨rfl, B1.trans (B.mono hB1)⟩
      have hd3 : decide ((m : Int) < le) = false := by simp; omega
      rcases hcase with ⟨hn2, rfl⟩ | ⟨hn2, hcase⟩
      · have hd4 : decide ((m : Int) ≤ ff) = true := by simpa using hn2
        go_wp2_with fail
        go_ret
        exact ⟨rfl, B1.trans (B.mono hB1)⟩
      have hd4 : decide ((m : Int) ≤ ff) = false := by simp; omega
      go_wp2_with fail
      refine (CH (by omega) _ B).mono ?_
      rintro e w5 ⟨rfl, hb⟩
      replace P := P.below hb
      replace Q := Q.below hb
      replace B := B.trans (hb.mono B.size)
      clear hb CH
      have A := Below.al9 w5 (.cells #[.int .i64 hl, .int .i64 hh] 25)
      have X := Vb.new w5 hl hh 25
      have hp5 := P.1
      have hq5 := Q.1
      replace P := P.below A
      replace Q := Q.below A
      replace B := B.trans (A.mono B.size)
      clear A
      go_upto_region 10 with fail
      generalize hjx : w5.heap.size = jx at *
      generalize w5.alloc (.cells #[.int .i64 hl, .int .i64 hh] 25) = v5 at *
      clear hjx
      rcases hcase with ⟨rfl, rfl⟩ | ⟨rfl, hcase⟩
      · skip
        go_wp2_with fail
        go_ret
        exact ⟨rfl, B1.trans (B.mono hB1)⟩
      rcases hcase with ⟨h9, _⟩ | ⟨-, hcase⟩
      · cases h9
      rcases hcase with ⟨hmt, rfl⟩ | ⟨hmt, rfl, rfl, rfl, hml⟩
      · rw [hmt] at CM
        simp only [sel_f] at CM
        obtain ⟨p0, p1, p2, p3, p4⟩ := id P
        obtain ⟨x0, x1, x2, x3, x4⟩ := id X
        go_wp2_with fail
        refine (CM _).mono ?_
        rintro e w6 ⟨rfl, hb⟩
        clear p0 p1 p2 p3 p4 x0 x1 x2 x3 x4 P
        replace Q := Q.below hb
        replace X := X.below hb
        replace B := B.trans (hb.mono B.size)
        clear hb
        have A := Below.al9 w6 (.cells #[.int .i64 0, .int .i64 0] 25)
        have Z := Vb.new w6 0 0 25
        have hx6 := X.1
        have hq6 := Q.1
        replace Q := Q.below A
        replace X := X.below A
        replace B := B.trans (A.mono B.size)
        clear A
        go_upto_region 15 with fail
        generalize hjz : w6.heap.size = jz at *
        generalize w6.alloc (.cells #[.int .i64 0, .int .i64 0] 25) = v6 at *
        clear hjz
        go_wp2_with fail
        go_ret
        exact ⟨rfl, B1.trans (B.mono hB1)⟩
      · rw [hmt] at CM
        simp only [sel_t] at CM
        generalize imx hl ol = t1 at *
        generalize imn hh oh = t2 at *
        obtain ⟨p0, p1, p2, p3, p4⟩ := id P
        obtain ⟨x0, x1, x2, x3, x4⟩ := id X
        go_wp2_with fail
        refine (CM _).mono ?_
        rintro e w6 ⟨rfl, hb⟩
        clear p0 p1 p2 p3 p4 x0 x1 x2 x3 x4 P
        replace Q := Q.below hb
        replace X := X.below hb
        replace B := B.trans (hb.mono B.size)
        clear hb
        have A := Below.al9 w6 (.cells #[.int .i64 t1, .int .i64 t2] 25)
        have Z := Vb.new w6 t1 t2 25
        have hx6 := X.1
        have hq6 := Q.1
        replace Q := Q.below A
        replace X := X.below A
        replace B := B.trans (A.mono B.size)
        clear A
        go_upto_region 15 with fail
        generalize hjz : w6.heap.size = jz at *
        generalize w6.alloc (.cells #[.int .i64 t1, .int .i64 t2] 25) = v6 at *
        clear hjz
        obtain ⟨q0, q1, q2, q3, q4⟩ := id Q
        obtain ⟨x0, x1, x2, x3, x4⟩ := id X
        obtain ⟨z0, z1, z2, z3, z4⟩ := id Z
        go_wp2_with fail
        refine (CMi _ hl hh B).mono ?_
        rintro e w8 ⟨v8, rfl, o8, hb⟩
        obtain ⟨a8, c8, rfl, -⟩ := own_shape8 o8
        replace B := B.trans (hb.mono B.size)
        clear hb q0 q1 q2 q3 q4 x0 x1 x2 x3 x4 z0 z1 z2 z3 z4 o8
        have hd8 : decide (((msL f m hl hh).length : Int) ≤ ff) = true := by simpa using hml
        go_wp2_with fail
        go_ret
        exact ⟨rfl, B1.trans (B.mono hB1)⟩
end Go.Proofs.Ytaggohibfghnmaa
