/- The walk of FnWire. -/
import Derived.Test.YtbflhhifkhoapaaY5
import Derived.Test.YtbflhhifkhoapaaX7
import Derived.Test.YtbflhhifkhoapaaH6
import Derived.WalkKit
import Derived.WalkSpells
import Derived.WalkLawsBesides
import Derived.Deep.QuietTactic
import Derived.BigQuiet
namespace Go.Proofs.Ytbflhhifkhoapaa
open Go.RowKit
set_option linter.unusedVariables false
theorem fin_zero {m : Nat} {M : MT} {x : Int} (h : (fin m M x).1 ≠ 0) : fin m M x = ((fin m M x).1, zT) := by
  unfold fin at h ⊢
  split
  · rfl
  · split
    · next h1 h2 => rw [if_neg h1, if_pos h2] at h; exact absurd rfl h
    · rfl
theorem unp_zero {f : Nat → Int} {n : Nat} (h : (unp f n).1 ≠ 0) : unp f n = ((unp f n).1, zT) := by
  unfold unp at h ⊢
  by_cases h1 : n < 2
  · rw [if_pos h1]
  rw [if_neg h1] at h ⊢
  by_cases h2 : ¬ chk f (n - 1) = f (n - 1)
  · rw [if_pos h2]
  rw [if_neg h2] at h ⊢
  by_cases h3 : ¬ (1 ≤ f 0 ∧ f 0 ≤ 3)
  · rw [if_pos h3]
  rw [if_neg h3] at h ⊢
  by_cases h4 : f 0 = 3
  · rw [if_pos h4] at h ⊢
    unfold unp3 at h ⊢
    split
    · next q =>
      rw [if_pos q] at h
      split
      · rfl
      · next q2 => rw [if_neg q2] at h; exact fin_zero h
    · rfl
  rw [if_neg h4] at h ⊢
  by_cases h5 : f 0 = 2
  · rw [if_pos h5] at h ⊢
    unfold unp2 at h ⊢
    split
    · next q => rw [if_pos q] at h; exact fin_zero h
    · rfl
  · rw [if_neg h5] at h ⊢
    unfold unp1 at h ⊢
    split
    · next q => rw [if_pos q] at h; exact fin_zero h
    · rfl
set_option maxHeartbeats 1000000 in
theorem sameBytes_some (b off b' off' n c c' : Nat) (f f' : Nat → Int) (w : World) (hf : Byts w b off n f) (hg : Byts w b' off' n f') (h : ∀ i, i < n → f i = f' i) :
    Calls Try.prog 16 #[.slice (some ⟨b, off, none⟩) n c, .slice (some ⟨b', off', none⟩) n c'] w fun e w' => e = .returned (.bool true) ∧ w = w' := by
  have h1 : (convert 22 9 (.slice (some ⟨b, off, none⟩) n c)).run Try.prog w = .ok (.string (strOfNums ((List.range n).map f))) w :=
    run_convert_bytes_arg w 22 5 Try.underlying22 Try.underlying5 b off n c _ (by simp) (fun i hi => by rw [hf.2 i hi]; simp [hi]) 9 Try.underlying9
  have h2 : (convert 22 9 (.slice (some ⟨b', off', none⟩) n c')).run Try.prog w = .ok (.string (strOfNums ((List.range n).map f))) w :=
    run_convert_bytes_arg w 22 5 Try.underlying22 Try.underlying5 b' off' n c' _ (by simp) (fun i hi => by rw [hg.2 i hi]; simp [hi, h i hi]) 9 Try.underlying9
  generalize strOfNums ((List.range n).map f) = s at *
  go_enter Try.func16, Try.ntmps16
  go_wp2_with fail
  go_ret
  exact ⟨rfl, rfl⟩
set_option maxRecDepth 100000 in
set_option maxHeartbeats 8000000 in
theorem walkWire (a : Option Addr) (n c : Nat) (w : World) (hcode : CodeB w w.heap.size a n) :
    Calls Try.prog 3 #[.slice a n c] w fun e w' => e = .returned (.bool true) ∧ Below w.heap.size w w' := by
  by_cases hbig : (1048576 : Int) < (n : Int)
  · go_enter Try.func3, Try.ntmps3
    go_wp2_with (go_at_call 8; refine (big_any _ _ _ _).mono ?_; rintro e w' ⟨rfl, rfl⟩)
    go_ret
    exact ⟨rfl, Below.refl _ _⟩
  have hd : decide ((1048576 : Int) < (n : Int)) = false := by simp; omega
  have hn : n ≤ 1048576 := by omega
  have HC : Hid (CodeB w w.heap.size a n) := hcode
  clear hcode hbig
  go_enter Try.func3, Try.ntmps3
  go_wp2_with (go_at_call 8; refine (big_any _ _ _ _).mono ?_; rintro e w' ⟨rfl, rfl⟩)
  refine (DrawPack_any a n c _ hn HC.out).mono ?_
  rintro e w1 ⟨k, fr, tu, no, lo, hi, sl, s, rfl, hs, B1⟩
  have P := Box8.new w1 k fr tu no lo hi sl s 27
  have A := Below.al w1 (.cells #[.int .i64 k, .int .i64 fr, .int .i64 tu, .int .i64 no, .int .i64 lo, .int .i64 hi, .int .i64 sl, .string s] 27)
  have B2 := B1.trans (A.mono B1.size)
  clear B1 A hd
  go_wp2_with fail
  refine (implPack_any k fr tu no lo hi sl s _ (by omega)).mono ?_
  rintro e w2 ⟨v, rfl, O, hb⟩
  replace P := P.below hb
  have B3 := B2.trans (hb.mono B2.size)
  clear hb B2
  obtain ⟨a0, a1, a2, a3, a4, a5, a6, a7, a8⟩ := id P
  go_wp2_with fail
  refine (specMsgOk_any k fr tu no lo hi sl s _ (by omega)).mono ?_
  rintro e w3 ⟨rfl, hb⟩
  have B4 := B3.trans (hb.mono B3.size)
  have O3 := ownB_below O hb
  replace P := P.below hb
  clear hb a0 a1 a2 a3 a4 a5 a6 a7 a8 O B3
  cases hm : msgB k fr tu no lo hi sl s
  · clear O3 P
    go_wp2_with fail
    have HS0 := (HC.out.below B4).more B4.size
    refine (DrawUnpack_any a n c _ hn HS0).mono ?_
    clear HS0
    rintro e v1 ⟨a', m, c', f, rfl, h1, h2, h3, h4, h5, hb⟩
    have D1 := B4.trans (hb.mono B4.size)
    clear hb B4
    have HS : Hid (SrcB v1 a' m f) := h4
    have CU := implUnpack_any a' m c' f v1 (by omega) h1 h2 h4 h5
    have CS := fun (v : World) (h : SrcB v a' m f) => specUnpack_any a' m c' f v (by omega) h1 h2 h h5
    clear h4
    by_cases hu : (unp f m).1 = 0
    · obtain ⟨x1, x2, x3, x4, x5, x6, x7, x8, hU⟩ : ∃ (x1 x2 x3 x4 x5 x6 x7 : Int) (x8 : ByteArray), unp f m = (0, (x1, x2, x3, x4, x5, x6, x7, x8)) := ⟨_, _, _, _, _, _, _, _, Prod.ext hu rfl⟩
      obtain ⟨hg, hseg⟩ := unp_back h5 hU
      rw [hU] at CU CS
      simp only [uv, mv] at CU CS
      have h8 := (msgB_from hg).2.2.2.2
      have hlen : (packL x1 x2 x3 x4 x5 x6 x7 x8).length = m := by rw [← hseg, seg_len]
      have HCO : Hid (∀ i, i < m → (packL x1 x2 x3 x4 x5 x6 x7 x8).getD i 0 = f i) := fun i hi => by rw [← hseg]; simp [seg, hi]
      have CP := fun (v : World) => implPack_any x1 x2 x3 x4 x5 x6 x7 x8 v (by omega)
      rw [hg, packR_ok hg] at CP
      have hne : packL x1 x2 x3 x4 x5 x6 x7 x8 ≠ [] := by intro e; have := packL_two x1 x2 x3 x4 x5 x6 x7 x8; rw [e] at this; simp at this
      have hl2 := packL_two x1 x2 x3 x4 x5 x6 x7 x8
      clear hU hu h5 hseg hg
      generalize packL x1 x2 x3 x4 x5 x6 x7 x8 = L at *
      subst hlen
      obtain ⟨b, off, rfl, HBY⟩ : ∃ b off, a' = some ⟨b, off, none⟩ ∧ Byts v1 b off L.length f := by
        rcases HS.out with q | q
        · omega
        · exact q
      go_wp2_with fail
      refine CU.mono ?_
      rintro e v2 ⟨rfl, hb⟩
      have D2 := D1.trans (hb.mono D1.size)
      have HY2 := HBY.below hb HBY.1
      have A2 := Below.al v2 (.cells #[.int .i64 x1, .int .i64 x2, .int .i64 x3, .int .i64 x4, .int .i64 x5, .int .i64 x6, .int .i64 x7, .string x8] 27)
      have P := Box8.new v2 x1 x2 x3 x4 x5 x6 x7 x8 27
      have D3 := D2.trans (A2.mono D2.size)
      have HY3 := HY2.below A2 HY2.1
      have HS3 : Hid (SrcB (v2.alloc (.cells #[.int .i64 x1, .int .i64 x2, .int .i64 x3, .int .i64 x4, .int .i64 x5, .int .i64 x6, .int .i64 x7, .string x8] 27)) (some ⟨b, off, none⟩) L.length f) := .inr ⟨b, off, rfl, HY3⟩
      clear hb D1 D2 HBY HY2 A2 CU HS
      go_wp2_with fail
      refine (CS _ HS3.out).mono ?_
      rintro e v3 ⟨rfl, hb⟩
      have D4 := D3.trans (hb.mono D3.size)
      have HY4 := HY3.below hb HY3.1
      have P4 := P.below hb
      have A4 := Below.al v3 (.cells #[.int .i64 x1, .int .i64 x2, .int .i64 x3, .int .i64 x4, .int .i64 x5, .int .i64 x6, .int .i64 x7, .string x8] 27)
      have D5 := D4.trans (A4.mono D4.size)
      have HY5 := HY4.below A4 HY4.1
      clear hb D3 D4 HY3 HY4 P HS3 CS A4
      obtain ⟨a0, a1, a2, a3, a4, a5, a6, a7, a8⟩ := P4
      go_wp2_with fail
      refine (CP _).mono ?_
      rintro e v4 ⟨v, rfl, O, hb⟩
      have D6 := D5.trans (hb.mono D5.size)
      have HY6 := HY5.below hb HY5.1
      clear hb D5 HY5 CP a0 a1 a2 a3 a4 a5 a6 a7 a8
      obtain ⟨g, cp, rfl⟩ := ownB_some O hne
      obtain ⟨ag, cg, eg, hcg, hcgm, sg⟩ := ownB_src O
      simp at eg
      obtain ⟨rfl, rfl⟩ := eg
      obtain ⟨HG⟩ : Nonempty (Byts v4 g 0 L.length (fun i => L.getD i 0)) := by
        rcases sg with q | ⟨b2, off2, q1, q2⟩
        · omega
        · simp at q1
          obtain ⟨rfl, rfl⟩ := q1
          exact ⟨q2⟩
      have CB := sameBytes_some g 0 b off L.length cp c' _ _ v4 HG HY6 HCO.out
      clear O sg HG HY6
      go_wp2_with fail
      refine CB.mono ?_
      rintro e w' ⟨rfl, rfl⟩
      go_wp2_with fail
      go_ret
      exact ⟨rfl, D6⟩
    · have hU := unp_zero hu
      rw [hU] at CU CS
      generalize (unp f m).1 = q at *
      simp only [uv, mv, zT] at CU CS
      have hq1 : (q != 0) = true := by simp; exact hu
      have CM := fun (v : World) => implMsgOk_any 3 0 0 0 0 0 0 ⟨#[]⟩ v (by decide)
      rw [show msgB 3 0 0 0 0 0 0 ⟨#[]⟩ = true by decide] at CM
      clear hU h5
      go_wp2_with fail
      refine CU.mono ?_
      rintro e v2 ⟨rfl, hb⟩
      have D2 := D1.trans (hb.mono D1.size)
      have HS2 := HS.out.below hb
      have A2 := Below.al v2 (.cells #[.int .i64 0, .int .i64 0, .int .i64 0, .int .i64 0, .int .i64 0, .int .i64 0, .int .i64 0, .string ⟨#[]⟩] 27)
      have P := Box8.new v2 0 0 0 0 0 0 0 ⟨#[]⟩ 27
      have D3 := D2.trans (A2.mono D2.size)
      have HS3 : Hid (SrcB (v2.alloc (.cells #[.int .i64 0, .int .i64 0, .int .i64 0, .int .i64 0, .int .i64 0, .int .i64 0, .int .i64 0, .string ⟨#[]⟩] 27)) a' m f) := HS2.below A2
      clear hb D1 D2 HS2 A2 CU HS
      go_wp2_with fail
      refine (CS _ HS3.out).mono ?_
      rintro e v3 ⟨rfl, hb⟩
      have D4 := D3.trans (hb.mono D3.size)
      have P4 := P.below hb
      have A4 := Below.al v3 (.cells #[.int .i64 0, .int .i64 0, .int .i64 0, .int .i64 0, .int .i64 0, .int .i64 0, .int .i64 0, .string ⟨#[]⟩] 27)
      have D5 := D4.trans (A4.mono D4.size)
      clear hb D3 D4 P HS3 CS A4
      obtain ⟨a0, a1, a2, a3, a4, a5, a6, a7, a8⟩ := P4
      go_wp2_with fail
      refine (CM _).mono ?_
      rintro e v4 ⟨rfl, hb⟩
      have D6 := D5.trans (hb.mono D5.size)
      clear hb D5 CM
      go_wp2_with fail
      go_ret
      exact ⟨rfl, D6⟩
  · rw [packR_ok hm] at O3
    have hU := unp_pack hm
    have hl := packR_short k fr tu no lo hi sl s
    rw [packR_ok hm] at hl
    have HR := packL_rng k fr tu no lo hi sl s (by have := msgB_from hm; omega)
    have hne : packL k fr tu no lo hi sl s ≠ [] := by intro e; have := packL_two k fr tu no lo hi sl s; rw [e] at this; simp at this
    generalize packL k fr tu no lo hi sl s = L at *
    obtain ⟨g, cp, rfl⟩ := ownB_some O3 hne
    obtain ⟨ag, cg, eg, hcg, hcgm, sg⟩ := ownB_src O3
    simp at eg
    obtain ⟨rfl, rfl⟩ := eg
    have CU := implUnpack_any (some ⟨g, 0, none⟩) L.length cp _ w3 (by omega) hcg hcgm sg (rng_at HR)
    rw [hU] at CU
    simp only [uv, mv] at CU
    clear hU O3 sg HR
    go_wp2_with fail
    refine CU.mono ?_
    rintro e w4 ⟨rfl, hb⟩
    replace P := P.below hb
    have B5 := B4.trans (hb.mono B4.size)
    have A5 := Below.al w4 (.cells #[.int .i64 k, .int .i64 fr, .int .i64 tu, .int .i64 no, .int .i64 lo, .int .i64 hi, .int .i64 sl, .string s] 27)
    have B6 := B5.trans (A5.mono B5.size)
    clear CU hb B4 B5 A5
    obtain ⟨a0, a1, a2, a3, a4, a5, a6, a7, a8⟩ := P
    go_wp2_with fail
    clear a0 a1 a2 a3 a4 a5 a6 a7 a8
    have HS0 := (HC.out.below B6).more B6.size
    refine (DrawUnpack_any a n c _ hn HS0).mono ?_
    clear HS0
    rintro e v1 ⟨a', m, c', f, rfl, h1, h2, h3, h4, h5, hb⟩
    have D1 := B6.trans (hb.mono B6.size)
    clear hb B6
    have HS : Hid (SrcB v1 a' m f) := h4
    have CU := implUnpack_any a' m c' f v1 (by omega) h1 h2 h4 h5
    have CS := fun (v : World) (h : SrcB v a' m f) => specUnpack_any a' m c' f v (by omega) h1 h2 h h5
    clear h4
    by_cases hu : (unp f m).1 = 0
    · obtain ⟨x1, x2, x3, x4, x5, x6, x7, x8, hU⟩ : ∃ (x1 x2 x3 x4 x5 x6 x7 : Int) (x8 : ByteArray), unp f m = (0, (x1, x2, x3, x4, x5, x6, x7, x8)) := ⟨_, _, _, _, _, _, _, _, Prod.ext hu rfl⟩
      obtain ⟨hg, hseg⟩ := unp_back h5 hU
      rw [hU] at CU CS
      simp only [uv, mv] at CU CS
      have h8 := (msgB_from hg).2.2.2.2
      have hlen : (packL x1 x2 x3 x4 x5 x6 x7 x8).length = m := by rw [← hseg, seg_len]
      have HCO : Hid (∀ i, i < m → (packL x1 x2 x3 x4 x5 x6 x7 x8).getD i 0 = f i) := fun i hi => by rw [← hseg]; simp [seg, hi]
      have CP := fun (v : World) => implPack_any x1 x2 x3 x4 x5 x6 x7 x8 v (by omega)
      rw [hg, packR_ok hg] at CP
      have hne : packL x1 x2 x3 x4 x5 x6 x7 x8 ≠ [] := by intro e; have := packL_two x1 x2 x3 x4 x5 x6 x7 x8; rw [e] at this; simp at this
      have hl2 := packL_two x1 x2 x3 x4 x5 x6 x7 x8
      clear hU hu h5 hseg hg
      generalize packL x1 x2 x3 x4 x5 x6 x7 x8 = L at *
      subst hlen
      obtain ⟨b, off, rfl, HBY⟩ : ∃ b off, a' = some ⟨b, off, none⟩ ∧ Byts v1 b off L.length f := by
        rcases HS.out with q | q
        · omega
        · exact q
      go_wp2_with fail
      refine CU.mono ?_
      rintro e v2 ⟨rfl, hb⟩
      have D2 := D1.trans (hb.mono D1.size)
      have HY2 := HBY.below hb HBY.1
      have A2 := Below.al v2 (.cells #[.int .i64 x1, .int .i64 x2, .int .i64 x3, .int .i64 x4, .int .i64 x5, .int .i64 x6, .int .i64 x7, .string x8] 27)
      have P := Box8.new v2 x1 x2 x3 x4 x5 x6 x7 x8 27
      have D3 := D2.trans (A2.mono D2.size)
      have HY3 := HY2.below A2 HY2.1
      have HS3 : Hid (SrcB (v2.alloc (.cells #[.int .i64 x1, .int .i64 x2, .int .i64 x3, .int .i64 x4, .int .i64 x5, .int .i64 x6, .int .i64 x7, .string x8] 27)) (some ⟨b, off, none⟩) L.length f) := .inr ⟨b, off, rfl, HY3⟩
      clear hb D1 D2 HBY HY2 A2 CU HS
      go_wp2_with fail
      refine (CS _ HS3.out).mono ?_
      rintro e v3 ⟨rfl, hb⟩
      have D4 := D3.trans (hb.mono D3.size)
      have HY4 := HY3.below hb HY3.1
      have P4 := P.below hb
      have A4 := Below.al v3 (.cells #[.int .i64 x1, .int .i64 x2, .int .i64 x3, .int .i64 x4, .int .i64 x5, .int .i64 x6, .int .i64 x7, .string x8] 27)
      have D5 := D4.trans (A4.mono D4.size)
      have HY5 := HY4.below A4 HY4.1
      clear hb D3 D4 HY3 HY4 P HS3 CS A4
      obtain ⟨a0, a1, a2, a3, a4, a5, a6, a7, a8⟩ := P4
      go_wp2_with fail
      refine (CP _).mono ?_
      rintro e v4 ⟨v, rfl, O, hb⟩
      have D6 := D5.trans (hb.mono D5.size)
      have HY6 := HY5.below hb HY5.1
      clear hb D5 HY5 CP a0 a1 a2 a3 a4 a5 a6 a7 a8
      obtain ⟨g, cp, rfl⟩ := ownB_some O hne
      obtain ⟨ag, cg, eg, hcg, hcgm, sg⟩ := ownB_src O
      simp at eg
      obtain ⟨rfl, rfl⟩ := eg
      obtain ⟨HG⟩ : Nonempty (Byts v4 g 0 L.length (fun i => L.getD i 0)) := by
        rcases sg with q | ⟨b2, off2, q1, q2⟩
        · omega
        · simp at q1
          obtain ⟨rfl, rfl⟩ := q1
          exact ⟨q2⟩
      have CB := sameBytes_some g 0 b off L.length cp c' _ _ v4 HG HY6 HCO.out
      clear O sg HG HY6
      go_wp2_with fail
      refine CB.mono ?_
      rintro e w' ⟨rfl, rfl⟩
      go_wp2_with fail
      go_ret
      exact ⟨rfl, D6⟩
    · have hU := unp_zero hu
      rw [hU] at CU CS
      generalize (unp f m).1 = q at *
      simp only [uv, mv, zT] at CU CS
      have hq1 : (q != 0) = true := by simp; exact hu
      have CM := fun (v : World) => implMsgOk_any 3 0 0 0 0 0 0 ⟨#[]⟩ v (by decide)
      rw [show msgB 3 0 0 0 0 0 0 ⟨#[]⟩ = true by decide] at CM
      clear hU h5
      go_wp2_with fail
      refine CU.mono ?_
      rintro e v2 ⟨rfl, hb⟩
      have D2 := D1.trans (hb.mono D1.size)
      have HS2 := HS.out.below hb
      have A2 := Below.al v2 (.cells #[.int .i64 0, .int .i64 0, .int .i64 0, .int .i64 0, .int .i64 0, .int .i64 0, .int .i64 0, .string ⟨#[]⟩] 27)
      have P := Box8.new v2 0 0 0 0 0 0 0 ⟨#[]⟩ 27
      have D3 := D2.trans (A2.mono D2.size)
      have HS3 : Hid (SrcB (v2.alloc (.cells #[.int .i64 0, .int .i64 0, .int .i64 0, .int .i64 0, .int .i64 0, .int .i64 0, .int .i64 0, .string ⟨#[]⟩] 27)) a' m f) := HS2.below A2
      clear hb D1 D2 HS2 A2 CU HS
      go_wp2_with fail
      refine (CS _ HS3.out).mono ?_
      rintro e v3 ⟨rfl, hb⟩
      have D4 := D3.trans (hb.mono D3.size)
      have P4 := P.below hb
      have A4 := Below.al v3 (.cells #[.int .i64 0, .int .i64 0, .int .i64 0, .int .i64 0, .int .i64 0, .int .i64 0, .int .i64 0, .string ⟨#[]⟩] 27)
      have D5 := D4.trans (A4.mono D4.size)
      clear hb D3 D4 P HS3 CS A4
      obtain ⟨a0, a1, a2, a3, a4, a5, a6, a7, a8⟩ := P4
      go_wp2_with fail
      refine (CM _).mono ?_
      rintro e v4 ⟨rfl, hb⟩
      have D6 := D5.trans (hb.mono D5.size)
      clear hb D5 CM
      go_wp2_with fail
      go_ret
      exact ⟨rfl, D6⟩
end Go.Proofs.Ytbflhhifkhoapaa
