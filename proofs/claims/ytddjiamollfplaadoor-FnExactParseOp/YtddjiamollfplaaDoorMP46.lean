/- The law of ParseOp: the walk. -/
import Derived.Test.YtddjiamollfplaaDoorMP35
import Derived.Test.YtddjiamollfplaaDoorMP45
namespace Go.Proofs.YtddjiamollfplaaDoor
open Go.RowKit
set_option linter.unusedVariables false

theorem paS_n8 (s : ByteArray) : (paS s).1.n ≤ 8 := by
 unfold paS paW
 (repeat' split) <;> first | exact Nat.zero_le _ | (rename_i h; exact (ol_facts h).1)
attribute [-go_sem] loadCells storeCells in
set_option maxRecDepth 100000 in
set_option maxHeartbeats 16000000 in
theorem lawParseOp (s : ByteArray) (w : World) (E : T10 w ∧ ErC w 3 ∧ ErC w 2 ∧ OpW w) (hm : s.size ≤ maxLen) :
 Calls Tryd.prog 7 #[.string s] w fun e w' => e = .returned (.bool true) ∧ Below w.heap.size w w' := by
 have HE : Hid (T10 w ∧ ErC w 3 ∧ ErC w 2 ∧ OpW w) := E
 have CS := fun (v : World) => specParse_any s v hm
 by_cases hl : (1048576 : Int) < s.size
 ·clear CS
  go_enter Tryd.func7, Tryd.ntmps7
  go_wp2_with fail
  go_ret
  exact ⟨rfl, Below.refl _ _⟩
 have CI := fun (v : World) (h : Below w.heap.size w v) => implParse_any s v ⟨HE.out.1.below h, HE.out.2.1.below h, HE.out.2.2.1.below h⟩ (HE.out.2.2.2.below h) hm
 have hn8 := paS_n8 s
 generalize (paS s).1 = X at *
 generalize (paS s).2 = cd at *
 have hcc : (cd != cd) = false := by simp
 have HN : Hid (X.n ≤ 8) := hn8
 clear hn8 hm E
 have B := Below.refl w.heap.size w
 go_enter Tryd.func7, Tryd.ntmps7
 go_wp2_with fail
 refine (CS w).mono ?_
 rintro e v1 ⟨p0, c0, rfl, S0, hb⟩
 clear CS
 replace B := B.trans (hb.mono B.size)
 clear hb
 generalize hA0 : opV X p0 c0 = A0 at *
 have HA0 : Hid (A0 = opV X p0 c0) := hA0.symm
 have hs0 : A0.size = 7 := by (rw [← hA0]; rfl)
 have ho0 := opV_one X p0 c0
 rw [hA0] at ho0
 have O0 := Bo.new v1 #[.int .i64 0, .int .i64 0, .int .i64 0, .int .i64 0, .int .i64 0, .string ⟨#[]⟩, .slice none 0 0] 39
 have hst : (storeCells ⟨v1.heap.size, 0, none⟩ A0.toList 0).run Tryd.prog (v1.alloc (.cells #[.int .i64 0, .int .i64 0, .int .i64 0, .int .i64 0, .int .i64 0, .string ⟨#[]⟩, .slice none 0 0] 39)) = .ok () (putA (v1.alloc (.cells #[.int .i64 0, .int .i64 0, .int .i64 0, .int .i64 0, .int .i64 0, .string ⟨#[]⟩, .slice none 0 0] 39)) v1.heap.size 0 A0.toList) := Bo.store (P := Tryd.prog) (b := 0) A0.toList 0 0 O0 rfl (by simp [hs0]) ho0
 replace O0 := O0.putW (U := A0) (by rw [hs0]; rfl)
 have hb := putA_below (k := v1.heap.size) A0.toList v1 _ 0 (Below.nw v1 (.cells #[.int .i64 0, .int .i64 0, .int .i64 0, .int .i64 0, .int .i64 0, .string ⟨#[]⟩, .slice none 0 0] 39)) (Nat.le_refl _)
 clear hA0 ho0

 replace B := B.trans (hb.mono B.size)
 replace S0 := S0.below hb
 clear hb
 go_upto_region 4 with (rw [hst])
 clear hst
 generalize putA (v1.alloc (.cells #[.int .i64 0, .int .i64 0, .int .i64 0, .int .i64 0, .int .i64 0, .string ⟨#[]⟩, .slice none 0 0] 39)) v1.heap.size 0 A0.toList = v2 at *
 generalize v1.heap.size = k0 at *
 have hw2 := B.size
 have HS0 : Hid (LsA v2 w.heap.size p0 X.n c0 X.f ∧ Bo v2 k0 A0) := ⟨S0, O0⟩
 clear S0 O0
 have B2 := Below.refl v2.heap.size v2
 go_wp2_with fail
 refine (CI v2 B).mono ?_
 rintro e v3 ⟨p1, c1, rfl, S1, hb⟩
 replace B := B.trans (hb.mono B.size)
 replace B2 := B2.trans (hb.mono B2.size)
 clear hb
 generalize hA1 : opV X p1 c1 = A1 at *
 have HA1 : Hid (A1 = opV X p1 c1) := hA1.symm
 have hs1 : A1.size = 7 := by (rw [← hA1]; rfl)
 have ho1 := opV_one X p1 c1
 rw [hA1] at ho1
 have O1 := Bo.new v3 #[.int .i64 0, .int .i64 0, .int .i64 0, .int .i64 0, .int .i64 0, .string ⟨#[]⟩, .slice none 0 0] 39
 have hst : (storeCells ⟨v3.heap.size, 0, none⟩ A1.toList 0).run Tryd.prog (v3.alloc (.cells #[.int .i64 0, .int .i64 0, .int .i64 0, .int .i64 0, .int .i64 0, .string ⟨#[]⟩, .slice none 0 0] 39)) = .ok () (putA (v3.alloc (.cells #[.int .i64 0, .int .i64 0, .int .i64 0, .int .i64 0, .int .i64 0, .string ⟨#[]⟩, .slice none 0 0] 39)) v3.heap.size 0 A1.toList) := Bo.store (P := Tryd.prog) (b := 0) A1.toList 0 0 O1 rfl (by simp [hs1]) ho1
 replace O1 := O1.putW (U := A1) (by rw [hs1]; rfl)
 have hb := putA_below (k := v3.heap.size) A1.toList v3 _ 0 (Below.nw v3 (.cells #[.int .i64 0, .int .i64 0, .int .i64 0, .int .i64 0, .int .i64 0, .string ⟨#[]⟩, .slice none 0 0] 39)) (Nat.le_refl _)
 clear hA1 ho1

 have HG1 : Hid (∀ g, p1 = some ⟨g, 0, none⟩ → v2.heap.size ≤ g ∧ g ≠ v3.heap.size) := fun g e => ⟨(S1.bases g e).1, Nat.ne_of_lt (S1.bases g e).2⟩
 replace B := B.trans (hb.mono B.size)
 replace S1 := S1.below hb
 replace B2 := B2.trans (hb.mono B2.size)
 clear hb
 go_upto_region 5 with (rw [hst])
 clear hst
 generalize putA (v3.alloc (.cells #[.int .i64 0, .int .i64 0, .int .i64 0, .int .i64 0, .int .i64 0, .string ⟨#[]⟩, .slice none 0 0] 39)) v3.heap.size 0 A1.toList = v4 at *
 generalize v3.heap.size = k1 at *
 have hL1 := O1.load (P := Tryd.prog) hs1
 have hL0 := (HS0.out.2.below B2).load (P := Tryd.prog) hs0
 have CE : Calls Tryd.prog 25 #[.agg A1, .agg A0] v4 fun e w' => e = .returned (.bool true) ∧ Below v4.heap.size v4 w' := by
  rw [HA1.out, HA0.out]
  exact eqOp_same X.k X.nd X.tt X.a X.b X.tx p1 p0 X.n c1 c0 X.f v4 (Nat.le_trans HN.out (by decide)) S1.lsa.ls.src (HS0.out.1.below B2).ls.src
 go_wp2_with (first | rw [hL1] | rw [hL0])
 (try go_simp)
 (try go_wp2_with fail)
 refine CE.mono ?_
 rintro e v5 ⟨rfl, hb⟩
 clear CE hL1 hL0
 replace B := B.trans (hb.mono B.size)
 replace S1 := S1.below hb
 replace B2 := B2.trans (hb.mono B2.size)
 replace O1 := O1.below hb
 clear hb
 have hL1 := O1.load (P := Tryd.prog) hs1
 have CM : Calls Tryd.prog 28 #[.agg A1, .int .i64 1] v5 fun e w' => e = .returned (.int .i64 (1 + (X.n : Int))) ∧ RwA w' v2.heap.size p1 X.n c1 (mkN 1) ∧ MkW p1 v5 w' := by
  rw [HA1.out]
  exact markOp_any X p1 c1 v2.heap.size 1 v5 (Nat.le_trans HN.out (by decide)) (by decide) (by decide) S1
 have hq0 : ¬ (1 : Int) + (X.n : Int) < 0 := by omega
 obtain ⟨m, hmm⟩ : ∃ m : Int, 1 + (X.n : Int) = m := ⟨_, rfl⟩
 rw [hmm] at CM hq0
 have HMM : Hid (1 + (X.n : Int) = m) := hmm
 have hmn : (m != m) = false := by simp
 clear hmm
 go_wp2_with (rw [hL1])
 (try go_simp)
 (try go_wp2_with fail)
 refine CM.mono ?_
 rintro e v6 ⟨rfl, M1, hk⟩
 clear CM hL1 S1
 have hb := hk.2 v2.heap.size B2.size (fun g e => (HG1.out g e).1)
 replace B := B.trans (hb.mono hw2)
 replace B2 := B2.trans hb
 replace O1 := hk.1 k1 A1 O1 (fun g e => (HG1.out g e).2.symm)
 clear hb hk HG1
 have hL1 := O1.load (P := Tryd.prog) hs1
 have CH : Calls Tryd.prog 29 #[.agg A1, .int .i64 1] v6 fun e w' => e = .returned (.int .i64 m) ∧ Below v6.heap.size v6 w' := by
  rw [HA1.out, ← HMM.out]
  exact heldOp_any X p1 c1 v2.heap.size 1 v6 (Nat.le_trans HN.out (by decide)) (by decide) (by decide) M1
 go_wp2_with (rw [hL1])
 (try go_simp)
 (try go_wp2_with fail)
 refine CH.mono ?_
 rintro e v7 ⟨rfl, hb⟩
 clear CH hL1
 replace B := B.trans (hb.mono B.size)
 replace M1 := M1.below hb
 replace B2 := B2.trans (hb.mono B2.size)
 replace O1 := O1.below hb
 clear hb

 go_wp2_with fail
 refine (CI v7 B).mono ?_
 rintro e v8 ⟨p2, c2, rfl, S2, hb⟩
 clear CI
 replace B := B.trans (hb.mono B.size)
 replace M1 := M1.below hb
 replace B2 := B2.trans (hb.mono B2.size)
 replace O1 := O1.below hb
 clear hb
 generalize hA2 : opV X p2 c2 = A2 at *
 have HA2 : Hid (A2 = opV X p2 c2) := hA2.symm
 have hs2 : A2.size = 7 := by (rw [← hA2]; rfl)
 have ho2 := opV_one X p2 c2
 rw [hA2] at ho2
 have O2 := Bo.new v8 #[.int .i64 0, .int .i64 0, .int .i64 0, .int .i64 0, .int .i64 0, .string ⟨#[]⟩, .slice none 0 0] 39
 have hst : (storeCells ⟨v8.heap.size, 0, none⟩ A2.toList 0).run Tryd.prog (v8.alloc (.cells #[.int .i64 0, .int .i64 0, .int .i64 0, .int .i64 0, .int .i64 0, .string ⟨#[]⟩, .slice none 0 0] 39)) = .ok () (putA (v8.alloc (.cells #[.int .i64 0, .int .i64 0, .int .i64 0, .int .i64 0, .int .i64 0, .string ⟨#[]⟩, .slice none 0 0] 39)) v8.heap.size 0 A2.toList) := Bo.store (P := Tryd.prog) (b := 0) A2.toList 0 0 O2 rfl (by simp [hs2]) ho2
 replace O2 := O2.putW (U := A2) (by rw [hs2]; rfl)
 have hb := putA_below (k := v8.heap.size) A2.toList v8 _ 0 (Below.nw v8 (.cells #[.int .i64 0, .int .i64 0, .int .i64 0, .int .i64 0, .int .i64 0, .string ⟨#[]⟩, .slice none 0 0] 39)) (Nat.le_refl _)
 clear hA2 ho2

 replace B := B.trans (hb.mono B.size)
 replace S2 := S2.below hb
 replace M1 := M1.below hb
 replace B2 := B2.trans (hb.mono B2.size)
 replace O1 := O1.below hb
 clear hb
 go_upto_region 16 with (rw [hst])
 clear hst
 generalize putA (v8.alloc (.cells #[.int .i64 0, .int .i64 0, .int .i64 0, .int .i64 0, .int .i64 0, .string ⟨#[]⟩, .slice none 0 0] 39)) v8.heap.size 0 A2.toList = v9 at *
 generalize v8.heap.size = k2 at *
 have hL2 := O2.load (P := Tryd.prog) hs2
 have hL0 := (HS0.out.2.below B2).load (P := Tryd.prog) hs0
 have CE : Calls Tryd.prog 25 #[.agg A2, .agg A0] v9 fun e w' => e = .returned (.bool true) ∧ Below v9.heap.size v9 w' := by
  rw [HA2.out, HA0.out]
  exact eqOp_same X.k X.nd X.tt X.a X.b X.tx p2 p0 X.n c2 c0 X.f v9 (Nat.le_trans HN.out (by decide)) S2.lsa.ls.src (HS0.out.1.below B2).ls.src
 go_wp2_with (first | rw [hL2] | rw [hL0])
 (try go_simp)
 (try go_wp2_with fail)
 refine CE.mono ?_
 rintro e v6 ⟨rfl, hb⟩
 clear CE hL2 hL0 O2 S2
 replace B := B.trans (hb.mono B.size)
 replace M1 := M1.below hb
 replace B2 := B2.trans (hb.mono B2.size)
 replace O1 := O1.below hb
 clear hb
 have hL1 := O1.load (P := Tryd.prog) hs1
 have CH : Calls Tryd.prog 29 #[.agg A1, .int .i64 1] v6 fun e w' => e = .returned (.int .i64 m) ∧ Below v6.heap.size v6 w' := by
  rw [HA1.out, ← HMM.out]
  exact heldOp_any X p1 c1 v2.heap.size 1 v6 (Nat.le_trans HN.out (by decide)) (by decide) (by decide) M1
 go_wp2_with (rw [hL1])
 (try go_simp)
 (try go_wp2_with fail)
 refine CH.mono ?_
 rintro e v7 ⟨rfl, hb⟩
 clear CH hL1
 replace B := B.trans (hb.mono B.size)
 replace M1 := M1.below hb
 replace B2 := B2.trans (hb.mono B2.size)
 replace O1 := O1.below hb
 clear hb

 go_wp2_with fail
 go_ret
 exact ⟨rfl, B⟩

end Go.Proofs.YtddjiamollfplaaDoor
