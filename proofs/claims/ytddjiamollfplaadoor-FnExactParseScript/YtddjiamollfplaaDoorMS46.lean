/- The law of ParseScript: the walk. -/
import Derived.Test.YtddjiamollfplaaDoorMS44
import Derived.Test.YtddjiamollfplaaDoorMS45
namespace Go.Proofs.YtddjiamollfplaaDoor
open Go.RowKit
set_option linter.unusedVariables false

theorem psF_200 {L : List ByteArray} {e : Nat} : ∀ k, (psF L e k).1.length ≤ 200
 | 0 => Nat.zero_le _
 | k + 1 => by
  have q := psF_200 (L := L) (e := e) k
  have q2 := (psF_len (L := L) (e := e) k).2
  rw [psF]
  by_cases h0 : (psF L e k).2 = 0
  ·obtain ⟨q3, q4⟩ := q2 h0
   rw [if_pos h0]
   by_cases h1 : k = 200
   ·rw [if_pos h1]; exact q
   ·rw [if_neg h1]
    by_cases h2 : k < e
    ·rw [if_pos h2]
     by_cases h3 : (paS (L.getD k ⟨#[]⟩)).2 = 0
     ·rw [if_pos h3]
      show ((psF L e k).1 ++ [_]).length ≤ 200
      rw [List.length_append]
      show _ + 1 ≤ 200
      omega
     ·rw [if_neg h3]; exact q
    ·rw [if_neg h2]; exact q
  ·rw [if_neg h0]; exact q
theorem psS_n (s : ByteArray) : (psS s).1.length ≤ 200 := by
 unfold psS
 split
 ·exact Nat.zero_le _
 ·exact psF_200 _
attribute [-go_sem] loadCells storeCells in
set_option maxRecDepth 100000 in
set_option maxHeartbeats 16000000 in
theorem lawParseScript (s : ByteArray) (w : World) (E : T10 w ∧ ErC w 3 ∧ ErC w 2 ∧ OpW w) (hm : s.size ≤ maxLen) :
 Calls Tryd.prog 9 #[.string s] w fun e w' => e = .returned (.bool true) ∧ Below w.heap.size w w' := by
 have HE : Hid (T10 w ∧ ErC w 3 ∧ ErC w 2 ∧ OpW w) := E
 have CS := fun (v : World) => specScript21_any s v hm
 by_cases hl : (1048576 : Int) < s.size
 ·clear CS
  go_enter Tryd.func9, Tryd.ntmps9
  go_wp2_with fail
  go_ret
  exact ⟨rfl, Below.refl _ _⟩
 have CI := fun (v : World) (h : Below w.heap.size w v) => implScript21_any s v ⟨HE.out.1.below h, HE.out.2.1.below h, HE.out.2.2.1.below h⟩ (HE.out.2.2.2.below h) hm
 have hN := psS_n s
 generalize (psS s).1 = D at *
 generalize (psS s).2 = cd at *
 generalize gX D = XM at *
 generalize D.length = N at *
 have hNm : N ≤ maxLen := Nat.le_trans hN (by decide)
 have hcc : (cd != cd) = false := by simp
 have hnn : ((N : Int) != (N : Int)) = false := by simp
 clear hm E
 have B := Below.refl w.heap.size w
 go_enter Tryd.func9, Tryd.ntmps9
 go_wp2_with fail
 refine (CS w).mono ?_
 rintro e v1 ⟨u0, rfl, S0, hb⟩
 clear CS
 replace B := B.trans (hb.mono B.size)
 have hw1 := B.size
 clear hb
 obtain ⟨a0, c0, rfl, P0⟩ := S0.rwp
 have HN8 : Hid (∀ i, i < N → (XM i).n ≤ 8) := S0.n8
 have HP0 : Hid (RwP OdW v1 a0 N XM) := P0
 clear P0 S0
 have B2 := Below.refl v1.heap.size v1
 go_wp2_with fail
 refine (CI v1 B).mono ?_
 rintro e v2 ⟨u1, rfl, S1, hb⟩
 replace B := B.trans (hb.mono B.size)
 replace B2 := B2.trans (hb.mono B2.size)
 clear hb
 obtain ⟨a1, c1, rfl, P1⟩ := S1.rwp
 have CE := eqOpN_any a1 a0 N c1 c0 XM v2 hNm P1 (HP0.out.belowW B2)
 clear P1
 go_wp2_with fail
 refine CE.mono ?_
 rintro e v3 ⟨rfl, hb⟩
 clear CE
 replace B := B.trans (hb.mono B.size)
 replace B2 := B2.trans (hb.mono B2.size)
 replace S1 := S1.below hb
 clear hb
 obtain ⟨m, hm⟩ : ∃ m : Int, qX XM N = m := ⟨_, rfl⟩
 have hq := (qX_le N HN8.out).1
 rw [hm] at hq
 have HMM : Hid (qX XM N = m) := hm
 have hm0 : ¬ m < 0 := by omega
 have hmm : (m != m) = false := by simp
 clear hm hq
 have CM := markOpS_any v1.heap.size N a1 c1 XM v3 (by omega) B2.size S1
 rw [HMM.out] at CM
 go_wp2_with fail
 refine CM.mono ?_
 rintro e v4 ⟨rfl, M1, hb⟩
 clear CM S1
 replace B := B.trans (hb.mono hw1)
 replace B2 := B2.trans hb
 clear hb
 have CH := heldOpS_any a1 N c1 XM v4 (by omega) HN8.out M1
 rw [HMM.out] at CH
 go_wp2_with fail
 refine CH.mono ?_
 rintro e v5 ⟨rfl, hb⟩
 clear CH
 replace B := B.trans (hb.mono B.size)
 replace B2 := B2.trans (hb.mono B2.size)
 replace M1 := M1.below hb
 clear hb

 go_wp2_with fail
 refine (CI v5 B).mono ?_
 rintro e v6 ⟨u2, rfl, S2, hb⟩
 clear CI
 replace B := B.trans (hb.mono B.size)
 replace B2 := B2.trans (hb.mono B2.size)
 replace M1 := M1.below hb
 clear hb
 obtain ⟨a2, c2, rfl, P2⟩ := S2.rwp
 have CE := eqOpN_any a2 a0 N c2 c0 XM v6 hNm P2 (HP0.out.belowW B2)
 clear P2 S2
 go_wp2_with fail
 refine CE.mono ?_
 rintro e v7 ⟨rfl, hb⟩
 clear CE
 replace B := B.trans (hb.mono B.size)
 replace B2 := B2.trans (hb.mono B2.size)
 replace M1 := M1.below hb
 clear hb
 have CH := heldOpS_any a1 N c1 XM v7 (by omega) HN8.out M1
 rw [HMM.out] at CH
 go_wp2_with fail
 refine CH.mono ?_
 rintro e v8 ⟨rfl, hb⟩
 clear CH
 replace B := B.trans (hb.mono B.size)
 replace B2 := B2.trans (hb.mono B2.size)
 replace M1 := M1.below hb
 clear hb

 go_wp2_with fail
 go_ret
 exact ⟨rfl, B⟩

end Go.Proofs.YtddjiamollfplaaDoor
