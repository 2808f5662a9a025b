/- ParseScript (the specification). -/
import Derived.Test.YtddjiamollfplaaDoorMS42
namespace Go.Proofs.YtddjiamollfplaaDoor
open Go.RowKit
set_option linter.unusedVariables false

theorem paS_ok (s : ByteArray) : (paS s).1.n ≤ 8 ∧ (paS s).1.tx.size ≤ 64 := by
 unfold paS paW
 (repeat' split) <;> first | exact ⟨Nat.zero_le _, Nat.zero_le _⟩ | (rename_i h; exact ⟨(ol_facts h).1, (ol_facts h).2.1⟩)
theorem slc_size (s : ByteArray) (j m : Nat) (h : m ≤ s.size) : (s.extract j m).size ≤ s.size := by
 rw [ByteArray.size_extract]; omega
attribute [-go_sem] loadCells storeCells in
set_option maxRecDepth 100000 in
set_option maxHeartbeats 16000000 in
theorem specScript21_long (s : ByteArray) (w : World) (hm : s.size ≤ maxLen) (hs : 20000 < s.size) :
 Calls Tryd.prog 35 #[.string s] w fun e w' => ∃ v, e = .returned (.tuple #[v, .int .i64 ((psS s).1.length : Int), .int .i64 (psS s).2]) ∧ OpsR false w' w.heap.size v (psS s).1.length (gX (psS s).1) ∧ Below w.heap.size w w' := by
 unfold maxLen at hm
 have HR : Hid (psS s = ([], 1)) := psS_long hs
 have hd : (20000 : Int) < (s.size : Int) := by omega
 have B := Below.nw w (.cells #[] 39)
 have O := OpsR.made false w (gX [])
 go_enter Tryd.func35, Tryd.ntmps35
 go_wp2_with fail
 exact bodyPost_ret (v := .tuple #[.slice (some ⟨w.heap.size, 0, none⟩) 0 0, .int .i64 0, .int .i64 1]) (by simp [results, Tryd.results35, go_sem]) rfl ⟨_, by rw [HR.out]; rfl, by rw [HR.out]; exact O, B⟩
attribute [-go_sem] loadCells storeCells in
set_option maxRecDepth 100000 in
set_option maxHeartbeats 16000000 in
theorem specScript21_few (s : ByteArray) (w : World) (hs : s.size ≤ 20000) :
 Calls Tryd.prog 35 #[.string s] w fun e w' => ∃ v, e = .returned (.tuple #[v, .int .i64 ((psS s).1.length : Int), .int .i64 (psS s).2]) ∧ OpsR false w' w.heap.size v (psS s).1.length (gX (psS s).1) ∧ Below w.heap.size w w' := by
 have HPS : Hid (psS s = psF (linL s) (cutF s 10 s.size).2.length (linL s).length) := psS_few (by omega)
 have hd : ¬ (20000 : Int) < (s.size : Int) := by omega
 have B := Below.nw w (.cells #[] 39)
 have OR := OpsR.made false w (gX [])
 go_enter Tryd.func35, Tryd.ntmps35
 go_wp2_with fail
 go_loopw [5, 6] (fun out fr wr => ∃ (j : Nat) (D : List OpD), j ≤ s.size ∧ fr = .int .i64 (j : Int) ∧ (cutF s 10 j).1 = j ∧ psF (linL s) (cutF s 10 s.size).2.length (cutF s 10 j).2.length = (D, 0) ∧ D.length = (cutF s 10 j).2.length ∧ D.length ≤ 200 ∧ OpsR false wr w.heap.size out D.length (gX D) ∧ Below w.heap.size w wr) (fun _ fr _ => s.size - (intOf fr).toNat)
 case atStart => exact ⟨0, [], Nat.zero_le _, rfl, rfl, rfl, rfl, Nat.zero_le _, OR, B⟩
 case round =>
  clear OR B hd
  obtain ⟨j, D, hj, rfl, hf, hpd, hdl, hd2, OR, B⟩ := hrel
  have HF : Hid ((cutF s 10 j).1 = j) := hf
  have HPD : Hid (psF (linL s) (cutF s 10 s.size).2.length (cutF s 10 j).2.length = (D, 0)) := hpd
  have HDL : Hid (D.length = (cutF s 10 j).2.length) := hdl
  clear hf hpd hdl
  have hlo : w.heap.size ≤ wr.heap.size := B.size
  obtain ⟨a, cp, rfl, _⟩ := OR.rwp
  by_cases hlt : j < s.size
  ·have hli : (j : Int) < (s.size : Int) := by omega
   by_cases h200 : D.length = 200
   ·have hq : ((D.length : Int) == 200) = true := by simp [h200]
    have HR : Hid (psS s = (D, 1)) := by
     show psS s = _
     rw [HPS.out]
     exact psF_end (psF_long HPD.out (by rw [← HDL.out]; exact h200)) (by decide) (line_more _ j rfl HF.out hlt)
    clear h200
    go_wp2_with fail
    exact bodyPost_ret (v := .tuple #[.slice a D.length cp, .int .i64 (D.length : Int), .int .i64 1]) (by simp [results, Tryd.results35, go_sem]) rfl ⟨_, by rw [HR.out], by rw [HR.out]; exact OR, B⟩
   ·have hq : ((D.length : Int) == 200) = false := by simp; omega
    go_wp2_with fail
    go_loopw [7] (fun tv wi => ∃ m : Nat, j ≤ m ∧ m ≤ s.size ∧ tv = .int .i64 (m : Int) ∧ (∀ i, j ≤ i → i < m → bt s i ≠ 10) ∧ wr = wi) (fun tv _ => s.size - (intOf tv).toNat)
    case atStart => exact ⟨j, Nat.le_refl _, hj, rfl, fun i h1 h2 => absurd h1 (by omega), by first | rfl | trivial⟩
    case round =>
     obtain ⟨m, h1, h2, rfl, hn, rfl⟩ := hrel
     by_cases hm : m < s.size
     ·by_cases hb : bt s m = 10
      ·have hix := run_idx s m hm wr
       rw [hb] at hix
       obtain ⟨e1, e2, e3, e4⟩ := line_at HF.out h1 hm hn hb
       have HE : Hid (cutF s 10 (m + 1) = (m + 1, (cutF s 10 j).2 ++ [s.extract j m]) ∧ (cutF s 10 j).2.length < (cutF s 10 s.size).2.length ∧ (linL s).getD (cutF s 10 j).2.length ⟨#[]⟩ = s.extract j m ∧ (cutF s 10 j).2.length + 1 ≤ (linL s).length) := ⟨e1, e2, e3, e4⟩
       clear e1 e2 e3 e4 hn hb
       have hmi : (m : Int) < (s.size : Int) := by omega
       have hme : ((m : Int) == (s.size : Int)) = false := by simp; omega
       have hjm : (j : Int) ≤ (m : Int) := by omega
       have hms : (m : Int) ≤ (s.size : Int) := by omega
       have CX := specParse_any (s.extract j m) wr (Nat.le_trans (slc_size s j m (by omega)) (Nat.le_trans hs (by decide)))
       have hok := paS_ok (s.extract j m)
       have HB : Hid (paS (s.extract j m) = ((paS (s.extract j m)).1, (paS (s.extract j m)).2)) := rfl
       generalize hXX : (paS (s.extract j m)).1 = X at *
       generalize hcd : (paS (s.extract j m)).2 = cd at *
       have HXC : Hid ((paS (s.extract j m)).1 = X ∧ (paS (s.extract j m)).2 = cd) := ⟨hXX, hcd⟩
       clear HB hXX hcd
       generalize hll : s.extract j m = l at CX HE HXC ⊢
       have HLL : Hid (s.extract j m = l) := hll
       change Calls Tryd.prog 26 #[.string l] wr (fun e w' => ∃ p c, e = .returned (.tuple #[.agg #[.int .i64 X.k, .int .i64 X.nd, .int .i64 X.tt, .int .i64 X.a, .int .i64 X.b, .string X.tx, .slice p X.n c], .int .i64 cd]) ∧ LsA w' wr.heap.size p X.n c X.f ∧ Below wr.heap.size wr w') at CX
       go_wp2_with (rw [hix])
       (try rw [hll])
       clear hix hll
       (try go_wp2_with fail)
       refine CX.mono ?_
       rintro e v1 ⟨p, c, rfl, LA, hb1⟩
       clear CX
       have Q := Bo.new v1 #[.int .i64 0, .int .i64 0, .int .i64 0, .int .i64 0, .int .i64 0, .string ⟨#[]⟩, .slice none 0 0] 39
       have hst : (storeCells ⟨v1.heap.size, 0, none⟩ [.int .i64 X.k, .int .i64 X.nd, .int .i64 X.tt, .int .i64 X.a, .int .i64 X.b, .string X.tx, .slice p X.n c] 0).run Tryd.prog (v1.alloc (.cells #[.int .i64 0, .int .i64 0, .int .i64 0, .int .i64 0, .int .i64 0, .string ⟨#[]⟩, .slice none 0 0] 39)) = .ok () (putA (v1.alloc (.cells #[.int .i64 0, .int .i64 0, .int .i64 0, .int .i64 0, .int .i64 0, .string ⟨#[]⟩, .slice none 0 0] 39)) v1.heap.size 0 [.int .i64 X.k, .int .i64 X.nd, .int .i64 X.tt, .int .i64 X.a, .int .i64 X.b, .string X.tx, .slice p X.n c]) := Bo.store (P := Tryd.prog) (b := 0) [.int .i64 X.k, .int .i64 X.nd, .int .i64 X.tt, .int .i64 X.a, .int .i64 X.b, .string X.tx, .slice p X.n c] 0 0 Q rfl (by simp) (by intro u hu; simp only [List.mem_cons, List.not_mem_nil, or_false] at hu; rcases hu with h | h | h | h | h | h | h <;> (subst h; rfl))
       replace Q : Bo (putA (v1.alloc (.cells #[.int .i64 0, .int .i64 0, .int .i64 0, .int .i64 0, .int .i64 0, .string ⟨#[]⟩, .slice none 0 0] 39)) v1.heap.size 0 [.int .i64 X.k, .int .i64 X.nd, .int .i64 X.tt, .int .i64 X.a, .int .i64 X.b, .string X.tx, .slice p X.n c]) v1.heap.size #[.int .i64 X.k, .int .i64 X.nd, .int .i64 X.tt, .int .i64 X.a, .int .i64 X.b, .string X.tx, .slice p X.n c] := Q.putW (U := #[.int .i64 X.k, .int .i64 X.nd, .int .i64 X.tt, .int .i64 X.a, .int .i64 X.b, .string X.tx, .slice p X.n c]) rfl
       have hb2 := putA_below (k := v1.heap.size) [.int .i64 X.k, .int .i64 X.nd, .int .i64 X.tt, .int .i64 X.a, .int .i64 X.b, .string X.tx, .slice p X.n c] v1 _ 0 (Below.nw v1 (.cells #[.int .i64 0, .int .i64 0, .int .i64 0, .int .i64 0, .int .i64 0, .string ⟨#[]⟩, .slice none 0 0] 39)) (Nat.le_refl _)

       have HBW : Hid (Below wr.heap.size wr (putA (v1.alloc (.cells #[.int .i64 0, .int .i64 0, .int .i64 0, .int .i64 0, .int .i64 0, .string ⟨#[]⟩, .slice none 0 0] 39)) v1.heap.size 0 [.int .i64 X.k, .int .i64 X.nd, .int .i64 X.tt, .int .i64 X.a, .int .i64 X.b, .string X.tx, .slice p X.n c])) := hb1.trans (hb2.mono hb1.size)
       have LA2 := LA.below hb2
       clear LA
       by_cases hc0 : cd = 0
       ·have hcc : (cd != 0) = false := by simp [hc0]
        have HP2 : Hid (psF (linL s) (cutF s 10 s.size).2.length (cutF s 10 (m + 1)).2.length = (D ++ [X], 0)) := by
         show psF (linL s) (cutF s 10 s.size).2.length (cutF s 10 (m + 1)).2.length = _
         rw [HE.out.1]
         show psF (linL s) (cutF s 10 s.size).2.length ((cutF s 10 j).2 ++ [_]).length = _
         rw [List.length_append]
         have q := psF_op HPD.out (by have := HDL.out; omega) HE.out.2.1 HE.out.2.2.1 (by rw [HXC.out.2]; exact hc0)
         rw [HXC.out.1] at q
         exact q
        have HL2 : Hid ((cutF s 10 (m + 1)).1 = m + 1 ∧ (D ++ [X]).length = (cutF s 10 (m + 1)).2.length ∧ (D ++ [X]).length ≤ 200) := by
         show (cutF s 10 (m + 1)).1 = m + 1 ∧ (D ++ [X]).length = (cutF s 10 (m + 1)).2.length ∧ (D ++ [X]).length ≤ 200
         rw [HE.out.1, List.length_append]
         refine ⟨rfl, ?_, by show D.length + 1 ≤ 200; omega⟩
         show D.length + 1 = ((cutF s 10 j).2 ++ [_]).length
         rw [List.length_append, ← HDL.out]
         rfl
        have HMS : Hid (m + 1 ≤ s.size ∧ j < m + 1) := ⟨hm, by omega⟩
        clear HE HXC HPD HDL HF HLL hc0 hme hmi hjm hms
        go_upto_region 16 with (rw [hst])
        clear hst hb2
        generalize putA (v1.alloc (.cells #[.int .i64 0, .int .i64 0, .int .i64 0, .int .i64 0, .int .i64 0, .string ⟨#[]⟩, .slice none 0 0] 39)) v1.heap.size 0 [.int .i64 X.k, .int .i64 X.nd, .int .i64 X.tt, .int .i64 X.a, .int .i64 X.b, .string X.tx, .slice p X.n c] = v2 at *
        generalize v1.heap.size = k8 at *
        have hL := Q.load (P := Tryd.prog) (n := 7) rfl
        have HO := OR
        go_wp2_with (first | rw [hL] | (at_builtin; refine add_op rfl _ _ rfl w.heap.size (gX D) D.length _ rfl _ X p c rfl HO HBW.out (Nat.le_trans hok.2 (by decide)) hok.1 LA2.lsr rfl (by omega) hlo ?_; intro v8 w8 O8 hb8))
        have B8 := (B.trans (HBW.out.mono hlo)).trans hb8
        have O9 : OpsR false w8 w.heap.size v8 (D ++ [X]).length (gX (D ++ [X])) := by
         rw [← gX_app, List.length_append]
         exact O8
        clear O8 hb8 HO hL Q LA2 HBW OR B
        go_wp2_with fail
        go_roundw
        case rel => exact ⟨m + 1, D ++ [X], HMS.out.1, by go_num, HL2.out.1, HP2.out, HL2.out.2.1, HL2.out.2.2, O9, B8⟩
        case measure => have := HMS.out; simp [intOf]; omega
       ·have hcc : (cd != 0) = true := by simp [hc0]
        have HR : Hid (psS s = (D, cd)) := by
         show psS s = _
         rw [HPS.out]
         have q := psF_bad HPD.out (by have := HDL.out; omega) HE.out.2.1 HE.out.2.2.1 (by rw [HXC.out.2]; exact hc0)
         rw [HXC.out.2] at q
         exact psF_end q hc0 HE.out.2.2.2
        have O9 := OR.below HBW.out
        have B9 := B.trans (HBW.out.mono hlo)
        clear HE HXC HPD HDL HF HLL hc0 hme hmi hjm hms Q LA2 HBW OR B
        go_wp2_with (rw [hst])
        clear hst hb2
        generalize putA (v1.alloc (.cells #[.int .i64 0, .int .i64 0, .int .i64 0, .int .i64 0, .int .i64 0, .string ⟨#[]⟩, .slice none 0 0] 39)) v1.heap.size 0 [.int .i64 X.k, .int .i64 X.nd, .int .i64 X.tt, .int .i64 X.a, .int .i64 X.b, .string X.tx, .slice p X.n c] = v2 at *
        (try go_simp)
        (try go_wp2_with fail)
        exact bodyPost_ret (v := .tuple #[.slice a D.length cp, .int .i64 (D.length : Int), .int .i64 cd]) (by simp [results, Tryd.results35, go_sem]) rfl ⟨_, by rw [HR.out], by rw [HR.out]; exact O9, B9⟩
      ·have hix := run_idx s m hm wr
       have hmi : (m : Int) < (s.size : Int) := by omega
       have hbq : (bt s m != 10) = true := by simp [hb]
       have HN : Hid (∀ i, j ≤ i → i < m + 1 → bt s i ≠ 10) := fun i i1 i2 => by
        by_cases e : i = m
        ·subst e; exact hb
        ·exact hn i i1 (by omega)
       clear hn hb
       generalize bt s m = bm at *
       go_wp2_with (rw [hix])
       go_roundw
       case rel => exact ⟨m + 1, by omega, hm, by go_num, HN.out, by first | rfl | trivial⟩
       case measure => simp [intOf]; omega
     ·have hms : m = s.size := by omega
      subst hms
      have hmi : ¬ (s.size : Int) < (s.size : Int) := by omega
      have hme : ((s.size : Int) == (s.size : Int)) = true := by simp
      have HR : Hid (psS s = (D, 7)) := by
       show psS s = _
       rw [HPS.out]
       have q := line_end HF.out hlt hn
       exact psF_end (psF_cut HPD.out (by have := HDL.out; omega) (by rw [q.1]; omega)) (by decide) (by rw [q.2]; exact Nat.le_refl _)
      clear hn
      go_wp2_with fail
      exact bodyPost_ret (v := .tuple #[.slice a D.length cp, .int .i64 (D.length : Int), .int .i64 7]) (by simp [results, Tryd.results35, go_sem]) rfl ⟨_, by rw [HR.out], by rw [HR.out]; exact OR, B⟩
  ·have hjs : j = s.size := by omega
   subst hjs
   have hli : ¬ (s.size : Int) < (s.size : Int) := by omega
   have HR : Hid (psS s = (D, 0)) := by
    show psS s = _
    rw [HPS.out, line_none HF.out]
    exact HPD.out
   go_wp2_with fail
   exact bodyPost_ret (v := .tuple #[.slice a D.length cp, .int .i64 (D.length : Int), .int .i64 0]) (by simp [results, Tryd.results35, go_sem]) rfl ⟨_, by rw [HR.out], by rw [HR.out]; exact OR, B⟩
theorem specScript21_any (s : ByteArray) (w : World) (hm : s.size ≤ maxLen) :
 Calls Tryd.prog 35 #[.string s] w fun e w' => ∃ v, e = .returned (.tuple #[v, .int .i64 ((psS s).1.length : Int), .int .i64 (psS s).2]) ∧ OpsR false w' w.heap.size v (psS s).1.length (gX (psS s).1) ∧ Below w.heap.size w w' := by
 by_cases h : s.size ≤ 20000
 ·exact specScript21_few s w h
 ·exact specScript21_long s w hm (by omega)

end Go.Proofs.YtddjiamollfplaaDoor
