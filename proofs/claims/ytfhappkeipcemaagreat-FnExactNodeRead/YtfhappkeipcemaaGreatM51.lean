/- The program: AppOk, AppLag, AppRead. A node while a call works on it: what it knows, learns, is told and reads (the program). -/
import Derived.Test.YtfhappkeipcemaaGreatRows
import Derived.WalkKit
import Derived.WalkSpells
import Derived.WalkLawsBesides
import Derived.Deep.QuietTactic
import Derived.BigQuiet
import Derived.Deep.OwnRows
import Derived.Deep.RegionHeld
import Derived.Laws.BytesArg
import Derived.Deep.RegionHeld3
import Derived.Deep.DeepCutAuto
import Derived.Deep.DeepAppendRoom
import Derived.Laws.EntriesVeiled
import Derived.WalkSmall
import Derived.Laws.OwnMore
import Derived.Lib.SmallJoins
import Derived.WalkMore
import Derived.ScopeJumps
import Derived.Lib.MinMax
import Derived.Test.YtfhappkeipcemaaGreatM0
import Derived.Test.YtfhappkeipcemaaGreatM1
import Derived.Test.YtfhappkeipcemaaGreatM2
import Derived.Test.YtfhappkeipcemaaGreatM3
import Derived.Test.YtfhappkeipcemaaGreatM5
import Derived.Test.YtfhappkeipcemaaGreatM6
import Derived.Test.YtfhappkeipcemaaGreatM7
import Derived.Test.YtfhappkeipcemaaGreatM8
import Derived.Test.YtfhappkeipcemaaGreatM9
import Derived.Test.YtfhappkeipcemaaGreatM11
import Derived.Test.YtfhappkeipcemaaGreatM12
import Derived.Test.YtfhappkeipcemaaGreatM14
import Derived.Test.YtfhappkeipcemaaGreatM21
import Derived.Test.YtfhappkeipcemaaGreatM22
import Derived.Test.YtfhappkeipcemaaGreatM23
import Derived.Test.YtfhappkeipcemaaGreatM26
import Derived.Test.YtfhappkeipcemaaGreatM34
import Derived.Test.YtfhappkeipcemaaGreatM41
import Derived.Test.YtfhappkeipcemaaGreatM48
namespace Go.Proofs.YtfhappkeipcemaaGreat
open Go.RowKit
set_option linter.unusedVariables false
set_option maxRecDepth 100000 in
set_option maxHeartbeats 8000000 in
theorem implAppRead_any (h : Bool) (l : Int) (k : Bool) (lo hi : Int) (w : World) : Calls Tryz.prog 148 #[.agg #[.bool h, .int .i64 l], .bool k, .agg #[.int .i64 lo, .int .i64 hi]] w fun e w' => e = .returned (.tuple #[.agg #[.bool (arH h l k lo hi), .int .i64 (arL h l k lo hi)], .int .i64 (arX h l k lo hi), .bool (arD h l k lo hi), .int .i64 (arC h l k lo hi)]) ∧ Below w.heap.size w w' := by
  have A0 := Below.nw w (.cells #[.bool h, .int .i64 l] 63)
  have A1 := Below.nw (w.alloc (.cells #[.bool h, .int .i64 l] 63)) (.cells #[.int .i64 lo, .int .i64 hi] 46)
  have A2 := Below.nw ((w.alloc (.cells #[.bool h, .int .i64 l] 63)).alloc (.cells #[.int .i64 lo, .int .i64 hi] 46)) (.cells #[.bool false, .int .i64 0] 63)
  have N := ((Bx2.new w (.bool h) (.int .i64 l) 63).below A1).below A2
  have Q := (Bx2.new (w.alloc (.cells #[.bool h, .int .i64 l] 63)) (.int .i64 lo) (.int .i64 hi) 46).below A2
  have R := Bx2.new ((w.alloc (.cells #[.bool h, .int .i64 l] 63)).alloc (.cells #[.int .i64 lo, .int .i64 hi] 46)) (.bool false) (.int .i64 0) 63
  have B := (A0.trans (A1.mono A0.size)).trans (A2.mono (A0.trans (A1.mono A0.size)).size)
  simp only [World.size_alloc] at Q R
  clear A0 A1 A2
  have hj : w.heap.size ≤ w.heap.size + 1 + 1 := by omega
  obtain ⟨gm1, gm2⟩ := @gd_mid h l k lo hi
  have CR := fun (jc : Nat) (w' : World) (H : Tx3 w' jc (.bool h) (.int .i64 l) (.func (.func 188) #[] #[])) => read_mid jc h l k lo hi w' H
  rw [gm1, gm2] at CR
  clear gm1 gm2
  cases eb : arBad h l k lo hi
  · have e1 : (arC h l k lo hi == 1) = false ∧ anN (h, l) (k, lo, hi) = (arH h l k lo hi, arL h l k lo hi) := by
      have q : (arC h l k lo hi == 1) = false := by
        cases k
        · cases h
          · rw [(ar_no eb).2.2.2.2]; rfl
          · rw [(ar_old eb).2.2.2.2]; rfl
        · rw [(ar_known eb).2.2.2.2]; rfl
      refine ⟨q, ?_⟩
      unfold anN anC
      show (match (arC h l k lo hi != 1) with | true => _ | false => _) = _
      rw [bne, q]
      rfl
    obtain ⟨hne, e2⟩ := e1
    rw [e2] at CR
    clear e2 eb
    generalize arX h l k lo hi = X at *
    generalize arD h l k lo hi = D at *
    generalize arC h l k lo hi = C at *
    generalize arH h l k lo hi = H2 at *
    generalize arL h l k lo hi = T2 at *
    go_enter Tryz.func148, Tryz.ntmps148
    go_upto_region 1 with fail
    generalize (((w.alloc (.cells #[.bool h, .int .i64 l] 63)).alloc (.cells #[.int .i64 lo, .int .i64 hi] 46)).alloc (.cells #[.bool false, .int .i64 0] 63)) = v at *
    generalize w.heap.size + 1 + 1 = jr at *
    generalize w.heap.size + 1 = jb at *
    have NL := Below.nw v (.cells #[.bool h, .int .i64 l, (.func (.func 188) #[] #[])] 245)
    have K := Tx3.new v (.bool h) (.int .i64 l) (.func (.func 188) #[] #[]) 245
    have dcr : v.heap.size ≠ jr := Nat.ne_of_gt R.1
    have dcb : v.heap.size ≠ jb := Nat.ne_of_gt Q.1
    have hcw : w.heap.size ≤ v.heap.size := B.size
    obtain ⟨n0, n1, n2, n3, n4⟩ := id N
    go_upto_region 2 with fail
    clear n0 n1 n2 n3 n4 N
    replace Q := Q.below NL
    replace R := R.below NL
    replace B := B.trans (NL.mono B.size)
    clear NL
    generalize v.alloc (.cells #[.bool h, .int .i64 l, (.func (.func 188) #[] #[])] 245) = v2 at *
    generalize v.heap.size = jc at *
    obtain ⟨m0, m1, m2, m3, m4⟩ := id Q
    go_wp2_with fail
    refine (CR jc _ K).mono ?_
    rintro e v3 ⟨rfl, K3, bt⟩
    clear m0 m1 m2 m3 m4 Q K
    replace R := R.but bt dcr.symm
    replace B := B.trans (bt.below hcw B.size)
    clear bt
    have NL := Below.nw v3 (.cells #[.int .i64 X, .bool D, .int .i64 C] 247)
    have G := Tx3.new v3 (.int .i64 X) (.bool D) (.int .i64 C) 247
    have dgr : v3.heap.size ≠ jr := Nat.ne_of_gt R.1
    go_upto_region 3 with fail
    replace K3 := K3.below NL
    replace R := R.below NL
    replace B := B.trans (NL.mono B.size)
    clear NL
    generalize v3.alloc (.cells #[.int .i64 X, .bool D, .int .i64 C] 247) = v4 at *
    generalize v3.heap.size = jg at *
    have RR := (R.set0 (.bool H2)).set1 (.int .i64 T2)
    have BB := (B.setCell (p := ⟨jr, 0, none⟩) hj (.bool H2)).setCell (p := ⟨jr, 1, none⟩) hj (.int .i64 T2)
    obtain ⟨r0, r1, r2, r3, r4⟩ := id R
    obtain ⟨g0, g1, g2, g3, g4, g5, g6⟩ := id G
    obtain ⟨a0, a1, a2, a3, a4, a5, a6⟩ := id K3
    go_upto_region 5 with fail
    refine wp_region_held_drew (S := (fun w' => w'.cell? ⟨jc, 0, none⟩ = some (.bool H2) ∧ w'.cell? ⟨jc, 1, none⟩ = some (.int .i64 T2) ∧ w'.cell? ⟨jg, 0, none⟩ = some (.int .i64 X) ∧ w'.cell? ⟨jg, 1, none⟩ = some (.bool D) ∧ w'.cell? ⟨jg, 2, none⟩ = some (.int .i64 C))) (by kernel_rfl) ?_ (fun hHeld => ?_)
    · first | exact ⟨a1, a2, g1, g2, g3⟩ | exact ⟨keepC (keepC a1 dcr) dcr, keepC (keepC a2 dcr) dcr, keepC (keepC g1 dgr) dgr, keepC (keepC g2 dgr) dgr, keepC (keepC g3 dgr) dgr⟩
    refine zTk 0 ?_ ?_ ?_
    rotate_left
    · (intro w hSw; (try dsimp only at hSw); go_simp; all_goals with_reducible rfl)
    (try simp only [Act.put, zSb, zS0, zS1])
    refine zTk 1 ?_ ?_ ?_
    rotate_left
    · (intro w hSw; (try dsimp only at hSw); go_simp; all_goals with_reducible rfl)
    (try simp only [Act.put, zSb, zS0, zS1])
    refine zTk 2 ?_ ?_ ?_
    rotate_left
    · (intro w hSw; (try dsimp only at hSw); go_simp; all_goals with_reducible rfl)
    (try simp only [Act.put, zSb, zS0, zS1])
    refine zTk 3 ?_ ?_ ?_
    rotate_left
    · (intro w hSw; (try dsimp only at hSw); go_simp; all_goals with_reducible rfl)
    (try simp only [Act.put, zSb, zS0, zS1])
    refine zTk 4 ?_ ?_ ?_
    rotate_left
    · (intro w hSw; (try dsimp only at hSw); go_simp; all_goals with_reducible rfl)
    (try simp only [Act.put, zSb, zS0, zS1])
    refine zTk 5 ?_ ?_ ?_
    rotate_left
    · (intro w hSw; (try dsimp only at hSw); go_simp; all_goals with_reducible rfl)
    (try simp only [Act.put, zSb, zS0, zS1])
    refine zTk 6 ?_ ?_ ?_
    rotate_left
    · (intro w hSw; (try dsimp only at hSw); go_simp; all_goals with_reducible rfl)
    (try simp only [Act.put, zSb, zS0, zS1])
    refine zTk 7 ?_ ?_ ?_
    rotate_left
    · (intro w hSw; (try dsimp only at hSw); go_simp; all_goals with_reducible rfl)
    (try simp only [Act.put, zSb, zS0, zS1])
    refine wpAnyH_ready (rs := [8]) (by kernel_rfl) (by simp) ?_
    refine AllReadyH.cons (by rw [List.getElem?_toArray]; rfl) (fun K hK => ?_) AllReadyH.nil
    go_simp
    refine hK.out _ _ ?_ (fun hHeld => ?_)
    · first | exact ⟨a1, a2, g1, g2, g3⟩ | exact ⟨keepC (keepC a1 dcr) dcr, keepC (keepC a2 dcr) dcr, keepC (keepC g1 dgr) dgr, keepC (keepC g2 dgr) dgr, keepC (keepC g3 dgr) dgr⟩
    clear hK K
    (try simp only [Act.put, zSb, zS0, zS1])
    refine zTk 9 ?_ ?_ ?_
    rotate_left
    · (intro w hSw; (try dsimp only at hSw); go_simp; all_goals with_reducible rfl)
    (try simp only [Act.put, zSb, zS0, zS1])
    refine zTk 10 ?_ ?_ ?_
    rotate_left
    · (intro w hSw; (try dsimp only at hSw); go_simp; all_goals with_reducible rfl)
    (try simp only [Act.put, zSb, zS0, zS1])
    refine zTk 11 ?_ ?_ ?_
    rotate_left
    · (intro w hSw; (try dsimp only at hSw); go_simp; all_goals with_reducible rfl)
    (try simp only [Act.put, zSb, zS0, zS1])
    refine wpAnyH_done (by kernel_rfl) ?_ _
    go_wp2_with fail
    clear r0 r1 r2 r3 r4 g0 g1 g2 g3 g4 g5 g6
    generalize (v4.setCell ⟨jr, 0, none⟩ (.bool H2)).setCell ⟨jr, 1, none⟩ (.int .i64 T2) = vz at *
    obtain ⟨r0, r1, r2, r3, r4⟩ := id RR
    exact bodyPost_ret (v := (.tuple #[.agg #[.bool H2, .int .i64 T2], .int .i64 X, .bool D, .int .i64 C])) (by simp (maxDischargeDepth := 6) [results, Tryz.results148, go_sem, *]) rfl ⟨rfl, Below.drew BB⟩
  · obtain ⟨e1, e2, e3, e4, e5⟩ := ar_eqs eb
    rw [e3, e4, e5] at CR
    rw [e1, e2, e3, e4, e5]
    clear e1 e2 e3 e4 e5 eb
    generalize hS : anN (h, l) (k, lo, hi) = s at *
    clear hS
    go_enter Tryz.func148, Tryz.ntmps148
    go_upto_region 1 with fail
    generalize (((w.alloc (.cells #[.bool h, .int .i64 l] 63)).alloc (.cells #[.int .i64 lo, .int .i64 hi] 46)).alloc (.cells #[.bool false, .int .i64 0] 63)) = v at *
    generalize w.heap.size + 1 + 1 = jr at *
    generalize w.heap.size + 1 = jb at *
    have NL := Below.nw v (.cells #[.bool h, .int .i64 l, (.func (.func 188) #[] #[])] 245)
    have K := Tx3.new v (.bool h) (.int .i64 l) (.func (.func 188) #[] #[]) 245
    have dcr : v.heap.size ≠ jr := Nat.ne_of_gt R.1
    have dcb : v.heap.size ≠ jb := Nat.ne_of_gt Q.1
    have hcw : w.heap.size ≤ v.heap.size := B.size
    obtain ⟨n0, n1, n2, n3, n4⟩ := id N
    go_upto_region 2 with fail
    clear n0 n1 n2 n3 n4 N
    replace Q := Q.below NL
    replace R := R.below NL
    replace B := B.trans (NL.mono B.size)
    clear NL
    generalize v.alloc (.cells #[.bool h, .int .i64 l, (.func (.func 188) #[] #[])] 245) = v2 at *
    generalize v.heap.size = jc at *
    obtain ⟨m0, m1, m2, m3, m4⟩ := id Q
    go_wp2_with fail
    refine (CR jc _ K).mono ?_
    rintro e v3 ⟨rfl, K3, bt⟩
    clear m0 m1 m2 m3 m4 Q K
    replace R := R.but bt dcr.symm
    replace B := B.trans (bt.below hcw B.size)
    clear bt
    have NL := Below.nw v3 (.cells #[.int .i64 0, .bool false, .int .i64 1] 247)
    have G := Tx3.new v3 (.int .i64 0) (.bool false) (.int .i64 1) 247
    have dgr : v3.heap.size ≠ jr := Nat.ne_of_gt R.1
    go_upto_region 3 with fail
    replace K3 := K3.below NL
    replace R := R.below NL
    replace B := B.trans (NL.mono B.size)
    clear NL
    generalize v3.alloc (.cells #[.int .i64 0, .bool false, .int .i64 1] 247) = v4 at *
    generalize v3.heap.size = jg at *
    have RR := (R.set0 (.bool false)).set1 (.int .i64 0)
    have BB := (B.setCell (p := ⟨jr, 0, none⟩) hj (.bool false)).setCell (p := ⟨jr, 1, none⟩) hj (.int .i64 0)
    obtain ⟨r0, r1, r2, r3, r4⟩ := id R
    obtain ⟨g0, g1, g2, g3, g4, g5, g6⟩ := id G
    go_wp2_with fail
    clear r0 r1 r2 r3 r4 g0 g1 g2 g3 g4 g5 g6
    generalize (v4.setCell ⟨jr, 0, none⟩ (.bool false)).setCell ⟨jr, 1, none⟩ (.int .i64 0) = vz at *
    obtain ⟨r0, r1, r2, r3, r4⟩ := id RR
    exact bodyPost_ret (v := (.tuple #[.agg #[.bool false, .int .i64 0], .int .i64 0, .bool false, .int .i64 1])) (by simp (maxDischargeDepth := 6) [results, Tryz.results148, go_sem, *]) rfl ⟨rfl, BB⟩
end Go.Proofs.YtfhappkeipcemaaGreat
namespace Go.Proofs.YtfhappkeipcemaaGreat
open Go.RowKit
set_option linter.unusedVariables false
theorem wk_app (y : CfX) (x : NdX) (ct : Int) (p : Option Addr) (d : Nat) (aa : Option Addr) (ac : Nat) (pa : Option Addr) (pc : Nat) (ha : Option Addr) (hc : Nat) (b : Bool) (l : Int) : spl (wkV y x ct p d aa ac pa pc ha hc) 3 [.bool b, .int .i64 l] = wkV y { x with hs := b, ls := l } ct p d aa ac pa pc ha hc := by
  simp only [wkV, spl, List.setIfInBounds_toArray, List.set_cons_zero, List.set_cons_succ]
attribute [-go_sem] loadCells storeCells in
set_option maxRecDepth 100000 in
set_option maxHeartbeats 8000000 in
theorem wkRead (y : CfX) (x : NdX) (ct : Int) (p : Option Addr) (d : Nat) (aa : Option Addr) (ac : Nat) (pa : Option Addr) (pc : Nat) (ha : Option Addr) (hc k : Nat) (b : Bool) (lo hi : Int) (w : World) (HK : Bo w k (wkV y x ct p d aa ac pa pc ha hc)) :
    Calls Tryz.prog 94 #[.pointer (some ⟨k, 3, none⟩), .bool b, .agg #[.int .i64 lo, .int .i64 hi]] w fun e w' => e = .returned (.tuple #[.int .i64 (arX x.hs x.ls b lo hi), .bool (arD x.hs x.ls b lo hi), .int .i64 (arC x.hs x.ls b lo hi)]) ∧ Bo w' k (wkV y { x with hs := arH x.hs x.ls b lo hi, ls := arL x.hs x.ls b lo hi } ct p d aa ac pa pc ha hc) ∧ Btw k (k + 1) w w' := by
  have CR := fun v => implAppRead_any x.hs x.ls b lo hi v
  have hk := HK.1
  have A0 := Below.nw w (.cells #[.int .i64 lo, .int .i64 hi] 46)
  have I := Bo.new w #[.int .i64 lo, .int .i64 hi] 46
  have KW := HK.below A0
  have B := A0
  clear A0 HK
  go_enter Tryz.func94, Tryz.ntmps94
  go_upto_region 1 with fail
  generalize w.alloc (.cells #[.int .i64 lo, .int .i64 hi] 46) = v0 at *
  refine wp_region_held_drew (S := (fun w' => (loadCells ⟨w.heap.size, 0, none⟩ 2).run Tryz.prog w' = .ok #[.int .i64 lo, .int .i64 hi] w')) (by kernel_rfl) ?_ (fun hHeld => ?_)
  · first | exact hS2 | exact hS1 | exact hS | exact (Bo.drew I).load (show (#[.int .i64 lo, .int .i64 hi] : Array Value).size = 2 from rfl)
  have X0 : Below v0.heap.size v0 v0.drew := Below.drew (Below.refl _ _)
  replace KW := KW.below X0
  replace I := I.below X0
  have XB := B.trans (X0.mono B.size)
  clear X0 B
  generalize v0.drew = vx at *
  have hS := I.load (P := Tryz.prog) (show (#[.int .i64 lo, .int .i64 hi] : Array Value).size = 2 from rfl)
  have hL : (loadCells ⟨k, 3, none⟩ 2).run Tryz.prog vx = .ok #[.bool x.hs, .int .i64 x.ls] vx := KW.loadAt (P := Tryz.prog) 3 2 (show 3 + 2 ≤ 28 by decide)
  refine zTk 0 ?_ ?_ ?_
  rotate_left
  · (intro w hSw; (try dsimp only at hSw); go_simp; all_goals with_reducible rfl)
  (try simp only [Act.put, zSb, zS0, zS1])
  refine zTk 1 ?_ ?_ ?_
  rotate_left
  · (intro w hSw; (try dsimp only at hSw); go_simp; all_goals with_reducible rfl)
  (try simp only [Act.put, zSb, zS0, zS1])
  refine zTk 2 ?_ ?_ ?_
  rotate_left
  · (intro w hSw; (try dsimp only at hSw); go_simp; all_goals with_reducible rfl)
  (try simp only [Act.put, zSb, zS0, zS1])
  refine zTk 4 ?_ ?_ ?_
  rotate_left
  · (intro w hSw; (try dsimp only at hSw); go_simp; all_goals with_reducible rfl)
  (try simp only [Act.put, zSb, zS0, zS1])
  refine zTk 5 ?_ ?_ ?_
  rotate_left
  · (intro w hSw; (try dsimp only at hSw); go_simp; all_goals with_reducible rfl)
  (try simp only [Act.put, zSb, zS0, zS1])
  refine wpAnyH_ready (rs := [3]) (by kernel_rfl) (by simp) ?_
  refine (AllReadyH.cons (by rw [List.getElem?_toArray]; rfl) (fun K hK => ?_) AllReadyH.nil)
  go_simp
  refine hK.out _ _ ?_ (fun hHeld => ?_)
  · first | exact hS2 | exact hS1 | exact hS | exact (Bo.drew I).load (show (#[.int .i64 lo, .int .i64 hi] : Array Value).size = 2 from rfl)
  clear hK K
  (try simp only [Act.put, zSb, zS0, zS1])
  refine wpAnyH_ready (rs := [6]) (by kernel_rfl) (by simp) ?_
  refine (AllReadyH.cons (by rw [List.getElem?_toArray]; rfl) (fun K hK => ?_) AllReadyH.nil)
  go_simp
  refine (CR vx).mono ?_; rintro ee vs ⟨rfl, hbl⟩; (replace XB := XB.trans (hbl.mono XB.size)); (have K1 := KW.below hbl); (have I1 := I.below hbl); (have hS1 := I1.load (P := Tryz.prog) (show (#[.int .i64 lo, .int .i64 hi] : Array Value).size = 2 from rfl)); (have hst := Bo.store (P := Tryz.prog) (b := 3) ([.bool (arH x.hs x.ls b lo hi), .int .i64 (arL x.hs x.ls b lo hi)]) 3 0 K1 rfl (show 3 + 2 ≤ 28 by decide) (List.forall_mem_cons.2 ⟨rfl, (List.forall_mem_cons.2 ⟨rfl, fun _ h => nomatch h⟩)⟩)); (have KF := Bo.put ([.bool (arH x.hs x.ls b lo hi), .int .i64 (arL x.hs x.ls b lo hi)]) 3 K1); (rw [wk_app] at KF); (have IF := I1.btw (putA_btw ([.bool (arH x.hs x.ls b lo hi), .int .i64 (arL x.hs x.ls b lo hi)]) vs 3 k) (.inr (Nat.succ_le_of_lt hk))); (have XF : Btw k (k + 1) w (putA vs k 3 ([.bool (arH x.hs x.ls b lo hi), .int .i64 (arL x.hs x.ls b lo hi)])) := (Btw.ofBelow XB).trans (putA_btw ([.bool (arH x.hs x.ls b lo hi), .int .i64 (arL x.hs x.ls b lo hi)]) vs 3 k)); (clear hbl hL KW I); (generalize putA vs k 3 ([.bool (arH x.hs x.ls b lo hi), .int .i64 (arL x.hs x.ls b lo hi)]) = vf at *); (have hS2 := IF.load (P := Tryz.prog) (show (#[.int .i64 lo, .int .i64 hi] : Array Value).size = 2 from rfl))
  (try go_wp2_with fail)
  refine hK.out _ _ ?_ (fun hHeld => ?_)
  · first | exact hS2 | exact hS1 | exact hS | exact (Bo.drew I).load (show (#[.int .i64 lo, .int .i64 hi] : Array Value).size = 2 from rfl)
  clear hK K
  (try simp only [Act.put, zSb, zS0, zS1])
  refine zTk 7 ?_ ?_ ?_
  rotate_left
  · (intro w hSw; (try dsimp only at hSw); go_simp; all_goals with_reducible rfl)
  (try simp only [Act.put, zSb, zS0, zS1])
  refine zTk 8 ?_ ?_ ?_
  rotate_left
  · (intro w hSw; (try dsimp only at hSw); go_simp; all_goals with_reducible rfl)
  (try simp only [Act.put, zSb, zS0, zS1])
  refine zTk 9 ?_ ?_ ?_
  rotate_left
  · (intro w hSw; (try dsimp only at hSw); go_simp; all_goals with_reducible rfl)
  (try simp only [Act.put, zSb, zS0, zS1])
  refine zTk 10 ?_ ?_ ?_
  rotate_left
  · (intro w hSw; (try dsimp only at hSw); go_simp; all_goals with_reducible rfl)
  (try simp only [Act.put, zSb, zS0, zS1])
  refine zTk 11 ?_ ?_ ?_
  rotate_left
  · (intro w hSw; (try dsimp only at hSw); go_simp; all_goals with_reducible rfl)
  (try simp only [Act.put, zSb, zS0, zS1])
  refine zTk 12 ?_ ?_ ?_
  rotate_left
  · (intro w hSw; (try dsimp only at hSw); go_simp; all_goals with_reducible rfl)
  (try simp only [Act.put, zSb, zS0, zS1])
  refine wpAnyH_ready (rs := [13]) (by kernel_rfl) (by simp) ?_
  refine (AllReadyH.cons (by rw [List.getElem?_toArray]; rfl) (fun K hK => ?_) AllReadyH.nil)
  go_simp
  refine hK.out _ _ ?_ (fun hHeld => ?_)
  · first | exact hS2 | exact hS1 | exact hS | exact (Bo.drew I).load (show (#[.int .i64 lo, .int .i64 hi] : Array Value).size = 2 from rfl)
  clear hK K
  (try simp only [Act.put, zSb, zS0, zS1])
  refine zTk 14 ?_ ?_ ?_
  rotate_left
  · (intro w hSw; (try dsimp only at hSw); go_simp; all_goals with_reducible rfl)
  (try simp only [Act.put, zSb, zS0, zS1])
  refine zTk 15 ?_ ?_ ?_
  rotate_left
  · (intro w hSw; (try dsimp only at hSw); go_simp; all_goals with_reducible rfl)
  (try simp only [Act.put, zSb, zS0, zS1])
  refine zTk 16 ?_ ?_ ?_
  rotate_left
  · (intro w hSw; (try dsimp only at hSw); go_simp; all_goals with_reducible rfl)
  (try simp only [Act.put, zSb, zS0, zS1])
  refine wpAnyH_done (by kernel_rfl) ?_ _
  go_wp2_with (rw [hst])
  exact bodyPost_ret (v := .tuple #[.int .i64 (arX x.hs x.ls b lo hi), .bool (arD x.hs x.ls b lo hi), .int .i64 (arC x.hs x.ls b lo hi)]) (by simp [results, Tryz.results94, go_sem]) rfl ⟨rfl, KF, XF⟩
end Go.Proofs.YtfhappkeipcemaaGreat
