/- Draws of the gate: what a wait is asked for. The walk of FnBudget. -/
import Derived.Test.YtcakhfobkbgfoaaGreatDoorMC7
import Derived.Test.YtcakhfobkbgfoaaGreatDoorMC2
import Derived.Deep.RegionHeld3
import Derived.Deep.DeepCutAuto
import Derived.WalkKit
import Derived.WalkSpells
import Derived.WalkLawsBesides
import Derived.Deep.RegionHeld
import Derived.Test.YtcakhfobkbgfoaaGreatDoorMC6
namespace Go.Proofs.YtcakhfobkbgfoaaGreatDoor
open Go.RowKit
set_option linter.unusedVariables false
theorem pick4 (B p : Nat) (w : World) (a b c d : Int) (hcur : CurOk w B p) :
    Calls Tryz.prog 20 #[.pointer (some ⟨p, 0, none⟩), .slice (some ⟨w.heap.size, 0, none⟩) 4 4] (w.alloc (.cells #[.int .i64 a, .int .i64 b, .int .i64 c, .int .i64 d] 3)) fun e w' => ∃ v : Int, e = .returned (.int .i64 v) ∧ CurOk w' B p ∧ But p w w' := by
  have h := pickLit B p w [a, b, c, d] hcur (by simp) (by simp)
  simp only [List.map_cons, List.map_nil, List.length_cons, List.length_nil, Nat.zero_add, Nat.reduceAdd] at h
  exact h
set_option maxRecDepth 100000 in
set_option maxHeartbeats 16000000 in
theorem DrawGateWait_any (a : Option Addr) (l c0 : Nat) (w : World) (hl : l ≤ 1048576) (hcode : CodeB w w.heap.size a l) :
    Calls Tryz.prog 5 #[.slice a l c0] w fun e w' => ∃ (kn : Bool) (lo hi h n d x s g : Int) (A : Option Addr) (m c : Nat) (M : Nat → SlT) (o t y : Int), e = .returned (.tuple #[.agg #[.bool kn, .int .i64 lo, .int .i64 hi, .int .i64 h], .agg #[.int .i64 n, .int .i64 d], .int .i64 x, .agg #[.int .i64 s, .int .i64 g, .slice A m c], .int .i64 o, .int .i64 t, .int .i64 y]) ∧ m ≤ 13 ∧ w'.ownsRow w.heap.size 85 2 (.slice A m c) m (srow M m) ∧ Below w.heap.size w w' := by
  have A0 := Below.nw w (.cells #[.bool false, .int .i64 0, .int .i64 0, .int .i64 0] 27)
  have A1 := Below.nw (w.alloc (.cells #[.bool false, .int .i64 0, .int .i64 0, .int .i64 0] 27)) (.cells #[.int .i64 0, .int .i64 0] 29)
  have A2 := Below.nw ((w.alloc (.cells #[.bool false, .int .i64 0, .int .i64 0, .int .i64 0] 27)).alloc (.cells #[.int .i64 0, .int .i64 0] 29)) (.cells #[.int .i64 0, .int .i64 0, .slice none 0 0] 32)
  have RL := ((BoxL.new w false 0 0 0 27).below A1).below A2
  have RD := (Bx2.new (w.alloc (.cells #[.bool false, .int .i64 0, .int .i64 0, .int .i64 0] 27)) (.int .i64 0) (.int .i64 0) 29).below A2
  have RP := Tx3.new ((w.alloc (.cells #[.bool false, .int .i64 0, .int .i64 0, .int .i64 0] 27)).alloc (.cells #[.int .i64 0, .int .i64 0] 29)) (.int .i64 0) (.int .i64 0) (.slice none 0 0) 32
  have B := (A0.trans (A1.mono A0.size)).trans (A2.mono (A0.trans (A1.mono A0.size)).size)
  simp only [World.size_alloc] at RD RP
  replace hcode := (hcode.below B).more B.size
  have h0w : w.heap.size ≤ w.heap.size := Nat.le_refl _
  have h1w : w.heap.size ≤ w.heap.size + 1 := by omega
  have h2w : w.heap.size ≤ w.heap.size + 1 + 1 := by omega
  clear A0 A1 A2
  go_enter Tryz.func5, Tryz.ntmps5
  go_upto_region 1 with fail
  generalize ((w.alloc (.cells #[.bool false, .int .i64 0, .int .i64 0, .int .i64 0] 27)).alloc (.cells #[.int .i64 0, .int .i64 0] 29)).alloc (.cells #[.int .i64 0, .int .i64 0, .slice none 0 0] 32) = v at *
  have n01 : w.heap.size ≠ w.heap.size + 1 := by omega
  have n02 : w.heap.size ≠ w.heap.size + 1 + 1 := by omega
  have n12 : w.heap.size + 1 ≠ w.heap.size + 1 + 1 := by omega
  generalize hj2 : w.heap.size + 1 + 1 = j2 at *
  generalize hj1 : w.heap.size + 1 = j1 at *
  have n10 : j1 ≠ w.heap.size := fun e => n01 e.symm
  have n20 : j2 ≠ w.heap.size := fun e => n02 e.symm
  have n21 : j2 ≠ j1 := fun e => n12 e.symm
  clear hj1 hj2
  go_wp2_with fail
  refine (l1New_any a l c0 _ hl hcode).mono ?_
  rintro e w1 ⟨p, rfl, cc, nl⟩
  have hq := cc.lt
  have hvp : v.heap.size ≤ p := hq.2
  have h0p : w.heap.size ≠ p := by have := RL.1; omega
  have h1p : j1 ≠ p := by have := RD.1; omega
  have h2p : j2 ≠ p := by have := RP.1; omega
  have hwp : w.heap.size ≤ p := by have := RL.1; omega
  clear hcode
  replace RL := RL.below nl
  replace RD := RD.below nl
  replace RP := RP.below nl
  replace B := B.trans (nl.mono B.size)
  clear nl
  generalize v.heap.size = B0 at *
  have hg0 : w.heap.size < w1.heap.size := RL.1
  have hg1 : j1 < w1.heap.size := RD.1
  have hg2 : j2 < w1.heap.size := RP.1
  clear hq
  go_wp2_with fail
  refine (l6DrawLocal_any B0 p _ cc).mono ?_
  rintro e w2 ⟨kn, lo, hi, h, rfl, nc, bb⟩
  replace cc := nc
  clear nc
  have hkl := bb.2.2.2.1
  replace RL := RL.but bb h0p
  replace RD := RD.but bb h1p
  replace RP := RP.but bb h2p
  replace B := B.trans (bb.below hwp B.size)
  clear bb
  have nl := Below.nw w2 (.cells #[.bool kn, .int .i64 lo, .int .i64 hi, .int .i64 h] 27)
  have KL := BoxL.new w2 kn lo hi h 27
  have hlp : w2.heap.size ≠ p := Nat.ne_of_gt cc.lt.1
  have hBl : B0 ≤ w2.heap.size := by have := cc.lt; omega
  replace cc := cc.below nl
  replace RL := RL.below nl
  replace RD := RD.below nl
  replace RP := RP.below nl
  replace B := B.trans (nl.mono B.size)
  clear nl
  go_upto_region 3 with fail
  generalize w2.alloc (.cells #[.bool kn, .int .i64 lo, .int .i64 hi, .int .i64 h] 27) = w3 at *
  generalize w2.heap.size = kl at *
  have n0l : w.heap.size ≠ kl := by omega
  have n1l : j1 ≠ kl := by omega
  have n2l : j2 ≠ kl := by omega
  have nl0 : kl ≠ w.heap.size := fun e => n0l e.symm
  have nl1 : kl ≠ j1 := fun e => n1l e.symm
  have nl2 : kl ≠ j2 := fun e => n2l e.symm
  have hwl : w.heap.size ≤ kl := by omega
  go_upto_if 21 with (go_at_call 16; refine (l1Once_any B0 p 2 _ cc).mono ?_; rintro e v3 ⟨q2, rfl, nc, bb⟩)
  replace cc := nc
  clear nc
  replace RL := RL.but bb h0p
  replace RD := RD.but bb h1p
  replace RP := RP.but bb h2p
  replace KL := KL.but bb hlp
  replace B := B.trans (bb.below hwp B.size)
  clear bb
  go_cut [11] (fun s11 wx => ∃ (kn : Bool) (lo hi h : Int), BoxL wx kl kn lo hi h ∧ CurOk wx B0 p ∧ BoxL wx w.heap.size false 0 0 0 ∧ Bx2 wx j1 (.int .i64 0) (.int .i64 0) ∧ Tx3 wx j2 (.int .i64 0) (.int .i64 0) (.slice none 0 0) ∧ Below w.heap.size w wx)
  case first => as_aux_lemma =>
    cases q2
    · go_wp2_with fail
      go_meet
      case rel => exact ⟨kn, lo, hi, h, KL, cc, RL, RD, RP, B⟩
    · go_wp2_with fail
      refine (l1Below_any B0 p 60 _ cc).mono ?_
      rintro e vx ⟨z1, rfl, _, _, _, _, nc, bb⟩
      replace cc := nc
      clear nc
      replace RL := RL.but bb h0p
      replace RD := RD.but bb h1p
      replace RP := RP.but bb h2p
      replace KL := KL.but bb hlp
      replace B := B.trans (bb.below hwp B.size)
      clear bb
      go_wp2_with fail
      refine (l1Below_any B0 p 6 _ cc).mono ?_
      rintro e vx ⟨z2, rfl, _, _, _, _, nc, bb⟩
      replace cc := nc
      clear nc
      replace RL := RL.but bb h0p
      replace RD := RD.but bb h1p
      replace RP := RP.but bb h2p
      replace KL := KL.but bb hlp
      replace B := B.trans (bb.below hwp B.size)
      clear bb
      go_wp2_with fail
      refine (l1Below_any B0 p 60 _ cc).mono ?_
      rintro e vx ⟨z3, rfl, _, _, _, _, nc, bb⟩
      replace cc := nc
      clear nc
      replace RL := RL.but bb h0p
      replace RD := RD.but bb h1p
      replace RP := RP.but bb h2p
      replace KL := KL.but bb hlp
      replace B := B.trans (bb.below hwp B.size)
      clear bb
      have KL2 := KL.set true z1 (z1 + z2) z3
      have cc2 := cc.setL hlp hBl true z1 (z1 + z2) z3
      have RL2 := RL.setLO nl0 true z1 (z1 + z2) z3
      have RD2 := (((RD.setO nl1 0 (.bool true)).setO nl1 1 (.int .i64 z1)).setO nl1 2 (.int .i64 (z1 + z2))).setO nl1 3 (.int .i64 z3)
      have RP2 := (((RP.setO nl2 0 (.bool true)).setO nl2 1 (.int .i64 z1)).setO nl2 2 (.int .i64 (z1 + z2))).setO nl2 3 (.int .i64 z3)
      have B2 := (((B.setCell (p := ⟨kl, 0, none⟩) hwl (.bool true)).setCell (p := ⟨kl, 1, none⟩) hwl (.int .i64 z1)).setCell (p := ⟨kl, 2, none⟩) hwl (.int .i64 (z1 + z2))).setCell (p := ⟨kl, 3, none⟩) hwl (.int .i64 z3)
      unfold setL at KL2 cc2 RL2
      (obtain ⟨a0, a1, a2, a3, a4, a5, a6, a7, a8⟩ := id KL)
      go_wp2_with fail
      go_meet
      case rel => exact ⟨true, z1, z1 + z2, z3, KL2, cc2, RL2, RD2, RP2, B2⟩
  case rest =>
    clear KL cc RL RD RP B
    clear kn lo hi h
    obtain ⟨kn, lo, hi, h, KL, cc, RL, RD, RP, B⟩ := hcut
    generalize wc = w4 at *
    go_wp2_with fail
    refine (l1Below_any B0 p 3 _ cc).mono ?_
    rintro e w5 ⟨n3, rfl, _, _, _, _, nc, bb⟩
    replace cc := nc
    clear nc
    replace RL := RL.but bb h0p
    replace RD := RD.but bb h1p
    replace RP := RP.but bb h2p
    replace KL := KL.but bb hlp
    replace B := B.trans (bb.below hwp B.size)
    clear bb
    have nl := Below.nw w5 (.cells #[.int .i64 n3, .int .i64 400] 29)
    have KD := Bx2.new w5 (.int .i64 n3) (.int .i64 400) 29
    have hdp : w5.heap.size ≠ p := Nat.ne_of_gt cc.lt.1
    have hBd : B0 ≤ w5.heap.size := by have := cc.lt; omega
    have hld : kl < w5.heap.size := KL.1
    replace cc := cc.below nl
    replace RL := RL.below nl
    replace RD := RD.below nl
    replace RP := RP.below nl
    replace KL := KL.below nl
    replace B := B.trans (nl.mono B.size)
    clear nl
    go_upto_region 7 with fail
    generalize w5.alloc (.cells #[.int .i64 n3, .int .i64 400] 29) = w6 at *
    generalize w5.heap.size = kd at *
    have nld : kd ≠ kl := by omega
    have n0d : w.heap.size ≠ kd := by omega
    have n1d : j1 ≠ kd := by omega
    have n2d : j2 ≠ kd := by omega
    have nd0 : kd ≠ w.heap.size := fun e => n0d e.symm
    have nd1 : kd ≠ j1 := fun e => n1d e.symm
    have nd2 : kd ≠ j2 := fun e => n2d e.symm
    have hwd : w.heap.size ≤ kd := by omega
    go_upto_if 37 with (go_at_call 16; refine (l1Once_any B0 p 9 _ cc).mono ?_; rintro e v3 ⟨q9, rfl, nc, bb⟩)
    replace cc := nc
    clear nc
    replace RL := RL.but bb h0p
    replace RD := RD.but bb h1p
    replace RP := RP.but bb h2p
    replace KL := KL.but bb hlp
    replace KD := KD.but bb hdp
    replace B := B.trans (bb.below hwp B.size)
    clear bb
    go_cut [] (fun wx => ∃ (n d : Int), Bx2 wx kd (.int .i64 n) (.int .i64 d) ∧ BoxL wx kl kn lo hi h ∧ CurOk wx B0 p ∧ BoxL wx w.heap.size false 0 0 0 ∧ Bx2 wx j1 (.int .i64 0) (.int .i64 0) ∧ Tx3 wx j2 (.int .i64 0) (.int .i64 0) (.slice none 0 0) ∧ Below w.heap.size w wx)
    case first => as_aux_lemma =>
      cases q9
      · go_wp2_with fail
        go_meet
        case rel => exact ⟨n3, 400, KD, KL, cc, RL, RD, RP, B⟩
      · go_wp2_with fail
        refine (l2DrawDrift_any B0 p _ cc).mono ?_
        rintro e vx ⟨nn, dd, rfl, nc, bb⟩
        replace cc := nc
        clear nc
        replace RL := RL.but bb h0p
        replace RD := RD.but bb h1p
        replace RP := RP.but bb h2p
        replace KL := KL.but bb hlp
        replace KD := KD.but bb hdp
        replace B := B.trans (bb.below hwp B.size)
        clear bb
        have KD2 := (KD.set0 (.int .i64 nn)).set1 (.int .i64 dd)
        have KL2 := (KL.setO nld 0 (.int .i64 nn)).setO nld 1 (.int .i64 dd)
        have cc2 := (cc.setOther hdp hBd 0 (.int .i64 nn)).setOther hdp hBd 1 (.int .i64 dd)
        have RL2 := (RL.setO nd0 0 (.int .i64 nn)).setO nd0 1 (.int .i64 dd)
        have RD2 := (RD.setO nd1 0 (.int .i64 nn)).setO nd1 1 (.int .i64 dd)
        have RP2 := (RP.setO nd2 0 (.int .i64 nn)).setO nd2 1 (.int .i64 dd)
        have B2 := (B.setCell (p := ⟨kd, 0, none⟩) hwd (.int .i64 nn)).setCell (p := ⟨kd, 1, none⟩) hwd (.int .i64 dd)
        (obtain ⟨d0, d1, d2, d3, d4⟩ := id KD)
        go_wp2_with fail
        go_meet
        case rel => exact ⟨nn, dd, KD2, KL2, cc2, RL2, RD2, RP2, B2⟩
    case rest =>
      clear KD KL cc RL RD RP B
      obtain ⟨n, d, KD, KL, cc, RL, RD, RP, B⟩ := hcut
      generalize wc = w7 at *
      have h0b : w.heap.size < w7.heap.size := RL.1
      have h1b : j1 < w7.heap.size := RD.1
      have h2b : j2 < w7.heap.size := RP.1
      have hpo : p < w7.heap.size := cc.lt.1
      have hwo : w.heap.size ≤ w7.heap.size := Nat.le_of_lt h0b
      have hgl : kl < w7.heap.size := KL.1
      have hgd : kd < w7.heap.size := KD.1
      go_wp2_with fail
      refine (l13DrawAny_any B0 p _ cc).mono ?_
      rintro e w8 ⟨s, g, A, m, c, M, rfl, hm13, _, OW, nc, bb⟩
      replace cc := nc
      have hkg := bb.2.2.2.1
      clear nc
      replace RL := RL.but bb h0p
      replace RD := RD.but bb h1p
      replace RP := RP.but bb h2p
      replace KL := KL.but bb hlp
      replace KD := KD.but bb hdp
      replace B := B.trans (bb.below hwp B.size)
      clear bb
      have nl := Below.nw w8 (.cells #[.int .i64 s, .int .i64 g, .slice A m c] 32)
      have KB := Tx3.new w8 (.int .i64 s) (.int .i64 g) (.slice A m c) 32
      have hkp : w8.heap.size ≠ p := Nat.ne_of_gt cc.lt.1
      replace cc := cc.below nl
      replace RL := RL.below nl
      replace RD := RD.below nl
      replace RP := RP.below nl
      replace KL := KL.below nl
      replace KD := KD.below nl
      replace OW := own_belK' OW nl
      replace B := B.trans (nl.mono B.size)
      clear nl
      go_upto_region 10 with fail
      generalize w8.alloc (.cells #[.int .i64 s, .int .i64 g, .slice A m c] 32) = w9 at *
      generalize w8.heap.size = kp at *
      go_wp2_with fail
      refine (l1Below_any B0 p 300 _ cc).mono ?_
      rintro e vx ⟨y0, rfl, _, _, _, _, nc, bb⟩
      replace cc := nc
      clear nc
      replace RL := RL.but bb h0p
      replace RD := RD.but bb h1p
      replace RP := RP.but bb h2p
      replace KB := KB.but bb hkp
      replace KD := KD.but bb hdp
      replace KL := KL.but bb hlp
      replace OW := own_butK OW bb hpo
      replace B := B.trans (bb.below hwp B.size)
      clear bb
      go_upto_if 45 with (go_at_call 16; refine (l1Once_any B0 p 15 _ cc).mono ?_; rintro e v3 ⟨q15, rfl, nc, bb⟩)
      replace cc := nc
      clear nc
      replace RL := RL.but bb h0p
      replace RD := RD.but bb h1p
      replace RP := RP.but bb h2p
      replace KB := KB.but bb hkp
      replace KD := KD.but bb hdp
      replace KL := KL.but bb hlp
      replace OW := own_butK OW bb hpo
      replace B := B.trans (bb.below hwp B.size)
      clear bb
      go_cut [14] (fun s14 wx => ∃ yy : Int, s14 = .int .i64 yy ∧ Tx3 wx kp (.int .i64 s) (.int .i64 g) (.slice A m c) ∧ Bx2 wx kd (.int .i64 n) (.int .i64 d) ∧ BoxL wx kl kn lo hi h ∧ CurOk wx B0 p ∧ BoxL wx w.heap.size false 0 0 0 ∧ Bx2 wx j1 (.int .i64 0) (.int .i64 0) ∧ Tx3 wx j2 (.int .i64 0) (.int .i64 0) (.slice none 0 0) ∧ wx.ownsRow w7.heap.size 85 2 (.slice A m c) m (srow M m) ∧ Below w.heap.size w wx)
      case first => as_aux_lemma =>
        cases q15
        · go_wp2_with fail
          go_meet
          case rel => exact ⟨y0, rfl, KB, KD, KL, cc, RL, RD, RP, OW, B⟩
        · go_wp2_with fail
          refine (pick4 B0 p v3 _ _ _ _ cc).mono ?_
          rintro e vx ⟨y1, rfl, nc, bb⟩
          replace cc := nc
          clear nc
          replace RL := RL.but bb h0p
          replace RD := RD.but bb h1p
          replace RP := RP.but bb h2p
          replace KB := KB.but bb hkp
          replace KD := KD.but bb hdp
          replace KL := KL.but bb hlp
          replace OW := own_butK OW bb hpo
          replace B := B.trans (bb.below hwp B.size)
          clear bb
          go_wp2_with fail
          go_meet
          case rel => exact ⟨y1, rfl, KB, KD, KL, cc, RL, RD, RP, OW, B⟩
      case rest =>
        clear KB KD KL cc RL RD RP OW B
        obtain ⟨yy, rfl, KB, KD, KL, cc, RL, RD, RP, OW, B⟩ := hcut
        generalize wc = w10 at *
        go_wp2_with fail
        refine (l14DrawLong_any B0 p _ cc).mono ?_
        rintro e v9 ⟨x, rfl, nc, bb⟩
        replace cc := nc
        clear nc
        replace RL := RL.but bb h0p
        replace RD := RD.but bb h1p
        replace RP := RP.but bb h2p
        replace KB := KB.but bb hkp
        replace KD := KD.but bb hdp
        replace KL := KL.but bb hlp
        replace OW := own_butK OW bb hpo
        replace B := B.trans (bb.below hwp B.size)
        clear bb
        have n0k : w.heap.size ≠ kp := by omega
        have n1k : j1 ≠ kp := by omega
        have n2k : j2 ≠ kp := by omega
        (obtain ⟨a0, a1, a2, a3, a4, a5, a6, a7, a8⟩ := id KL); (obtain ⟨d0, d1, d2, d3, d4⟩ := id KD); (obtain ⟨k0, k1, k2, k3, k4, k5, k6⟩ := id KB)
        go_upto_region 14 with fail
        refine wp_region_held_drew (S := (fun w' => w'.cell? ⟨kl, 0, none⟩ = some (.bool kn) ∧ w'.cell? ⟨kl, 1, none⟩ = some (.int .i64 lo) ∧ w'.cell? ⟨kl, 2, none⟩ = some (.int .i64 hi) ∧ w'.cell? ⟨kl, 3, none⟩ = some (.int .i64 h) ∧ w'.cell? ⟨kd, 0, none⟩ = some (.int .i64 n) ∧ w'.cell? ⟨kd, 1, none⟩ = some (.int .i64 d) ∧ w'.cell? ⟨kp, 0, none⟩ = some (.int .i64 s) ∧ w'.cell? ⟨kp, 1, none⟩ = some (.int .i64 g) ∧ w'.cell? ⟨kp, 2, none⟩ = some (.slice A m c))) (by kernel_rfl) ?_ (fun hHeld => ?_)
        · exact ⟨a1, a2, a3, a4, d1, d2, k1, k2, k3⟩
        replace RL := RL.drew
        replace RD := RD.drew
        replace RP := RP.drew
        replace KB := KB.drew
        replace KD := KD.drew
        replace KL := KL.drew
        replace cc : CurOk v9.drew B0 p := cc
        replace OW : v9.drew.ownsRow w7.heap.size 85 2 (.slice A m c) m (srow M m) := OW
        replace B := Below.drew B
        (clear a0 a1 a2 a3 a4 a5 a6 a7 a8 d0 d1 d2 d3 d4 k0 k1 k2 k3 k4 k5 k6)
        generalize v9.drew = vx at *
        (obtain ⟨a0, a1, a2, a3, a4, a5, a6, a7, a8⟩ := id KL); (obtain ⟨d0, d1, d2, d3, d4⟩ := id KD); (obtain ⟨k0, k1, k2, k3, k4, k5, k6⟩ := id KB)
        refine wpAnyH_take (i := 0) (v := ?_) (by rw [List.getElem?_toArray]; rfl) (by kernel_rfl) (by kernel_rfl) (by kernel_rfl) (by intro _ _ _ h; exact h) (Or.inl ⟨by rfl, ?_⟩) (by assumption) ?_
        rotate_left
        · (intro w hSw; (try dsimp only at hSw); go_simp; all_goals with_reducible rfl)
        (try simp only [Act.put, List.setIfInBounds_toArray, List.set_cons_zero, List.set_cons_succ])
        refine wpAnyH_take (i := 1) (v := ?_) (by rw [List.getElem?_toArray]; rfl) (by kernel_rfl) (by kernel_rfl) (by kernel_rfl) (by intro _ _ _ h; exact h) (Or.inl ⟨by rfl, ?_⟩) (by assumption) ?_
        rotate_left
        · (intro w hSw; (try dsimp only at hSw); go_simp; all_goals with_reducible rfl)
        (try simp only [Act.put, List.setIfInBounds_toArray, List.set_cons_zero, List.set_cons_succ])
        refine wpAnyH_take (i := 2) (v := ?_) (by rw [List.getElem?_toArray]; rfl) (by kernel_rfl) (by kernel_rfl) (by kernel_rfl) (by intro _ _ _ h; exact h) (Or.inl ⟨by rfl, ?_⟩) (by assumption) ?_
        rotate_left
        · (intro w hSw; (try dsimp only at hSw); go_simp; all_goals with_reducible rfl)
        (try simp only [Act.put, List.setIfInBounds_toArray, List.set_cons_zero, List.set_cons_succ])
        refine wpAnyH_take (i := 3) (v := ?_) (by rw [List.getElem?_toArray]; rfl) (by kernel_rfl) (by kernel_rfl) (by kernel_rfl) (by intro _ _ _ h; exact h) (Or.inl ⟨by rfl, ?_⟩) (by assumption) ?_
        rotate_left
        · (intro w hSw; (try dsimp only at hSw); go_simp; all_goals with_reducible rfl)
        (try simp only [Act.put, List.setIfInBounds_toArray, List.set_cons_zero, List.set_cons_succ])
        refine wpAnyH_take (i := 4) (v := ?_) (by rw [List.getElem?_toArray]; rfl) (by kernel_rfl) (by kernel_rfl) (by kernel_rfl) (by intro _ _ _ h; exact h) (Or.inl ⟨by rfl, ?_⟩) (by assumption) ?_
        rotate_left
        · (intro w hSw; (try dsimp only at hSw); go_simp; all_goals with_reducible rfl)
        (try simp only [Act.put, List.setIfInBounds_toArray, List.set_cons_zero, List.set_cons_succ])
        refine wpAnyH_take (i := 6) (v := ?_) (by rw [List.getElem?_toArray]; rfl) (by kernel_rfl) (by kernel_rfl) (by kernel_rfl) (by intro _ _ _ h; exact h) (Or.inl ⟨by rfl, ?_⟩) (by assumption) ?_
        rotate_left
        · (intro w hSw; (try dsimp only at hSw); go_simp; all_goals with_reducible rfl)
        (try simp only [Act.put, List.setIfInBounds_toArray, List.set_cons_zero, List.set_cons_succ])
        refine wpAnyH_take (i := 7) (v := ?_) (by rw [List.getElem?_toArray]; rfl) (by kernel_rfl) (by kernel_rfl) (by kernel_rfl) (by intro _ _ _ h; exact h) (Or.inl ⟨by rfl, ?_⟩) (by assumption) ?_
        rotate_left
        · (intro w hSw; (try dsimp only at hSw); go_simp; all_goals with_reducible rfl)
        (try simp only [Act.put, List.setIfInBounds_toArray, List.set_cons_zero, List.set_cons_succ])
        refine wpAnyH_take (i := 8) (v := ?_) (by rw [List.getElem?_toArray]; rfl) (by kernel_rfl) (by kernel_rfl) (by kernel_rfl) (by intro _ _ _ h; exact h) (Or.inl ⟨by rfl, ?_⟩) (by assumption) ?_
        rotate_left
        · (intro w hSw; (try dsimp only at hSw); go_simp; all_goals with_reducible rfl)
        (try simp only [Act.put, List.setIfInBounds_toArray, List.set_cons_zero, List.set_cons_succ])
        refine wpAnyH_take (i := 10) (v := ?_) (by rw [List.getElem?_toArray]; rfl) (by kernel_rfl) (by kernel_rfl) (by kernel_rfl) (by intro _ _ _ h; exact h) (Or.inl ⟨by rfl, ?_⟩) (by assumption) ?_
        rotate_left
        · (intro w hSw; (try dsimp only at hSw); go_simp; all_goals with_reducible rfl)
        (try simp only [Act.put, List.setIfInBounds_toArray, List.set_cons_zero, List.set_cons_succ])
        refine wpAnyH_ready (rs := [5]) (by kernel_rfl) (by simp) ?_
        refine (AllReadyH.cons (by rw [List.getElem?_toArray]; rfl) (fun K hK => ?_) AllReadyH.nil)
        go_simp
        refine (l1Below_any B0 p 4 _ cc).mono ?_; rintro e vx ⟨ow, rfl, _, _, _, _, nc, bb⟩; (clear a0 a1 a2 a3 a4 a5 a6 a7 a8 d0 d1 d2 d3 d4 k0 k1 k2 k3 k4 k5 k6); (replace cc := nc); (clear nc); (replace RL := RL.but bb h0p); (replace RD := RD.but bb h1p); (replace RP := RP.but bb h2p); (replace KB := KB.but bb hkp); (replace KD := KD.but bb hdp); (replace KL := KL.but bb hlp); (replace OW := own_butK OW bb hpo); (replace B := B.trans (bb.below hwp B.size)); (clear bb); (obtain ⟨a0, a1, a2, a3, a4, a5, a6, a7, a8⟩ := id KL); (obtain ⟨d0, d1, d2, d3, d4⟩ := id KD); (obtain ⟨k0, k1, k2, k3, k4, k5, k6⟩ := id KB)
        (try go_wp2_with fail)
        refine hK.out _ _ ?_ (fun hHeld => ?_)
        · exact ⟨a1, a2, a3, a4, d1, d2, k1, k2, k3⟩
        clear hK K
        (try simp only [Act.put, List.setIfInBounds_toArray, List.set_cons_zero, List.set_cons_succ])
        refine wpAnyH_ready (rs := [9]) (by kernel_rfl) (by simp) ?_
        refine (AllReadyH.cons (by rw [List.getElem?_toArray]; rfl) (fun K hK => ?_) AllReadyH.nil)
        go_simp
        refine (l6DrawCount_any B0 p h _ cc).mono ?_; rintro e vx ⟨tt, rfl, nc, bb⟩; (clear a0 a1 a2 a3 a4 a5 a6 a7 a8 d0 d1 d2 d3 d4 k0 k1 k2 k3 k4 k5 k6); (replace cc := nc); (clear nc); (replace RL := RL.but bb h0p); (replace RD := RD.but bb h1p); (replace RP := RP.but bb h2p); (replace KB := KB.but bb hkp); (replace KD := KD.but bb hdp); (replace KL := KL.but bb hlp); (replace OW := own_butK OW bb hpo); (replace B := B.trans (bb.below hwp B.size)); (clear bb); (obtain ⟨r0, r1, r2, r3, r4, r5, r6, r7, r8⟩ := id RL); (obtain ⟨t0, t1, t2, t3, t4⟩ := id RD); (obtain ⟨u0, u1, u2, u3, u4, u5, u6⟩ := id RP); (obtain ⟨a0, a1, a2, a3, a4, a5, a6, a7, a8⟩ := id KL); (obtain ⟨d0, d1, d2, d3, d4⟩ := id KD); (obtain ⟨k0, k1, k2, k3, k4, k5, k6⟩ := id KB)
        (try go_wp2_with fail)
        refine hK.out _ _ ?_ (fun hHeld => ?_)
        · exact ⟨a1, a2, a3, a4, d1, d2, k1, k2, k3⟩
        clear hK K
        (try simp only [Act.put, List.setIfInBounds_toArray, List.set_cons_zero, List.set_cons_succ])
        refine wpAnyH_ready (rs := [11]) (by kernel_rfl) (by simp) ?_
        refine (AllReadyH.cons (by rw [List.getElem?_toArray]; rfl) (fun K hK => ?_) AllReadyH.nil)
        go_simp
        (clear a0 a1 a2 a3 a4 a5 a6 a7 a8 d0 d1 d2 d3 d4 k0 k1 k2 k3 k4 k5 k6); (clear r0 r1 r2 r3 r4 r5 r6 r7 r8 t0 t1 t2 t3 t4 u0 u1 u2 u3 u4 u5 u6); (replace RL := RL.set kn lo hi h); (replace RD := ((((RD.setO n01 0 (.bool kn)).setO n01 1 (.int .i64 lo)).setO n01 2 (.int .i64 hi)).setO n01 3 (.int .i64 h))); (replace RP := ((((RP.setO n02 0 (.bool kn)).setO n02 1 (.int .i64 lo)).setO n02 2 (.int .i64 hi)).setO n02 3 (.int .i64 h))); (replace KB := ((((KB.setO n0k 0 (.bool kn)).setO n0k 1 (.int .i64 lo)).setO n0k 2 (.int .i64 hi)).setO n0k 3 (.int .i64 h))); (replace KD := ((((KD.setO n0d 0 (.bool kn)).setO n0d 1 (.int .i64 lo)).setO n0d 2 (.int .i64 hi)).setO n0d 3 (.int .i64 h))); (replace KL := ((((KL.setO n0l 0 (.bool kn)).setO n0l 1 (.int .i64 lo)).setO n0l 2 (.int .i64 hi)).setO n0l 3 (.int .i64 h))); (replace OW := own_butK OW (((((But.refl w.heap.size vx).setCell 0 (.bool kn)).setCell 1 (.int .i64 lo)).setCell 2 (.int .i64 hi)).setCell 3 (.int .i64 h)) h0b); (replace B := ((((B.setCell (p := ⟨w.heap.size, 0, none⟩) h0w (.bool kn)).setCell (p := ⟨w.heap.size, 1, none⟩) h0w (.int .i64 lo)).setCell (p := ⟨w.heap.size, 2, none⟩) h0w (.int .i64 hi)).setCell (p := ⟨w.heap.size, 3, none⟩) h0w (.int .i64 h))); (clear cc); (unfold setL at RL); (generalize ((((vx.setCell ⟨w.heap.size, 0, none⟩ (.bool kn)).setCell ⟨w.heap.size, 1, none⟩ (.int .i64 lo)).setCell ⟨w.heap.size, 2, none⟩ (.int .i64 hi)).setCell ⟨w.heap.size, 3, none⟩ (.int .i64 h)) = vx at *); (obtain ⟨r0, r1, r2, r3, r4, r5, r6, r7, r8⟩ := id RL); (obtain ⟨t0, t1, t2, t3, t4⟩ := id RD); (obtain ⟨u0, u1, u2, u3, u4, u5, u6⟩ := id RP); (obtain ⟨a0, a1, a2, a3, a4, a5, a6, a7, a8⟩ := id KL); (obtain ⟨d0, d1, d2, d3, d4⟩ := id KD); (obtain ⟨k0, k1, k2, k3, k4, k5, k6⟩ := id KB)
        refine hK.out _ _ ?_ (fun hHeld => ?_)
        · exact ⟨a1, a2, a3, a4, d1, d2, k1, k2, k3⟩
        clear hK K
        (try simp only [Act.put, List.setIfInBounds_toArray, List.set_cons_zero, List.set_cons_succ])
        refine wpAnyH_ready (rs := [12]) (by kernel_rfl) (by simp) ?_
        refine (AllReadyH.cons (by rw [List.getElem?_toArray]; rfl) (fun K hK => ?_) AllReadyH.nil)
        go_simp
        (clear a0 a1 a2 a3 a4 a5 a6 a7 a8 d0 d1 d2 d3 d4 k0 k1 k2 k3 k4 k5 k6); (clear r0 r1 r2 r3 r4 r5 r6 r7 r8 t0 t1 t2 t3 t4 u0 u1 u2 u3 u4 u5 u6); (replace RD := ((RD.set0 (.int .i64 n)).set1 (.int .i64 d))); (replace RL := ((RL.setO n10 0 (.int .i64 n)).setO n10 1 (.int .i64 d))); (replace RP := ((RP.setO n12 0 (.int .i64 n)).setO n12 1 (.int .i64 d))); (replace KB := ((KB.setO n1k 0 (.int .i64 n)).setO n1k 1 (.int .i64 d))); (replace KD := ((KD.setO n1d 0 (.int .i64 n)).setO n1d 1 (.int .i64 d))); (replace KL := ((KL.setO n1l 0 (.int .i64 n)).setO n1l 1 (.int .i64 d))); (replace OW := own_butK OW (((But.refl j1 vx).setCell 0 (.int .i64 n)).setCell 1 (.int .i64 d)) h1b); (replace B := ((B.setCell (p := ⟨j1, 0, none⟩) h1w (.int .i64 n)).setCell (p := ⟨j1, 1, none⟩) h1w (.int .i64 d))); (generalize ((vx.setCell ⟨j1, 0, none⟩ (.int .i64 n)).setCell ⟨j1, 1, none⟩ (.int .i64 d)) = vx at *); (obtain ⟨r0, r1, r2, r3, r4, r5, r6, r7, r8⟩ := id RL); (obtain ⟨t0, t1, t2, t3, t4⟩ := id RD); (obtain ⟨u0, u1, u2, u3, u4, u5, u6⟩ := id RP); (obtain ⟨a0, a1, a2, a3, a4, a5, a6, a7, a8⟩ := id KL); (obtain ⟨d0, d1, d2, d3, d4⟩ := id KD); (obtain ⟨k0, k1, k2, k3, k4, k5, k6⟩ := id KB)
        refine hK.out _ _ ?_ (fun hHeld => ?_)
        · exact ⟨a1, a2, a3, a4, d1, d2, k1, k2, k3⟩
        clear hK K
        (try simp only [Act.put, List.setIfInBounds_toArray, List.set_cons_zero, List.set_cons_succ])
        refine wpAnyH_take (i := 13) (v := ?_) (by rw [List.getElem?_toArray]; rfl) (by kernel_rfl) (by kernel_rfl) (by kernel_rfl) (by intro _ _ _ h; exact h) (Or.inl ⟨by rfl, ?_⟩) (by assumption) ?_
        rotate_left
        · (intro w hSw; (try dsimp only at hSw); go_simp; all_goals with_reducible rfl)
        (try simp only [Act.put, List.setIfInBounds_toArray, List.set_cons_zero, List.set_cons_succ])
        refine wpAnyH_ready (rs := [14]) (by kernel_rfl) (by simp) ?_
        refine (AllReadyH.cons (by rw [List.getElem?_toArray]; rfl) (fun K hK => ?_) AllReadyH.nil)
        go_simp
        (clear a0 a1 a2 a3 a4 a5 a6 a7 a8 d0 d1 d2 d3 d4 k0 k1 k2 k3 k4 k5 k6); (clear r0 r1 r2 r3 r4 r5 r6 r7 r8 t0 t1 t2 t3 t4 u0 u1 u2 u3 u4 u5 u6); (replace RP := (((RP.set0 (.int .i64 s)).set1 (.int .i64 g)).set2 (.slice A m c))); (replace RL := (((RL.setO n20 0 (.int .i64 s)).setO n20 1 (.int .i64 g)).setO n20 2 (.slice A m c))); (replace RD := (((RD.setO n21 0 (.int .i64 s)).setO n21 1 (.int .i64 g)).setO n21 2 (.slice A m c))); (replace KB := (((KB.setO n2k 0 (.int .i64 s)).setO n2k 1 (.int .i64 g)).setO n2k 2 (.slice A m c))); (replace KD := (((KD.setO n2d 0 (.int .i64 s)).setO n2d 1 (.int .i64 g)).setO n2d 2 (.slice A m c))); (replace KL := (((KL.setO n2l 0 (.int .i64 s)).setO n2l 1 (.int .i64 g)).setO n2l 2 (.slice A m c))); (replace OW := own_butK OW ((((But.refl j2 vx).setCell 0 (.int .i64 s)).setCell 1 (.int .i64 g)).setCell 2 (.slice A m c)) h2b); (replace B := (((B.setCell (p := ⟨j2, 0, none⟩) h2w (.int .i64 s)).setCell (p := ⟨j2, 1, none⟩) h2w (.int .i64 g)).setCell (p := ⟨j2, 2, none⟩) h2w (.slice A m c))); (generalize (((vx.setCell ⟨j2, 0, none⟩ (.int .i64 s)).setCell ⟨j2, 1, none⟩ (.int .i64 g)).setCell ⟨j2, 2, none⟩ (.slice A m c)) = vx at *); (obtain ⟨r0, r1, r2, r3, r4, r5, r6, r7, r8⟩ := id RL); (obtain ⟨t0, t1, t2, t3, t4⟩ := id RD); (obtain ⟨u0, u1, u2, u3, u4, u5, u6⟩ := id RP); (obtain ⟨a0, a1, a2, a3, a4, a5, a6, a7, a8⟩ := id KL); (obtain ⟨d0, d1, d2, d3, d4⟩ := id KD); (obtain ⟨k0, k1, k2, k3, k4, k5, k6⟩ := id KB)
        refine hK.out _ _ ?_ (fun hHeld => ?_)
        · exact ⟨a1, a2, a3, a4, d1, d2, k1, k2, k3⟩
        clear hK K
        (try simp only [Act.put, List.setIfInBounds_toArray, List.set_cons_zero, List.set_cons_succ])
        refine wpAnyH_take (i := 15) (v := ?_) (by rw [List.getElem?_toArray]; rfl) (by kernel_rfl) (by kernel_rfl) (by kernel_rfl) (by intro _ _ _ h; exact h) (Or.inl ⟨by rfl, ?_⟩) (by assumption) ?_
        rotate_left
        · (intro w hSw; (try dsimp only at hSw); go_simp; all_goals with_reducible rfl)
        (try simp only [Act.put, List.setIfInBounds_toArray, List.set_cons_zero, List.set_cons_succ])
        refine wpAnyH_take (i := 16) (v := ?_) (by rw [List.getElem?_toArray]; rfl) (by kernel_rfl) (by kernel_rfl) (by kernel_rfl) (by intro _ _ _ h; exact h) (Or.inl ⟨by rfl, ?_⟩) (by assumption) ?_
        rotate_left
        · (intro w hSw; (try dsimp only at hSw); go_simp; all_goals with_reducible rfl)
        (try simp only [Act.put, List.setIfInBounds_toArray, List.set_cons_zero, List.set_cons_succ])
        refine wpAnyH_take (i := 17) (v := ?_) (by rw [List.getElem?_toArray]; rfl) (by kernel_rfl) (by kernel_rfl) (by kernel_rfl) (by intro _ _ _ h; exact h) (Or.inl ⟨by rfl, ?_⟩) (by assumption) ?_
        rotate_left
        · (intro w hSw; (try dsimp only at hSw); go_simp; all_goals with_reducible rfl)
        (try simp only [Act.put, List.setIfInBounds_toArray, List.set_cons_zero, List.set_cons_succ])
        refine wpAnyH_done (by kernel_rfl) ?_ _
        go_wp2_with fail
        exact bodyPost_ret (v := (.tuple #[.agg #[.bool kn, .int .i64 lo, .int .i64 hi, .int .i64 h], .agg #[.int .i64 n, .int .i64 d], .int .i64 x, .agg #[.int .i64 s, .int .i64 g, .slice A m c], .int .i64 ow, .int .i64 tt, .int .i64 yy])) (by simp (maxDischargeDepth := 6) [results, Tryz.results5, go_sem, *]) rfl ⟨kn, lo, hi, h, n, d, x, s, g, A, m, c, M, ow, tt, yy, rfl, hm13, own_baseI OW hwo, B⟩
end Go.Proofs.YtcakhfobkbgfoaaGreatDoor
namespace Go.Proofs.YtcakhfobkbgfoaaGreatDoor
open Go.RowKit
set_option linter.unusedVariables false
theorem tm_in5 {x k : Int} (h0 : 0 ≤ x) (hk : 0 < k) : 0 ≤ x.tmod k ∧ x.tmod k < k := by
  rw [Int.tmod_eq_emod_of_nonneg h0]
  exact ⟨Int.emod_nonneg _ (by omega), Int.emod_lt_of_pos _ hk⟩
/- What a wait is told for: the first count at which the gate goes. -/
theorem gw_parts {kn : Bool} {lo hi h n d x s g : Int} {M : Nat → SlT} {m : Nat} {o t y : Int} (e : gwB kn lo hi h n d x s g M m o t y = true) :
    ∃ j : Nat, gwI kn lo hi h n d x s g M m o t y = (j : Int) ∧ j ≤ 400 ∧ okT t = true ∧ gwP kn lo hi h n d x s g M m o t j = true ∧ ∀ i, i < j → gwP kn lo hi h n d x s g M m o t i = false := by
  have e' := e
  unfold gwB gwG at e'
  simp only [Bool.and_eq_true, decide_eq_true_eq] at e'
  obtain ⟨⟨e1, e2⟩, e3⟩ := e'
  refine ⟨fnd (gwP kn lo hi h n d x s g M m o t) (y.toNat + 1), by unfold gwI; rw [e], by omega, e2, fnd_so e3, fun i hi => fnd_not hi⟩
theorem gwP_t {kn : Bool} {lo hi h n d x s g : Int} {M : Nat → SlT} {m : Nat} {o t : Int} {j : Nat} (e : gwP kn lo hi h n d x s g M m o t j = true) : crC kn lo hi h n d (t + (j : Int)) = 0 ∧ gaC true (crL kn lo hi h n d (t + (j : Int))) (crH kn lo hi h n d (t + (j : Int))) n d x s g M m o = 0 := by
  unfold gwP at e
  simp only [Bool.and_eq_true, beq_iff_eq] at e
  exact e
theorem gaC_go {kn : Bool} {lo hi n d x s g : Int} {M : Nat → SlT} {m : Nat} {o : Int} (e : gaC kn lo hi n d x s g M m o = 0) : gaG kn lo hi n d x s g M m o = true := by
  cases hG : gaG kn lo hi n d x s g M m o
  · cases hP : gaP kn lo hi n d x (plB s g M m) o
    · rw [(ga_bad hP).1] at e; exact absurd e (by decide)
    · rw [(ga_un hP hG).1] at e; exact absurd e (by decide)
  · rfl
set_option maxRecDepth 100000 in
set_option maxHeartbeats 16000000 in
theorem walkBudget (a0 : Option Addr) (l0 c0 : Nat) (w : World) (E : EA w) (hcode : CodeB w w.heap.size a0 l0) :
    Calls Tryz.prog 3 #[.slice a0 l0 c0] w fun e w' => e = .returned (.bool true) ∧ Below w.heap.size w w' := by
  have HC : Hid (CodeB w w.heap.size a0 l0) := hcode
  clear hcode
  go_enter Tryz.func3, Tryz.ntmps3
  go_wp2_with fail
  refine (big_any _ _ _ _).mono ?_
  rintro e w' ⟨rfl, rfl⟩
  by_cases hbg : 1048576 < (l0 : Int)
  · have hbd : decide (1048576 < (l0 : Int)) = true := decide_eq_true hbg
    go_wp2
    go_ret
    exact ⟨rfl, Below.refl _ _⟩
  have hbd : decide (1048576 < (l0 : Int)) = false := decide_eq_false hbg
  have hl0 : l0 ≤ 1048576 := by omega
  have CAT : ∀ (v : World), Below w.heap.size w v → ∀ i : Nat, i ≤ 1000 → Calls Tryz.prog 13 #[.slice a0 l0 c0, .int .i64 (i : Int)] v fun e w' => ∃ x : Int, e = .returned (.int .i64 x) ∧ 0 ≤ x ∧ x ≤ 255 ∧ v = w' := fun v hv i hi => at_any a0 l0 c0 i w.heap.size v hl0 hi (HC.out.below hv)
  go_wp2_with fail
  refine (DrawGateWait_any a0 l0 c0 w hl0 HC.out).mono ?_
  rintro e v ⟨kn, lo, hi, h, n, d, x, s, g, A, m, c, M, o, t, y, rfl, hm13, OW, B⟩
  clear hbd hbg HC hl0
  have hmn : m ≤ maxLen := by unfold maxLen; omega
  have A0 := Below.nw v (.cells #[.bool kn, .int .i64 lo, .int .i64 hi, .int .i64 h] 27)
  have A1 := Below.nw (v.alloc (.cells #[.bool kn, .int .i64 lo, .int .i64 hi, .int .i64 h] 27)) (.cells #[.int .i64 n, .int .i64 d] 29)
  have A2 := Below.nw ((v.alloc (.cells #[.bool kn, .int .i64 lo, .int .i64 hi, .int .i64 h] 27)).alloc (.cells #[.int .i64 n, .int .i64 d] 29)) (.cells #[.int .i64 s, .int .i64 g, .slice A m c] 32)
  have K := ((BoxL.new v kn lo hi h 27).below A1).below A2
  have D := (Bx2.new (v.alloc (.cells #[.bool kn, .int .i64 lo, .int .i64 hi, .int .i64 h] 27)) (.int .i64 n) (.int .i64 d) 29).below A2
  have N := Tx3.new ((v.alloc (.cells #[.bool kn, .int .i64 lo, .int .i64 hi, .int .i64 h] 27)).alloc (.cells #[.int .i64 n, .int .i64 d] 29)) (.int .i64 s) (.int .i64 g) (.slice A m c) 32
  have NL := (A0.trans (A1.mono A0.size)).trans (A2.mono (A0.trans (A1.mono A0.size)).size)
  simp only [World.size_alloc] at D N
  clear A0 A1 A2
  go_upto_region 4 with fail
  replace OW := own_belK' OW NL
  replace B := B.trans (NL.mono B.size)
  clear NL
  generalize ((v.alloc (.cells #[.bool kn, .int .i64 lo, .int .i64 hi, .int .i64 h] 27)).alloc (.cells #[.int .i64 n, .int .i64 d] 29)).alloc (.cells #[.int .i64 s, .int .i64 g, .slice A m c] 32) = v1 at *
  generalize v.heap.size + 1 + 1 = jn at *
  generalize v.heap.size + 1 = jd at *
  generalize v.heap.size = jl at *
  obtain ⟨l0', l1, l2, l3, l4, l5, l6, l7, l8⟩ := id K
  obtain ⟨d0, d1, d2, d3, d4⟩ := id D
  obtain ⟨n0, n1, n2, n3, n4, n5, n6⟩ := id N
  go_wp2_with fail
  refine (implGateWait_any kn lo hi h n d x s g A m c M o t y _ (E.ew.below B) hmn (ownS OW)).mono ?_
  rintro e v2 ⟨rfl, hb⟩
  clear l0' l1 l2 l3 l4 l5 l6 l7 l8
  clear d0 d1 d2 d3 d4
  clear n0 n1 n2 n3 n4 n5 n6
  replace OW := own_belK' OW hb
  replace K := K.below hb
  replace D := D.below hb
  replace N := N.below hb
  replace B := B.trans (hb.mono B.size)
  clear hb
  obtain ⟨l0', l1, l2, l3, l4, l5, l6, l7, l8⟩ := id K
  obtain ⟨d0, d1, d2, d3, d4⟩ := id D
  obtain ⟨n0, n1, n2, n3, n4, n5, n6⟩ := id N
  go_wp2_with fail
  refine (specGateWait_any kn lo hi h n d x s g A m c M o t y _ hmn (ownS OW)).mono ?_
  rintro e v3 ⟨rfl, hb⟩
  clear l0' l1 l2 l3 l4 l5 l6 l7 l8
  clear d0 d1 d2 d3 d4
  clear n0 n1 n2 n3 n4 n5 n6
  replace OW := own_belK' OW hb
  replace K := K.below hb
  replace D := D.below hb
  replace N := N.below hb
  replace B := B.trans (hb.mono B.size)
  clear hb
  cases hW : gwB kn lo hi h n d x s g M m o t y
  · rw [gw_no hW]
    clear hW CAT K D N
    have b1 : bsB 0 1 0 5 4 = true := by decide
    have b2 : bsB 0 1 0 5 5 = false := by decide
    go_wp2_with fail
    refine (implBusyStill_any 0 1 0 5 4 _ (E.em.below B)).mono ?_
    rintro e v4 ⟨rfl, hb⟩
    rw [b1]
    replace B := B.trans (hb.mono B.size)
    clear hb OW
    go_wp2_with fail
    refine (implBusyStill_any 0 1 0 5 5 _ (E.em.below B)).mono ?_
    rintro e v5 ⟨rfl, hb⟩
    rw [b2]
    replace B := B.trans (hb.mono B.size)
    clear hb
    go_wp2_with fail
    go_ret
    exact ⟨rfl, B⟩
  obtain ⟨k, hk, hk4, hokt, hgo, hnot⟩ := gw_parts hW
  obtain ⟨g1, g2⟩ := gwP_t hgo
  have hG := gaC_go g2
  obtain ⟨bd1, bd2⟩ := gate_budget hG
  obtain ⟨-, -, -, -, -, -, -, hokI, -, -⟩ := (gate_truth hG).choose_spec
  have ht : 0 ≤ t ∧ t ≤ 1000000000000 := by unfold okT at hokt; simpa using hokt
  have HNOT : Hid (∀ i, i < k → gwP kn lo hi h n d x s g M m o t i = false) := hnot
  rw [hk]
  have hw1 : IntKind.i64.wrap (t + (k : Int)) = t + (k : Int) := Go.IntWalk.i64_in _ ⟨by omega, by omega⟩
  have CC := fun (j : Nat) w' => specCarryOn_any kn lo hi h n d (t + (j : Int)) w'
  have CCk := CC k
  have CG := fun (X Y : Int) w' hs E => implGateAsk_any true X Y n d x s g A m c M o w' E hmn hs
  have CGk := CG (crL kn lo hi h n d (t + (k : Int))) (crH kn lo hi h n d (t + (k : Int)))
  rw [g1] at CCk
  rw [g2] at CGk
  have CB := fun w' hs (E : EM w') => implGateBudget_any s g A m c M o n d x w' E hmn hs
  rw [bd1] at CB
  have CWd := fun w' => implWide_any (crL kn lo hi h n d (t + (k : Int))) (crH kn lo hi h n d (t + (k : Int))) w'
  rw [wideI_t hokI] at CWd
  have hle : ¬ gbI s g M m o n d x < crH kn lo hi h n d (t + (k : Int)) - crL kn lo hi h n d (t + (k : Int)) := by omega
  clear hW hk hokt hgo hnot g1 g2 hG bd1 bd2 hokI
  generalize gaI true (crL kn lo hi h n d (t + (k : Int))) (crH kn lo hi h n d (t + (k : Int))) n d x s g M m o = gI at *
  generalize gaK true (crL kn lo hi h n d (t + (k : Int))) (crH kn lo hi h n d (t + (k : Int))) n d x s g M m o = gK at *
  generalize gbI s g M m o n d x = bI at *
  generalize crL kn lo hi h n d (t + (k : Int)) = X at *
  generalize crH kn lo hi h n d (t + (k : Int)) = Y at *
  have hq : (true != true) = false := rfl
  obtain ⟨l0', l1, l2, l3, l4, l5, l6, l7, l8⟩ := id K
  obtain ⟨d0, d1, d2, d3, d4⟩ := id D
  go_wp2_with fail
  refine (CCk _).mono ?_
  rintro e v4 ⟨rfl, hb⟩
  clear l0' l1 l2 l3 l4 l5 l6 l7 l8
  clear d0 d1 d2 d3 d4
  replace OW := own_belK' OW hb
  replace K := K.below hb
  replace D := D.below hb
  replace N := N.below hb
  replace B := B.trans (hb.mono B.size)
  clear hb
  have NL := Below.nw v4 (.cells #[.int .i64 X, .int .i64 Y] 25)
  have Z := Bx2.new v4 (.int .i64 X) (.int .i64 Y) 25
  go_upto_region 11 with fail
  replace OW := own_belK' OW NL
  replace K := K.below NL
  replace D := D.below NL
  replace N := N.below NL
  replace B := B.trans (NL.mono B.size)
  clear NL
  generalize v4.alloc (.cells #[.int .i64 X, .int .i64 Y] 25) = v5 at *
  generalize v4.heap.size = jz at *
  clear CCk
  obtain ⟨z0, z1, z2, z3, z4⟩ := id Z
  obtain ⟨d0, d1, d2, d3, d4⟩ := id D
  obtain ⟨n0, n1, n2, n3, n4, n5, n6⟩ := id N
  go_wp2_with fail
  refine (CGk _ (ownS OW) (E.below B)).mono ?_
  rintro e v6 ⟨rfl, hb⟩
  clear z0 z1 z2 z3 z4
  clear d0 d1 d2 d3 d4
  clear n0 n1 n2 n3 n4 n5 n6
  replace OW := own_belK' OW hb
  replace K := K.below hb
  replace D := D.below hb
  replace N := N.below hb
  replace Z := Z.below hb
  replace B := B.trans (hb.mono B.size)
  clear hb
  clear CGk
  obtain ⟨d0, d1, d2, d3, d4⟩ := id D
  obtain ⟨n0, n1, n2, n3, n4, n5, n6⟩ := id N
  go_wp2_with fail
  refine (CB _ (ownS OW) (E.em.below B)).mono ?_
  rintro e v7 ⟨rfl, hb⟩
  clear d0 d1 d2 d3 d4
  clear n0 n1 n2 n3 n4 n5 n6
  replace OW := own_belK' OW hb
  replace K := K.below hb
  replace D := D.below hb
  replace N := N.below hb
  replace Z := Z.below hb
  replace B := B.trans (hb.mono B.size)
  clear hb
  clear CB
  obtain ⟨z0, z1, z2, z3, z4⟩ := id Z
  go_wp2_with fail
  refine (CWd _).mono ?_
  rintro e v8 ⟨rfl, hb⟩
  clear z0 z1 z2 z3 z4
  replace OW := own_belK' OW hb
  replace K := K.below hb
  replace D := D.below hb
  replace N := N.below hb
  replace B := B.trans (hb.mono B.size)
  clear hb
  clear CWd Z
  by_cases hk0 : k = 0
  · subst hk0
    clear HNOT CC CG CAT
    go_wp2_with fail
    go_ret
    exact ⟨rfl, B⟩
  have hkp : (0 : Int) < (k : Int) := by omega
  have hkz : ¬ (k : Int) = 0 := by omega
  have HT : Hid (∀ x1 : Int, 0 ≤ x1 → x1 ≤ 255 → ∃ j' : Nat, j' < k ∧ IntKind.i64.wrap (t + x1.tmod (k : Int)) = t + (j' : Int)) := fun x1 h0 h1 => by
    have := tm_in5 (k := (k : Int)) h0 hkp
    exact ⟨(x1.tmod (k : Int)).toNat, by omega, by rw [Int.toNat_of_nonneg this.1]; exact Go.IntWalk.i64_in _ ⟨by omega, by omega⟩⟩
  have SK : Hid (∀ w', Below v8.heap.size v8 w' → ((fun w' => w'.cell? ⟨jl, 0, none⟩ = some (.bool kn) ∧ w'.cell? ⟨jl, 1, none⟩ = some (.int .i64 lo) ∧ w'.cell? ⟨jl, 2, none⟩ = some (.int .i64 hi) ∧ w'.cell? ⟨jl, 3, none⟩ = some (.int .i64 h) ∧ w'.cell? ⟨jd, 0, none⟩ = some (.int .i64 n) ∧ w'.cell? ⟨jd, 1, none⟩ = some (.int .i64 d))) w') := fun w' hw => ⟨(K.below hw).2.1, (K.below hw).2.2.1, (K.below hw).2.2.2.1, (K.below hw).2.2.2.2.1, (D.below hw).2.1, (D.below hw).2.2.1⟩
  go_upto_region 17 with fail
  go_cut [21, 22] (fun s21 s22 wx => ∃ (jy j' : Nat), s21 = .pointer (some ⟨jy, 0, none⟩) ∧ j' < k ∧ s22 = .int .i64 (crC kn lo hi h n d (t + (j' : Int))) ∧ Bx2 wx jy (.int .i64 (crL kn lo hi h n d (t + (j' : Int)))) (.int .i64 (crH kn lo hi h n d (t + (j' : Int)))) ∧ Below v8.heap.size v8 wx)
  case first => as_aux_lemma =>
    refine wp_region_held_drew (S := (fun w' => w'.cell? ⟨jl, 0, none⟩ = some (.bool kn) ∧ w'.cell? ⟨jl, 1, none⟩ = some (.int .i64 lo) ∧ w'.cell? ⟨jl, 2, none⟩ = some (.int .i64 hi) ∧ w'.cell? ⟨jl, 3, none⟩ = some (.int .i64 h) ∧ w'.cell? ⟨jd, 0, none⟩ = some (.int .i64 n) ∧ w'.cell? ⟨jd, 1, none⟩ = some (.int .i64 d))) (by kernel_rfl) ?_ (fun hHeld => ?_)
    · first | exact SK.out _ XB | exact SK.out _ (Below.drew (Below.refl _ _)) | exact SK.out _ XZ
    have XB : Below v8.heap.size v8 v8.drew := Below.drew (Below.refl _ _)
    generalize v8.drew = vx at *
    refine wpAnyH_take (i := 0) (v := ?_) (by rw [List.getElem?_toArray]; rfl) (by kernel_rfl) (by kernel_rfl) (by kernel_rfl) (by intro _ _ _ h; exact h) (Or.inl ⟨by rfl, ?_⟩) (by assumption) ?_
    rotate_left
    · (intro w hSw; (try dsimp only at hSw); go_simp; all_goals with_reducible rfl)
    (try simp only [Act.put, List.setIfInBounds_toArray, List.set_cons_zero, List.set_cons_succ])
    refine wpAnyH_take (i := 1) (v := ?_) (by rw [List.getElem?_toArray]; rfl) (by kernel_rfl) (by kernel_rfl) (by kernel_rfl) (by intro _ _ _ h; exact h) (Or.inl ⟨by rfl, ?_⟩) (by assumption) ?_
    rotate_left
    · (intro w hSw; (try dsimp only at hSw); go_simp; all_goals with_reducible rfl)
    (try simp only [Act.put, List.setIfInBounds_toArray, List.set_cons_zero, List.set_cons_succ])
    refine wpAnyH_take (i := 2) (v := ?_) (by rw [List.getElem?_toArray]; rfl) (by kernel_rfl) (by kernel_rfl) (by kernel_rfl) (by intro _ _ _ h; exact h) (Or.inl ⟨by rfl, ?_⟩) (by assumption) ?_
    rotate_left
    · (intro w hSw; (try dsimp only at hSw); go_simp; all_goals with_reducible rfl)
    (try simp only [Act.put, List.setIfInBounds_toArray, List.set_cons_zero, List.set_cons_succ])
    refine wpAnyH_take (i := 3) (v := ?_) (by rw [List.getElem?_toArray]; rfl) (by kernel_rfl) (by kernel_rfl) (by kernel_rfl) (by intro _ _ _ h; exact h) (Or.inl ⟨by rfl, ?_⟩) (by assumption) ?_
    rotate_left
    · (intro w hSw; (try dsimp only at hSw); go_simp; all_goals with_reducible rfl)
    (try simp only [Act.put, List.setIfInBounds_toArray, List.set_cons_zero, List.set_cons_succ])
    refine wpAnyH_take (i := 5) (v := ?_) (by rw [List.getElem?_toArray]; rfl) (by kernel_rfl) (by kernel_rfl) (by kernel_rfl) (by intro _ _ _ h; exact h) (Or.inl ⟨by rfl, ?_⟩) (by assumption) ?_
    rotate_left
    · (intro w hSw; (try dsimp only at hSw); go_simp; all_goals with_reducible rfl)
    (try simp only [Act.put, List.setIfInBounds_toArray, List.set_cons_zero, List.set_cons_succ])
    refine wpAnyH_ready (rs := [4, 12]) (by kernel_rfl) (by simp) ?_
    refine (AllReadyH.cons (by rw [List.getElem?_toArray]; rfl) (fun K hK => ?_) (AllReadyH.cons (by rw [List.getElem?_toArray]; rfl) (fun K hK => ?_) AllReadyH.nil))
    · go_simp
      refine (CAT vx (B.trans (XB.mono B.size)) 1 (by decide)).mono ?_; rintro ee vx' ⟨x1, rfl, x1l, x1h, rfl⟩; (obtain ⟨j', hj', hjw⟩ := HT.out x1 x1l x1h)
      (try go_wp2_with fail)
      refine hK.out _ _ ?_ (fun hHeld => ?_)
      · first | exact SK.out _ XB | exact SK.out _ (Below.drew (Below.refl _ _)) | exact SK.out _ XZ
      clear hK K
      (try simp only [Act.put, List.setIfInBounds_toArray, List.set_cons_zero, List.set_cons_succ])
      refine wpAnyH_take (i := 6) (v := ?_) (by rw [List.getElem?_toArray]; rfl) (by kernel_rfl) (by kernel_rfl) (by kernel_rfl) (by intro _ _ _ h; exact h) (Or.inl ⟨by rfl, ?_⟩) (by assumption) ?_
      rotate_left
      · (intro w hSw; (try dsimp only at hSw); go_simp; all_goals with_reducible rfl)
      (try simp only [Act.put, List.setIfInBounds_toArray, List.set_cons_zero, List.set_cons_succ])
      refine wpAnyH_take (i := 7) (v := ?_) (by rw [List.getElem?_toArray]; rfl) (by kernel_rfl) (by kernel_rfl) (by kernel_rfl) (by intro _ _ _ h; exact h) (Or.inl ⟨by rfl, ?_⟩) (by assumption) ?_
      rotate_left
      · (intro w hSw; (try dsimp only at hSw); go_simp; all_goals with_reducible rfl)
      (try simp only [Act.put, List.setIfInBounds_toArray, List.set_cons_zero, List.set_cons_succ])
      refine wpAnyH_ready (rs := [8, 12]) (by kernel_rfl) (by simp) ?_
      refine (AllReadyH.cons (by rw [List.getElem?_toArray]; rfl) (fun K hK => ?_) (AllReadyH.cons (by rw [List.getElem?_toArray]; rfl) (fun K hK => ?_) AllReadyH.nil))
      · go_simp
        (have CCx := CC j'); (generalize hX2 : crL kn lo hi h n d (t + (j' : Int)) = X2 at *); (generalize hY2 : crH kn lo hi h n d (t + (j' : Int)) = Y2 at *); (generalize hC2 : crC kn lo hi h n d (t + (j' : Int)) = C2 at *); (try simp only [hjw]); refine (CCx vx).mono ?_; rintro ee vx ⟨rfl, hbl⟩; (replace XB := XB.trans (hbl.mono XB.size)); (clear hbl)
        (try go_wp2_with fail)
        refine hK.out _ _ ?_ (fun hHeld => ?_)
        · first | exact SK.out _ XB | exact SK.out _ (Below.drew (Below.refl _ _)) | exact SK.out _ XZ
        clear hK K
        (try simp only [Act.put, List.setIfInBounds_toArray, List.set_cons_zero, List.set_cons_succ])
        refine wpAnyH_take (i := 9) (v := ?_) (by rw [List.getElem?_toArray]; rfl) (by kernel_rfl) (by kernel_rfl) (by kernel_rfl) (by intro _ _ _ h; exact h) (Or.inl ⟨by rfl, ?_⟩) (by assumption) ?_
        rotate_left
        · (intro w hSw; (try dsimp only at hSw); go_simp; all_goals with_reducible rfl)
        (try simp only [Act.put, List.setIfInBounds_toArray, List.set_cons_zero, List.set_cons_succ])
        refine wpAnyH_take (i := 10) (v := ?_) (by rw [List.getElem?_toArray]; rfl) (by kernel_rfl) (by kernel_rfl) (by kernel_rfl) (by intro _ _ _ h; exact h) (Or.inl ⟨by rfl, ?_⟩) (by assumption) ?_
        rotate_left
        · (intro w hSw; (try dsimp only at hSw); go_simp; all_goals with_reducible rfl)
        (try simp only [Act.put, List.setIfInBounds_toArray, List.set_cons_zero, List.set_cons_succ])
        refine wpAnyH_take (i := 11) (v := ?_) (by rw [List.getElem?_toArray]; rfl) (by kernel_rfl) (by kernel_rfl) (by kernel_rfl) (by intro _ _ _ h; exact h) (Or.inl ⟨by rfl, ?_⟩) (by assumption) ?_
        rotate_left
        · (intro w hSw; (try dsimp only at hSw); go_simp; all_goals with_reducible rfl)
        (try simp only [Act.put, List.setIfInBounds_toArray, List.set_cons_zero, List.set_cons_succ])
        refine wpAnyH_ready (rs := [12]) (by kernel_rfl) (by simp) ?_
        refine (AllReadyH.cons (by rw [List.getElem?_toArray]; rfl) (fun K hK => ?_) AllReadyH.nil)
        go_simp
        (have Yb := Bx2.new vx (.int .i64 0) (.int .i64 0) 25); (have NL := Below.nw vx (.cells #[.int .i64 0, .int .i64 0] 25)); (have hzv := XB.size); (replace XB := XB.trans (NL.mono XB.size)); (clear NL); (generalize vx.heap.size = jy at *); (generalize vx.alloc (.cells #[.int .i64 0, .int .i64 0] 25) = vx at *); (have XZ := (XB.setCell (p := ⟨jy, 0, none⟩) hzv (.int .i64 X2)).setCell (p := ⟨jy, 1, none⟩) hzv (.int .i64 Y2)); (have YZ := (Yb.set0 (.int .i64 X2)).set1 (.int .i64 Y2)); (obtain ⟨y0, y1, y2, y3, y4⟩ := id Yb)
        refine hK.out _ _ ?_ (fun hHeld => ?_)
        · first | exact SK.out _ XB | exact SK.out _ (Below.drew (Below.refl _ _)) | exact SK.out _ XZ
        clear hK K
        (try simp only [Act.put, List.setIfInBounds_toArray, List.set_cons_zero, List.set_cons_succ])
        refine wpAnyH_ready (rs := [13]) (by kernel_rfl) (by simp) ?_
        refine (AllReadyH.cons (by rw [List.getElem?_toArray]; rfl) (fun K hK => ?_) AllReadyH.nil)
        go_simp
        refine hK.out _ _ ?_ (fun hHeld => ?_)
        · first | exact SK.out _ XB | exact SK.out _ (Below.drew (Below.refl _ _)) | exact SK.out _ XZ
        clear hK K
        (try simp only [Act.put, List.setIfInBounds_toArray, List.set_cons_zero, List.set_cons_succ])
        refine wpAnyH_take (i := 14) (v := ?_) (by rw [List.getElem?_toArray]; rfl) (by kernel_rfl) (by kernel_rfl) (by kernel_rfl) (by intro _ _ _ h; exact h) (Or.inl ⟨by rfl, ?_⟩) (by assumption) ?_
        rotate_left
        · (intro w hSw; (try dsimp only at hSw); go_simp; all_goals with_reducible rfl)
        (try simp only [Act.put, List.setIfInBounds_toArray, List.set_cons_zero, List.set_cons_succ])
        refine wpAnyH_done (by kernel_rfl) ?_ _
        go_wp2_with fail
        go_meet
        case rel => exact ⟨jy, j', rfl, hj', by rw [hC2], by rw [hX2, hY2]; exact YZ, XZ⟩
      · go_simp
        (have Yb := Bx2.new vx (.int .i64 0) (.int .i64 0) 25); (have NL := Below.nw vx (.cells #[.int .i64 0, .int .i64 0] 25)); (have hzv := XB.size); (replace XB := XB.trans (NL.mono XB.size)); (clear NL); (generalize vx.heap.size = jy at *); (generalize vx.alloc (.cells #[.int .i64 0, .int .i64 0] 25) = vx at *)
        refine hK.out _ _ ?_ (fun hHeld => ?_)
        · first | exact SK.out _ XB | exact SK.out _ (Below.drew (Below.refl _ _)) | exact SK.out _ XZ
        clear hK K
        (try simp only [Act.put, List.setIfInBounds_toArray, List.set_cons_zero, List.set_cons_succ])
        refine wpAnyH_ready (rs := [8]) (by kernel_rfl) (by simp) ?_
        refine (AllReadyH.cons (by rw [List.getElem?_toArray]; rfl) (fun K hK => ?_) AllReadyH.nil)
        go_simp
        (have CCx := CC j'); (generalize hX2 : crL kn lo hi h n d (t + (j' : Int)) = X2 at *); (generalize hY2 : crH kn lo hi h n d (t + (j' : Int)) = Y2 at *); (generalize hC2 : crC kn lo hi h n d (t + (j' : Int)) = C2 at *); (try simp only [hjw]); refine (CCx vx).mono ?_; rintro ee vx ⟨rfl, hbl⟩; (replace XB := XB.trans (hbl.mono XB.size)); (replace Yb := Yb.below hbl); (clear hbl); (have XZ := (XB.setCell (p := ⟨jy, 0, none⟩) hzv (.int .i64 X2)).setCell (p := ⟨jy, 1, none⟩) hzv (.int .i64 Y2)); (have YZ := (Yb.set0 (.int .i64 X2)).set1 (.int .i64 Y2)); (obtain ⟨y0, y1, y2, y3, y4⟩ := id Yb)
        (try go_wp2_with fail)
        refine hK.out _ _ ?_ (fun hHeld => ?_)
        · first | exact SK.out _ XB | exact SK.out _ (Below.drew (Below.refl _ _)) | exact SK.out _ XZ
        clear hK K
        (try simp only [Act.put, List.setIfInBounds_toArray, List.set_cons_zero, List.set_cons_succ])
        refine wpAnyH_take (i := 9) (v := ?_) (by rw [List.getElem?_toArray]; rfl) (by kernel_rfl) (by kernel_rfl) (by kernel_rfl) (by intro _ _ _ h; exact h) (Or.inl ⟨by rfl, ?_⟩) (by assumption) ?_
        rotate_left
        · (intro w hSw; (try dsimp only at hSw); go_simp; all_goals with_reducible rfl)
        (try simp only [Act.put, List.setIfInBounds_toArray, List.set_cons_zero, List.set_cons_succ])
        refine wpAnyH_take (i := 10) (v := ?_) (by rw [List.getElem?_toArray]; rfl) (by kernel_rfl) (by kernel_rfl) (by kernel_rfl) (by intro _ _ _ h; exact h) (Or.inl ⟨by rfl, ?_⟩) (by assumption) ?_
        rotate_left
        · (intro w hSw; (try dsimp only at hSw); go_simp; all_goals with_reducible rfl)
        (try simp only [Act.put, List.setIfInBounds_toArray, List.set_cons_zero, List.set_cons_succ])
        refine wpAnyH_take (i := 11) (v := ?_) (by rw [List.getElem?_toArray]; rfl) (by kernel_rfl) (by kernel_rfl) (by kernel_rfl) (by intro _ _ _ h; exact h) (Or.inl ⟨by rfl, ?_⟩) (by assumption) ?_
        rotate_left
        · (intro w hSw; (try dsimp only at hSw); go_simp; all_goals with_reducible rfl)
        (try simp only [Act.put, List.setIfInBounds_toArray, List.set_cons_zero, List.set_cons_succ])
        refine wpAnyH_ready (rs := [13]) (by kernel_rfl) (by simp) ?_
        refine (AllReadyH.cons (by rw [List.getElem?_toArray]; rfl) (fun K hK => ?_) AllReadyH.nil)
        go_simp
        refine hK.out _ _ ?_ (fun hHeld => ?_)
        · first | exact SK.out _ XB | exact SK.out _ (Below.drew (Below.refl _ _)) | exact SK.out _ XZ
        clear hK K
        (try simp only [Act.put, List.setIfInBounds_toArray, List.set_cons_zero, List.set_cons_succ])
        refine wpAnyH_take (i := 14) (v := ?_) (by rw [List.getElem?_toArray]; rfl) (by kernel_rfl) (by kernel_rfl) (by kernel_rfl) (by intro _ _ _ h; exact h) (Or.inl ⟨by rfl, ?_⟩) (by assumption) ?_
        rotate_left
        · (intro w hSw; (try dsimp only at hSw); go_simp; all_goals with_reducible rfl)
        (try simp only [Act.put, List.setIfInBounds_toArray, List.set_cons_zero, List.set_cons_succ])
        refine wpAnyH_done (by kernel_rfl) ?_ _
        go_wp2_with fail
        go_meet
        case rel => exact ⟨jy, j', rfl, hj', by rw [hC2], by rw [hX2, hY2]; exact YZ, XZ⟩
    · go_simp
      (have Yb := Bx2.new vx (.int .i64 0) (.int .i64 0) 25); (have NL := Below.nw vx (.cells #[.int .i64 0, .int .i64 0] 25)); (have hzv := XB.size); (replace XB := XB.trans (NL.mono XB.size)); (clear NL); (generalize vx.heap.size = jy at *); (generalize vx.alloc (.cells #[.int .i64 0, .int .i64 0] 25) = vx at *)
      refine hK.out _ _ ?_ (fun hHeld => ?_)
      · first | exact SK.out _ XB | exact SK.out _ (Below.drew (Below.refl _ _)) | exact SK.out _ XZ
      clear hK K
      (try simp only [Act.put, List.setIfInBounds_toArray, List.set_cons_zero, List.set_cons_succ])
      refine wpAnyH_ready (rs := [4]) (by kernel_rfl) (by simp) ?_
      refine (AllReadyH.cons (by rw [List.getElem?_toArray]; rfl) (fun K hK => ?_) AllReadyH.nil)
      go_simp
      refine (CAT vx (B.trans (XB.mono B.size)) 1 (by decide)).mono ?_; rintro ee vx' ⟨x1, rfl, x1l, x1h, rfl⟩; (obtain ⟨j', hj', hjw⟩ := HT.out x1 x1l x1h)
      (try go_wp2_with fail)
      refine hK.out _ _ ?_ (fun hHeld => ?_)
      · first | exact SK.out _ XB | exact SK.out _ (Below.drew (Below.refl _ _)) | exact SK.out _ XZ
      clear hK K
      (try simp only [Act.put, List.setIfInBounds_toArray, List.set_cons_zero, List.set_cons_succ])
      refine wpAnyH_take (i := 6) (v := ?_) (by rw [List.getElem?_toArray]; rfl) (by kernel_rfl) (by kernel_rfl) (by kernel_rfl) (by intro _ _ _ h; exact h) (Or.inl ⟨by rfl, ?_⟩) (by assumption) ?_
      rotate_left
      · (intro w hSw; (try dsimp only at hSw); go_simp; all_goals with_reducible rfl)
      (try simp only [Act.put, List.setIfInBounds_toArray, List.set_cons_zero, List.set_cons_succ])
      refine wpAnyH_take (i := 7) (v := ?_) (by rw [List.getElem?_toArray]; rfl) (by kernel_rfl) (by kernel_rfl) (by kernel_rfl) (by intro _ _ _ h; exact h) (Or.inl ⟨by rfl, ?_⟩) (by assumption) ?_
      rotate_left
      · (intro w hSw; (try dsimp only at hSw); go_simp; all_goals with_reducible rfl)
      (try simp only [Act.put, List.setIfInBounds_toArray, List.set_cons_zero, List.set_cons_succ])
      refine wpAnyH_ready (rs := [8]) (by kernel_rfl) (by simp) ?_
      refine (AllReadyH.cons (by rw [List.getElem?_toArray]; rfl) (fun K hK => ?_) AllReadyH.nil)
      go_simp
      (have CCx := CC j'); (generalize hX2 : crL kn lo hi h n d (t + (j' : Int)) = X2 at *); (generalize hY2 : crH kn lo hi h n d (t + (j' : Int)) = Y2 at *); (generalize hC2 : crC kn lo hi h n d (t + (j' : Int)) = C2 at *); (try simp only [hjw]); refine (CCx vx).mono ?_; rintro ee vx ⟨rfl, hbl⟩; (replace XB := XB.trans (hbl.mono XB.size)); (replace Yb := Yb.below hbl); (clear hbl); (have XZ := (XB.setCell (p := ⟨jy, 0, none⟩) hzv (.int .i64 X2)).setCell (p := ⟨jy, 1, none⟩) hzv (.int .i64 Y2)); (have YZ := (Yb.set0 (.int .i64 X2)).set1 (.int .i64 Y2)); (obtain ⟨y0, y1, y2, y3, y4⟩ := id Yb)
      (try go_wp2_with fail)
      refine hK.out _ _ ?_ (fun hHeld => ?_)
      · first | exact SK.out _ XB | exact SK.out _ (Below.drew (Below.refl _ _)) | exact SK.out _ XZ
      clear hK K
      (try simp only [Act.put, List.setIfInBounds_toArray, List.set_cons_zero, List.set_cons_succ])
      refine wpAnyH_take (i := 9) (v := ?_) (by rw [List.getElem?_toArray]; rfl) (by kernel_rfl) (by kernel_rfl) (by kernel_rfl) (by intro _ _ _ h; exact h) (Or.inl ⟨by rfl, ?_⟩) (by assumption) ?_
      rotate_left
      · (intro w hSw; (try dsimp only at hSw); go_simp; all_goals with_reducible rfl)
      (try simp only [Act.put, List.setIfInBounds_toArray, List.set_cons_zero, List.set_cons_succ])
      refine wpAnyH_take (i := 10) (v := ?_) (by rw [List.getElem?_toArray]; rfl) (by kernel_rfl) (by kernel_rfl) (by kernel_rfl) (by intro _ _ _ h; exact h) (Or.inl ⟨by rfl, ?_⟩) (by assumption) ?_
      rotate_left
      · (intro w hSw; (try dsimp only at hSw); go_simp; all_goals with_reducible rfl)
      (try simp only [Act.put, List.setIfInBounds_toArray, List.set_cons_zero, List.set_cons_succ])
      refine wpAnyH_take (i := 11) (v := ?_) (by rw [List.getElem?_toArray]; rfl) (by kernel_rfl) (by kernel_rfl) (by kernel_rfl) (by intro _ _ _ h; exact h) (Or.inl ⟨by rfl, ?_⟩) (by assumption) ?_
      rotate_left
      · (intro w hSw; (try dsimp only at hSw); go_simp; all_goals with_reducible rfl)
      (try simp only [Act.put, List.setIfInBounds_toArray, List.set_cons_zero, List.set_cons_succ])
      refine wpAnyH_ready (rs := [13]) (by kernel_rfl) (by simp) ?_
      refine (AllReadyH.cons (by rw [List.getElem?_toArray]; rfl) (fun K hK => ?_) AllReadyH.nil)
      go_simp
      refine hK.out _ _ ?_ (fun hHeld => ?_)
      · first | exact SK.out _ XB | exact SK.out _ (Below.drew (Below.refl _ _)) | exact SK.out _ XZ
      clear hK K
      (try simp only [Act.put, List.setIfInBounds_toArray, List.set_cons_zero, List.set_cons_succ])
      refine wpAnyH_take (i := 14) (v := ?_) (by rw [List.getElem?_toArray]; rfl) (by kernel_rfl) (by kernel_rfl) (by kernel_rfl) (by intro _ _ _ h; exact h) (Or.inl ⟨by rfl, ?_⟩) (by assumption) ?_
      rotate_left
      · (intro w hSw; (try dsimp only at hSw); go_simp; all_goals with_reducible rfl)
      (try simp only [Act.put, List.setIfInBounds_toArray, List.set_cons_zero, List.set_cons_succ])
      refine wpAnyH_done (by kernel_rfl) ?_ _
      go_wp2_with fail
      go_meet
      case rel => exact ⟨jy, j', rfl, hj', by rw [hC2], by rw [hX2, hY2]; exact YZ, XZ⟩
  case rest =>
    obtain ⟨jy, j', rfl, hj', rfl, Yb, XB⟩ := hcut
    replace OW := own_belK' OW XB
    replace D := D.below XB
    replace N := N.below XB
    replace B := B.trans (XB.mono B.size)
    clear XB
    clear SK K CC CAT HT
    have hn := HNOT.out j' hj'
    have CG2 := CG (crL kn lo hi h n d (t + (j' : Int))) (crH kn lo hi h n d (t + (j' : Int)))
    have HN : Hid (crC kn lo hi h n d (t + (j' : Int)) = 0 → gaC true (crL kn lo hi h n d (t + (j' : Int))) (crH kn lo hi h n d (t + (j' : Int))) n d x s g M m o = 0 → False) := fun q1 q2 => by
      have : gwP kn lo hi h n d x s g M m o t j' = true := by unfold gwP; rw [q1, q2]; rfl
      rw [this] at hn
      exact absurd hn (by decide)
    clear hn HNOT CG
    generalize gaI true (crL kn lo hi h n d (t + (j' : Int))) (crH kn lo hi h n d (t + (j' : Int))) n d x s g M m o = hI at *
    generalize gaK true (crL kn lo hi h n d (t + (j' : Int))) (crH kn lo hi h n d (t + (j' : Int))) n d x s g M m o = hK at *
    generalize gaC true (crL kn lo hi h n d (t + (j' : Int))) (crH kn lo hi h n d (t + (j' : Int))) n d x s g M m o = hC at *
    generalize crC kn lo hi h n d (t + (j' : Int)) = C2 at *
    generalize crL kn lo hi h n d (t + (j' : Int)) = X2 at *
    generalize crH kn lo hi h n d (t + (j' : Int)) = Y2 at *
    generalize wc = w9 at *
    obtain ⟨y0, y1, y2, y3, y4⟩ := id Yb
    obtain ⟨d0, d1, d2, d3, d4⟩ := id D
    obtain ⟨n0, n1, n2, n3, n4, n5, n6⟩ := id N
    go_wp2_with fail
    refine (CG2 _ (ownS OW) (E.below B)).mono ?_
    rintro e v10 ⟨rfl, hb⟩
    clear d0 d1 d2 d3 d4
    clear n0 n1 n2 n3 n4 n5 n6
    clear y0 y1 y2 y3 y4
    replace B := B.trans (hb.mono B.size)
    by_cases q1 : C2 = 0
    · subst q1
      have q2 : ¬ hC = 0 := fun e => HN.out rfl e
      have q3 : (hC != 0) = true := by simpa using q2
      clear HN
      go_wp2_with fail
      go_ret
      exact ⟨by first | rfl | simp [q3], B⟩
    · have q3 : (C2 != 0) = true := by simpa using q1
      clear HN
      go_wp2_with fail
      go_ret
      exact ⟨by first | rfl | simp [q3], B⟩
end Go.Proofs.YtcakhfobkbgfoaaGreatDoor
