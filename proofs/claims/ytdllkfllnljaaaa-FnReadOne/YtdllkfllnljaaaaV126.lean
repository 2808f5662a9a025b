/- The walk of FnReadOne. -/
import Derived.Test.YtdllkfllnljaaaaV122
import Derived.Test.YtdllkfllnljaaaaV125
import Derived.Test.YtdllkfllnljaaaaA134
import Derived.Test.YtdllkfllnljaaaaA137
import Derived.Test.YtdllkfllnljaaaaK1
import Derived.Deep.RegionHeld3
import Derived.WalkKit
import Derived.WalkSpells
import Derived.WalkLawsBesides
import Derived.Deep.RegionHeld
namespace Go.Proofs.Ytdllkfllnljaaaa
open Go.RowKit
set_option linter.unusedVariables false
theorem two_looks (w : World) (X : Int) : Cs (w.alloc (.cells #[.bool true, .int .i64 X, .int .i64 X, .bool true, .int .i64 (X - 1), .int .i64 X] 32)) w.heap.size 0 (2 * 3) (MFLook (twoL X)) := by
  refine ⟨by simp, fun j hj => ?_⟩
  match j, hj with
  | 0, _ => simp; rfl
  | 1, _ => simp; rfl
  | 2, _ => simp; rfl
  | 3, _ => simp; rfl
  | 4, _ => simp; rfl
  | 5, _ => simp; rfl
theorem two_reads (w : World) (X y : Int) : Cs (w.alloc (.cells #[.int .i64 X, .bool false, .int .i64 0, .int .i64 y, .bool false, .int .i64 0] 40)) w.heap.size 0 (2 * 3) (MFReading (twoR X y)) := by
  refine ⟨by simp, fun j hj => ?_⟩
  match j, hj with
  | 0, _ => simp; rfl
  | 1, _ => simp; rfl
  | 2, _ => simp; rfl
  | 3, _ => simp; rfl
  | 4, _ => simp; rfl
  | 5, _ => simp; rfl

set_option maxRecDepth 100000 in
set_option maxHeartbeats 16000000 in
theorem walkReadOne (a0 : Option Addr) (l0 c0 : Nat) (w : World) (hcode : CodeB w w.heap.size a0 l0) :
    Calls Try.prog 4 #[.slice a0 l0 c0] w fun e w' => e = .returned (.bool true) ∧ Below w.heap.size w w' := by
  have HC : Hid (CodeB w w.heap.size a0 l0) := hcode
  clear hcode
  go_enter Try.func4, Try.ntmps4
  go_wp2_with fail
  refine (big_any _ _ _ _).mono ?_
  rintro e w' ⟨rfl, rfl⟩
  by_cases hbg : 1048576 < (l0 : Int)
  · have hbd : decide (1048576 < (l0 : Int)) = true := decide_eq_true hbg
    go_wp2
    go_ret
    exact ⟨rfl, Below.refl _ _⟩
  have hbd : decide (1048576 < (l0 : Int)) = false := decide_eq_false hbg
  have hl0 : l0 ≤ 1048576 := by omega
  go_wp2_with fail
  refine (DrawAppRead_any a0 l0 c0 w hl0 HC.out).mono ?_
  rintro e v ⟨h, l, k, lo, hi, rfl, B⟩
  clear hbd hbg HC hl0
  have A0 := Below.nw v (.cells #[.bool h, .int .i64 l] 25)
  have A1 := Below.nw (v.alloc (.cells #[.bool h, .int .i64 l] 25)) (.cells #[.int .i64 lo, .int .i64 hi] 30)
  have N := (Bx2.new v (.bool h) (.int .i64 l) 25).below A1
  have Q := Bx2.new (v.alloc (.cells #[.bool h, .int .i64 l] 25)) (.int .i64 lo) (.int .i64 hi) 30
  replace B := B.trans ((A0.trans (A1.mono A0.size)).mono B.size)
  simp only [World.size_alloc] at Q
  clear A0 A1
  go_upto_region 4 with fail
  generalize (v.alloc (.cells #[.bool h, .int .i64 l] 25)).alloc (.cells #[.int .i64 lo, .int .i64 hi] 30) = v1 at *
  generalize v.heap.size + 1 = jq at *
  generalize v.heap.size = jn at *
  have CI := fun w' => implAppRead_any h l k lo hi w'
  have CS := fun w' => specAppRead_any h l k lo hi w'
  have CL := fun w' => implAppLag_any h l lo hi w'
  have CH := fun w' => implHolds_any lo hi (arX h l k lo hi) w'
  have hwell := @one_well h l k lo hi
  have hnot := @one_not h l k lo hi
  generalize lgI h l lo hi = lg at *
  generalize holdsI lo hi (arX h l k lo hi) = hd at *
  generalize arX h l k lo hi = X at *
  generalize arD h l k lo hi = D at *
  generalize arC h l k lo hi = C at *
  generalize arH h l k lo hi = H at *
  generalize arL h l k lo hi = T at *
  have HW : Hid ((C != 0) = false → H = true ∧ T = X ∧ (h = true → ¬ X < l) ∧ (D = true → (X != l) = false) ∧ (k = true → (decide (0 < lg) = D) ∧ (D = false → hd = true)) ∧ (-1000000000000 ≤ X ∧ X ≤ 1000000000000)) := hwell
  have HNT : Hid ((C != 0) = true → (X == 0) = true ∧ D = false) := hnot
  clear hwell hnot
  obtain ⟨n0, n1, n2, n3, n4⟩ := id N; obtain ⟨m0, m1, m2, m3, m4⟩ := id Q
  go_wp2_with fail
  refine (CI _).mono ?_
  rintro e v2 ⟨rfl, hb⟩
  clear n0 n1 n2 n3 n4 m0 m1 m2 m3 m4
  replace N := N.below hb
  replace Q := Q.below hb
  replace B := B.trans (hb.mono B.size)
  clear hb
  have NL := Below.nw v2 (.cells #[.bool H, .int .i64 T] 25)
  have ZG := Bx2.new v2 (.bool H) (.int .i64 T) 25
  go_upto_region 5 with fail
  replace N := N.below NL
  replace Q := Q.below NL
  replace B := B.trans (NL.mono B.size)
  clear NL
  generalize v2.alloc (.cells #[.bool H, .int .i64 T] 25) = v3 at *
  generalize v2.heap.size = kg at *
  obtain ⟨n0, n1, n2, n3, n4⟩ := id N; obtain ⟨m0, m1, m2, m3, m4⟩ := id Q
  go_wp2_with fail
  refine (CS _).mono ?_
  rintro e v4 ⟨rfl, hb⟩
  clear n0 n1 n2 n3 n4 m0 m1 m2 m3 m4
  replace N := N.below hb
  replace Q := Q.below hb
  replace ZG := ZG.below hb
  replace B := B.trans (hb.mono B.size)
  clear hb
  have NL := Below.nw v4 (.cells #[.bool H, .int .i64 T] 25)
  have ZS := Bx2.new v4 (.bool H) (.int .i64 T) 25
  go_upto_region 6 with fail
  replace N := N.below NL
  replace Q := Q.below NL
  replace ZG := ZG.below NL
  replace B := B.trans (NL.mono B.size)
  clear NL
  generalize v4.alloc (.cells #[.bool H, .int .i64 T] 25) = v5 at *
  generalize v4.heap.size = ks at *
  clear ZS
  cases hc : (C != 0)
  · obtain ⟨ow1, ow2, ow3, ow4, ow5, hX⟩ := HW.out hc
    subst ow1
    subst ow2
    clear HW HNT
    have hwx : IntKind.i64.wrap (T - 1) = T - 1 := Go.IntWalk.i64_in _ ⟨by omega, by omega⟩
    have hwy : wrap64 (T - 1) = T - 1 := Go.IntWalk.wrap64_in _ ⟨by omega, by omega⟩
    generalize T = X at *
    cases h
    · cases D
      · cases k
        · skip
          clear ow3 ow4 ow5
          obtain ⟨n0, n1, n2, n3, n4⟩ := id N
          obtain ⟨m0, m1, m2, m3, m4⟩ := id Q
          obtain ⟨z0, z1, z2, z3, z4⟩ := id ZG
          go_upto_region 14 with fail
          clear n0 n1 n2 n3 n4 m0 m1 m2 m3 m4
          clear z0 z1 z2 z3 z4 N Q ZG CL CH CI CS
          have NL := Below.nw v5 (.cells #[.bool true, .int .i64 X, .int .i64 X, .bool true, .int .i64 (X - 1), .int .i64 X] 32)
          have TL := two_looks v5 X
          go_upto_region 15 with fail
          replace B := B.trans (NL.mono B.size)
          clear NL
          generalize v5.alloc (.cells #[.bool true, .int .i64 X, .int .i64 X, .bool true, .int .i64 (X - 1), .int .i64 X] 32) = u1 at *
          generalize v5.heap.size = jl at *
          by_cases hlow : X - 1 < -1000000000000
          · go_wp2_with fail
            go_ret
            exact ⟨rfl, B⟩
          have NL := Below.nw u1 (.cells #[.int .i64 X, .bool false, .int .i64 0, .int .i64 X, .bool false, .int .i64 0] 40)
          have TG := two_reads u1 X X
          go_upto_region 18 with fail
          replace B := B.trans (NL.mono B.size)
          replace TL := TL.below NL TL.1
          clear NL
          generalize u1.alloc (.cells #[.int .i64 X, .bool false, .int .i64 0, .int .i64 X, .bool false, .int .i64 0] 40) = u2 at *
          generalize u1.heap.size = jg at *
          have NL := Below.nw u2 (.cells #[.int .i64 X, .bool false, .int .i64 0, .int .i64 (X - 1), .bool false, .int .i64 0] 40)
          have TB := two_reads u2 X (X - 1)
          go_upto_region 19 with fail
          replace B := B.trans (NL.mono B.size)
          replace TL := TL.below NL TL.1
          replace TG := TG.below NL TG.1
          clear NL
          generalize u2.alloc (.cells #[.int .i64 X, .bool false, .int .i64 0, .int .i64 (X - 1), .bool false, .int .i64 0] 40) = u3 at *
          generalize u2.heap.size = jb at *
          have r1 : rkB (twoL X) (twoR X X) 2 2 = true := by rw [two_told (by omega) hX.2 ⟨by omega, by omega⟩, decide_eq_false (by omega)]; rfl
          have r2 : rkB (twoL X) (twoR X (X - 1)) 2 2 = false := by rw [two_told (by omega) hX.2 ⟨by omega, by omega⟩, decide_eq_true (by omega)]; rfl
          go_wp2_with fail
          refine (implReadsOk_any _ _ 2 2 _ _ (twoL X) (twoR X X) _ (by unfold maxLen; omega) (by unfold maxLen; omega) (.inr ⟨_, _, rfl, TL⟩) (.inr ⟨_, _, rfl, TG⟩)).mono ?_
          rintro e u4 ⟨rfl, hb⟩
          rw [r1]
          replace TL := TL.below hb TL.1
          replace TB := TB.below hb TB.1
          replace B := B.trans (hb.mono B.size)
          clear hb r1 TG
          go_wp2_with fail
          refine (implReadsOk_any _ _ 2 2 _ _ (twoL X) (twoR X (X - 1)) _ (by unfold maxLen; omega) (by unfold maxLen; omega) (.inr ⟨_, _, rfl, TL⟩) (.inr ⟨_, _, rfl, TB⟩)).mono ?_
          rintro e u5 ⟨rfl, hb⟩
          rw [r2]
          replace B := B.trans (hb.mono B.size)
          clear hb r2
          go_wp2_with fail
          go_ret
          exact ⟨rfl, B⟩
        · skip
          obtain ⟨qk, qq⟩ := ow5 rfl
          have qo := qq rfl
          rw [qo] at CH
          clear qq
          clear ow3 ow4 ow5
          obtain ⟨n0, n1, n2, n3, n4⟩ := id N
          obtain ⟨m0, m1, m2, m3, m4⟩ := id Q
          obtain ⟨z0, z1, z2, z3, z4⟩ := id ZG
          go_wp2_with fail
          refine (CL _).mono ?_
          rintro e v6 ⟨rfl, hb⟩
          clear n0 n1 n2 n3 n4 m0 m1 m2 m3 m4
          clear z0 z1 z2 z3 z4 CL
          replace N := N.below hb
          replace Q := Q.below hb
          replace ZG := ZG.below hb
          replace B := B.trans (hb.mono B.size)
          clear hb
          obtain ⟨m0, m1, m2, m3, m4⟩ := id Q
          go_wp2_with fail
          refine (CH _).mono ?_
          rintro e v7 ⟨rfl, hb⟩
          clear m0 m1 m2 m3 m4
          replace N := N.below hb
          replace Q := Q.below hb
          replace ZG := ZG.below hb
          replace B := B.trans (hb.mono B.size)
          clear hb
          go_upto_region 14 with fail
          clear N Q ZG CH CI CS
          have NL := Below.nw v7 (.cells #[.bool true, .int .i64 X, .int .i64 X, .bool true, .int .i64 (X - 1), .int .i64 X] 32)
          have TL := two_looks v7 X
          go_upto_region 15 with fail
          replace B := B.trans (NL.mono B.size)
          clear NL
          generalize v7.alloc (.cells #[.bool true, .int .i64 X, .int .i64 X, .bool true, .int .i64 (X - 1), .int .i64 X] 32) = u1 at *
          generalize v7.heap.size = jl at *
          by_cases hlow : X - 1 < -1000000000000
          · go_wp2_with fail
            go_ret
            exact ⟨rfl, B⟩
          have NL := Below.nw u1 (.cells #[.int .i64 X, .bool false, .int .i64 0, .int .i64 X, .bool false, .int .i64 0] 40)
          have TG := two_reads u1 X X
          go_upto_region 18 with fail
          replace B := B.trans (NL.mono B.size)
          replace TL := TL.below NL TL.1
          clear NL
          generalize u1.alloc (.cells #[.int .i64 X, .bool false, .int .i64 0, .int .i64 X, .bool false, .int .i64 0] 40) = u2 at *
          generalize u1.heap.size = jg at *
          have NL := Below.nw u2 (.cells #[.int .i64 X, .bool false, .int .i64 0, .int .i64 (X - 1), .bool false, .int .i64 0] 40)
          have TB := two_reads u2 X (X - 1)
          go_upto_region 19 with fail
          replace B := B.trans (NL.mono B.size)
          replace TL := TL.below NL TL.1
          replace TG := TG.below NL TG.1
          clear NL
          generalize u2.alloc (.cells #[.int .i64 X, .bool false, .int .i64 0, .int .i64 (X - 1), .bool false, .int .i64 0] 40) = u3 at *
          generalize u2.heap.size = jb at *
          have r1 : rkB (twoL X) (twoR X X) 2 2 = true := by rw [two_told (by omega) hX.2 ⟨by omega, by omega⟩, decide_eq_false (by omega)]; rfl
          have r2 : rkB (twoL X) (twoR X (X - 1)) 2 2 = false := by rw [two_told (by omega) hX.2 ⟨by omega, by omega⟩, decide_eq_true (by omega)]; rfl
          go_wp2_with fail
          refine (implReadsOk_any _ _ 2 2 _ _ (twoL X) (twoR X X) _ (by unfold maxLen; omega) (by unfold maxLen; omega) (.inr ⟨_, _, rfl, TL⟩) (.inr ⟨_, _, rfl, TG⟩)).mono ?_
          rintro e u4 ⟨rfl, hb⟩
          rw [r1]
          replace TL := TL.below hb TL.1
          replace TB := TB.below hb TB.1
          replace B := B.trans (hb.mono B.size)
          clear hb r1 TG
          go_wp2_with fail
          refine (implReadsOk_any _ _ 2 2 _ _ (twoL X) (twoR X (X - 1)) _ (by unfold maxLen; omega) (by unfold maxLen; omega) (.inr ⟨_, _, rfl, TL⟩) (.inr ⟨_, _, rfl, TB⟩)).mono ?_
          rintro e u5 ⟨rfl, hb⟩
          rw [r2]
          replace B := B.trans (hb.mono B.size)
          clear hb r2
          go_wp2_with fail
          go_ret
          exact ⟨rfl, B⟩
      · cases k
        · skip
          have qd := ow4 rfl
          clear ow3 ow4 ow5
          obtain ⟨n0, n1, n2, n3, n4⟩ := id N
          obtain ⟨m0, m1, m2, m3, m4⟩ := id Q
          obtain ⟨z0, z1, z2, z3, z4⟩ := id ZG
          go_upto_region 14 with fail
          clear n0 n1 n2 n3 n4 m0 m1 m2 m3 m4
          clear z0 z1 z2 z3 z4 N Q ZG CL CH CI CS
          have NL := Below.nw v5 (.cells #[.bool true, .int .i64 X, .int .i64 X, .bool true, .int .i64 (X - 1), .int .i64 X] 32)
          have TL := two_looks v5 X
          go_upto_region 15 with fail
          replace B := B.trans (NL.mono B.size)
          clear NL
          generalize v5.alloc (.cells #[.bool true, .int .i64 X, .int .i64 X, .bool true, .int .i64 (X - 1), .int .i64 X] 32) = u1 at *
          generalize v5.heap.size = jl at *
          by_cases hlow : X - 1 < -1000000000000
          · go_wp2_with fail
            go_ret
            exact ⟨rfl, B⟩
          have NL := Below.nw u1 (.cells #[.int .i64 X, .bool false, .int .i64 0, .int .i64 X, .bool false, .int .i64 0] 40)
          have TG := two_reads u1 X X
          go_upto_region 18 with fail
          replace B := B.trans (NL.mono B.size)
          replace TL := TL.below NL TL.1
          clear NL
          generalize u1.alloc (.cells #[.int .i64 X, .bool false, .int .i64 0, .int .i64 X, .bool false, .int .i64 0] 40) = u2 at *
          generalize u1.heap.size = jg at *
          have NL := Below.nw u2 (.cells #[.int .i64 X, .bool false, .int .i64 0, .int .i64 (X - 1), .bool false, .int .i64 0] 40)
          have TB := two_reads u2 X (X - 1)
          go_upto_region 19 with fail
          replace B := B.trans (NL.mono B.size)
          replace TL := TL.below NL TL.1
          replace TG := TG.below NL TG.1
          clear NL
          generalize u2.alloc (.cells #[.int .i64 X, .bool false, .int .i64 0, .int .i64 (X - 1), .bool false, .int .i64 0] 40) = u3 at *
          generalize u2.heap.size = jb at *
          have r1 : rkB (twoL X) (twoR X X) 2 2 = true := by rw [two_told (by omega) hX.2 ⟨by omega, by omega⟩, decide_eq_false (by omega)]; rfl
          have r2 : rkB (twoL X) (twoR X (X - 1)) 2 2 = false := by rw [two_told (by omega) hX.2 ⟨by omega, by omega⟩, decide_eq_true (by omega)]; rfl
          go_wp2_with fail
          refine (implReadsOk_any _ _ 2 2 _ _ (twoL X) (twoR X X) _ (by unfold maxLen; omega) (by unfold maxLen; omega) (.inr ⟨_, _, rfl, TL⟩) (.inr ⟨_, _, rfl, TG⟩)).mono ?_
          rintro e u4 ⟨rfl, hb⟩
          rw [r1]
          replace TL := TL.below hb TL.1
          replace TB := TB.below hb TB.1
          replace B := B.trans (hb.mono B.size)
          clear hb r1 TG
          go_wp2_with fail
          refine (implReadsOk_any _ _ 2 2 _ _ (twoL X) (twoR X (X - 1)) _ (by unfold maxLen; omega) (by unfold maxLen; omega) (.inr ⟨_, _, rfl, TL⟩) (.inr ⟨_, _, rfl, TB⟩)).mono ?_
          rintro e u5 ⟨rfl, hb⟩
          rw [r2]
          replace B := B.trans (hb.mono B.size)
          clear hb r2
          go_wp2_with fail
          go_ret
          exact ⟨rfl, B⟩
        · skip
          have qd := ow4 rfl
          obtain ⟨qk, qq⟩ := ow5 rfl
          clear qq
          clear ow3 ow4 ow5
          obtain ⟨n0, n1, n2, n3, n4⟩ := id N
          obtain ⟨m0, m1, m2, m3, m4⟩ := id Q
          obtain ⟨z0, z1, z2, z3, z4⟩ := id ZG
          go_wp2_with fail
          refine (CL _).mono ?_
          rintro e v6 ⟨rfl, hb⟩
          clear n0 n1 n2 n3 n4 m0 m1 m2 m3 m4
          clear z0 z1 z2 z3 z4 CL
          replace N := N.below hb
          replace Q := Q.below hb
          replace ZG := ZG.below hb
          replace B := B.trans (hb.mono B.size)
          clear hb
          go_upto_region 14 with fail
          clear N Q ZG CH CI CS
          have NL := Below.nw v6 (.cells #[.bool true, .int .i64 X, .int .i64 X, .bool true, .int .i64 (X - 1), .int .i64 X] 32)
          have TL := two_looks v6 X
          go_upto_region 15 with fail
          replace B := B.trans (NL.mono B.size)
          clear NL
          generalize v6.alloc (.cells #[.bool true, .int .i64 X, .int .i64 X, .bool true, .int .i64 (X - 1), .int .i64 X] 32) = u1 at *
          generalize v6.heap.size = jl at *
          by_cases hlow : X - 1 < -1000000000000
          · go_wp2_with fail
            go_ret
            exact ⟨rfl, B⟩
          have NL := Below.nw u1 (.cells #[.int .i64 X, .bool false, .int .i64 0, .int .i64 X, .bool false, .int .i64 0] 40)
          have TG := two_reads u1 X X
          go_upto_region 18 with fail
          replace B := B.trans (NL.mono B.size)
          replace TL := TL.below NL TL.1
          clear NL
          generalize u1.alloc (.cells #[.int .i64 X, .bool false, .int .i64 0, .int .i64 X, .bool false, .int .i64 0] 40) = u2 at *
          generalize u1.heap.size = jg at *
          have NL := Below.nw u2 (.cells #[.int .i64 X, .bool false, .int .i64 0, .int .i64 (X - 1), .bool false, .int .i64 0] 40)
          have TB := two_reads u2 X (X - 1)
          go_upto_region 19 with fail
          replace B := B.trans (NL.mono B.size)
          replace TL := TL.below NL TL.1
          replace TG := TG.below NL TG.1
          clear NL
          generalize u2.alloc (.cells #[.int .i64 X, .bool false, .int .i64 0, .int .i64 (X - 1), .bool false, .int .i64 0] 40) = u3 at *
          generalize u2.heap.size = jb at *
          have r1 : rkB (twoL X) (twoR X X) 2 2 = true := by rw [two_told (by omega) hX.2 ⟨by omega, by omega⟩, decide_eq_false (by omega)]; rfl
          have r2 : rkB (twoL X) (twoR X (X - 1)) 2 2 = false := by rw [two_told (by omega) hX.2 ⟨by omega, by omega⟩, decide_eq_true (by omega)]; rfl
          go_wp2_with fail
          refine (implReadsOk_any _ _ 2 2 _ _ (twoL X) (twoR X X) _ (by unfold maxLen; omega) (by unfold maxLen; omega) (.inr ⟨_, _, rfl, TL⟩) (.inr ⟨_, _, rfl, TG⟩)).mono ?_
          rintro e u4 ⟨rfl, hb⟩
          rw [r1]
          replace TL := TL.below hb TL.1
          replace TB := TB.below hb TB.1
          replace B := B.trans (hb.mono B.size)
          clear hb r1 TG
          go_wp2_with fail
          refine (implReadsOk_any _ _ 2 2 _ _ (twoL X) (twoR X (X - 1)) _ (by unfold maxLen; omega) (by unfold maxLen; omega) (.inr ⟨_, _, rfl, TL⟩) (.inr ⟨_, _, rfl, TB⟩)).mono ?_
          rintro e u5 ⟨rfl, hb⟩
          rw [r2]
          replace B := B.trans (hb.mono B.size)
          clear hb r2
          go_wp2_with fail
          go_ret
          exact ⟨rfl, B⟩

    · cases D
      · cases k
        · skip
          have qh := ow3 rfl
          clear ow3 ow4 ow5
          obtain ⟨n0, n1, n2, n3, n4⟩ := id N
          obtain ⟨m0, m1, m2, m3, m4⟩ := id Q
          obtain ⟨z0, z1, z2, z3, z4⟩ := id ZG
          go_upto_region 14 with fail
          clear n0 n1 n2 n3 n4 m0 m1 m2 m3 m4
          clear z0 z1 z2 z3 z4 N Q ZG CL CH CI CS
          have NL := Below.nw v5 (.cells #[.bool true, .int .i64 X, .int .i64 X, .bool true, .int .i64 (X - 1), .int .i64 X] 32)
          have TL := two_looks v5 X
          go_upto_region 15 with fail
          replace B := B.trans (NL.mono B.size)
          clear NL
          generalize v5.alloc (.cells #[.bool true, .int .i64 X, .int .i64 X, .bool true, .int .i64 (X - 1), .int .i64 X] 32) = u1 at *
          generalize v5.heap.size = jl at *
          by_cases hlow : X - 1 < -1000000000000
          · go_wp2_with fail
            go_ret
            exact ⟨rfl, B⟩
          have NL := Below.nw u1 (.cells #[.int .i64 X, .bool false, .int .i64 0, .int .i64 X, .bool false, .int .i64 0] 40)
          have TG := two_reads u1 X X
          go_upto_region 18 with fail
          replace B := B.trans (NL.mono B.size)
          replace TL := TL.below NL TL.1
          clear NL
          generalize u1.alloc (.cells #[.int .i64 X, .bool false, .int .i64 0, .int .i64 X, .bool false, .int .i64 0] 40) = u2 at *
          generalize u1.heap.size = jg at *
          have NL := Below.nw u2 (.cells #[.int .i64 X, .bool false, .int .i64 0, .int .i64 (X - 1), .bool false, .int .i64 0] 40)
          have TB := two_reads u2 X (X - 1)
          go_upto_region 19 with fail
          replace B := B.trans (NL.mono B.size)
          replace TL := TL.below NL TL.1
          replace TG := TG.below NL TG.1
          clear NL
          generalize u2.alloc (.cells #[.int .i64 X, .bool false, .int .i64 0, .int .i64 (X - 1), .bool false, .int .i64 0] 40) = u3 at *
          generalize u2.heap.size = jb at *
          have r1 : rkB (twoL X) (twoR X X) 2 2 = true := by rw [two_told (by omega) hX.2 ⟨by omega, by omega⟩, decide_eq_false (by omega)]; rfl
          have r2 : rkB (twoL X) (twoR X (X - 1)) 2 2 = false := by rw [two_told (by omega) hX.2 ⟨by omega, by omega⟩, decide_eq_true (by omega)]; rfl
          go_wp2_with fail
          refine (implReadsOk_any _ _ 2 2 _ _ (twoL X) (twoR X X) _ (by unfold maxLen; omega) (by unfold maxLen; omega) (.inr ⟨_, _, rfl, TL⟩) (.inr ⟨_, _, rfl, TG⟩)).mono ?_
          rintro e u4 ⟨rfl, hb⟩
          rw [r1]
          replace TL := TL.below hb TL.1
          replace TB := TB.below hb TB.1
          replace B := B.trans (hb.mono B.size)
          clear hb r1 TG
          go_wp2_with fail
          refine (implReadsOk_any _ _ 2 2 _ _ (twoL X) (twoR X (X - 1)) _ (by unfold maxLen; omega) (by unfold maxLen; omega) (.inr ⟨_, _, rfl, TL⟩) (.inr ⟨_, _, rfl, TB⟩)).mono ?_
          rintro e u5 ⟨rfl, hb⟩
          rw [r2]
          replace B := B.trans (hb.mono B.size)
          clear hb r2
          go_wp2_with fail
          go_ret
          exact ⟨rfl, B⟩
        · skip
          have qh := ow3 rfl
          obtain ⟨qk, qq⟩ := ow5 rfl
          have qo := qq rfl
          rw [qo] at CH
          clear qq
          clear ow3 ow4 ow5
          obtain ⟨n0, n1, n2, n3, n4⟩ := id N
          obtain ⟨m0, m1, m2, m3, m4⟩ := id Q
          obtain ⟨z0, z1, z2, z3, z4⟩ := id ZG
          go_wp2_with fail
          refine (CL _).mono ?_
          rintro e v6 ⟨rfl, hb⟩
          clear n0 n1 n2 n3 n4 m0 m1 m2 m3 m4
          clear z0 z1 z2 z3 z4 CL
          replace N := N.below hb
          replace Q := Q.below hb
          replace ZG := ZG.below hb
          replace B := B.trans (hb.mono B.size)
          clear hb
          obtain ⟨m0, m1, m2, m3, m4⟩ := id Q
          go_wp2_with fail
          refine (CH _).mono ?_
          rintro e v7 ⟨rfl, hb⟩
          clear m0 m1 m2 m3 m4
          replace N := N.below hb
          replace Q := Q.below hb
          replace ZG := ZG.below hb
          replace B := B.trans (hb.mono B.size)
          clear hb
          go_upto_region 14 with fail
          clear N Q ZG CH CI CS
          have NL := Below.nw v7 (.cells #[.bool true, .int .i64 X, .int .i64 X, .bool true, .int .i64 (X - 1), .int .i64 X] 32)
          have TL := two_looks v7 X
          go_upto_region 15 with fail
          replace B := B.trans (NL.mono B.size)
          clear NL
          generalize v7.alloc (.cells #[.bool true, .int .i64 X, .int .i64 X, .bool true, .int .i64 (X - 1), .int .i64 X] 32) = u1 at *
          generalize v7.heap.size = jl at *
          by_cases hlow : X - 1 < -1000000000000
          · go_wp2_with fail
            go_ret
            exact ⟨rfl, B⟩
          have NL := Below.nw u1 (.cells #[.int .i64 X, .bool false, .int .i64 0, .int .i64 X, .bool false, .int .i64 0] 40)
          have TG := two_reads u1 X X
          go_upto_region 18 with fail
          replace B := B.trans (NL.mono B.size)
          replace TL := TL.below NL TL.1
          clear NL
          generalize u1.alloc (.cells #[.int .i64 X, .bool false, .int .i64 0, .int .i64 X, .bool false, .int .i64 0] 40) = u2 at *
          generalize u1.heap.size = jg at *
          have NL := Below.nw u2 (.cells #[.int .i64 X, .bool false, .int .i64 0, .int .i64 (X - 1), .bool false, .int .i64 0] 40)
          have TB := two_reads u2 X (X - 1)
          go_upto_region 19 with fail
          replace B := B.trans (NL.mono B.size)
          replace TL := TL.below NL TL.1
          replace TG := TG.below NL TG.1
          clear NL
          generalize u2.alloc (.cells #[.int .i64 X, .bool false, .int .i64 0, .int .i64 (X - 1), .bool false, .int .i64 0] 40) = u3 at *
          generalize u2.heap.size = jb at *
          have r1 : rkB (twoL X) (twoR X X) 2 2 = true := by rw [two_told (by omega) hX.2 ⟨by omega, by omega⟩, decide_eq_false (by omega)]; rfl
          have r2 : rkB (twoL X) (twoR X (X - 1)) 2 2 = false := by rw [two_told (by omega) hX.2 ⟨by omega, by omega⟩, decide_eq_true (by omega)]; rfl
          go_wp2_with fail
          refine (implReadsOk_any _ _ 2 2 _ _ (twoL X) (twoR X X) _ (by unfold maxLen; omega) (by unfold maxLen; omega) (.inr ⟨_, _, rfl, TL⟩) (.inr ⟨_, _, rfl, TG⟩)).mono ?_
          rintro e u4 ⟨rfl, hb⟩
          rw [r1]
          replace TL := TL.below hb TL.1
          replace TB := TB.below hb TB.1
          replace B := B.trans (hb.mono B.size)
          clear hb r1 TG
          go_wp2_with fail
          refine (implReadsOk_any _ _ 2 2 _ _ (twoL X) (twoR X (X - 1)) _ (by unfold maxLen; omega) (by unfold maxLen; omega) (.inr ⟨_, _, rfl, TL⟩) (.inr ⟨_, _, rfl, TB⟩)).mono ?_
          rintro e u5 ⟨rfl, hb⟩
          rw [r2]
          replace B := B.trans (hb.mono B.size)
          clear hb r2
          go_wp2_with fail
          go_ret
          exact ⟨rfl, B⟩
      · cases k
        · skip
          have qh := ow3 rfl
          have qd := ow4 rfl
          clear ow3 ow4 ow5
          obtain ⟨n0, n1, n2, n3, n4⟩ := id N
          obtain ⟨m0, m1, m2, m3, m4⟩ := id Q
          obtain ⟨z0, z1, z2, z3, z4⟩ := id ZG
          go_upto_region 14 with fail
          clear n0 n1 n2 n3 n4 m0 m1 m2 m3 m4
          clear z0 z1 z2 z3 z4 N Q ZG CL CH CI CS
          have NL := Below.nw v5 (.cells #[.bool true, .int .i64 X, .int .i64 X, .bool true, .int .i64 (X - 1), .int .i64 X] 32)
          have TL := two_looks v5 X
          go_upto_region 15 with fail
          replace B := B.trans (NL.mono B.size)
          clear NL
          generalize v5.alloc (.cells #[.bool true, .int .i64 X, .int .i64 X, .bool true, .int .i64 (X - 1), .int .i64 X] 32) = u1 at *
          generalize v5.heap.size = jl at *
          by_cases hlow : X - 1 < -1000000000000
          · go_wp2_with fail
            go_ret
            exact ⟨rfl, B⟩
          have NL := Below.nw u1 (.cells #[.int .i64 X, .bool false, .int .i64 0, .int .i64 X, .bool false, .int .i64 0] 40)
          have TG := two_reads u1 X X
          go_upto_region 18 with fail
          replace B := B.trans (NL.mono B.size)
          replace TL := TL.below NL TL.1
          clear NL
          generalize u1.alloc (.cells #[.int .i64 X, .bool false, .int .i64 0, .int .i64 X, .bool false, .int .i64 0] 40) = u2 at *
          generalize u1.heap.size = jg at *
          have NL := Below.nw u2 (.cells #[.int .i64 X, .bool false, .int .i64 0, .int .i64 (X - 1), .bool false, .int .i64 0] 40)
          have TB := two_reads u2 X (X - 1)
          go_upto_region 19 with fail
          replace B := B.trans (NL.mono B.size)
          replace TL := TL.below NL TL.1
          replace TG := TG.below NL TG.1
          clear NL
          generalize u2.alloc (.cells #[.int .i64 X, .bool false, .int .i64 0, .int .i64 (X - 1), .bool false, .int .i64 0] 40) = u3 at *
          generalize u2.heap.size = jb at *
          have r1 : rkB (twoL X) (twoR X X) 2 2 = true := by rw [two_told (by omega) hX.2 ⟨by omega, by omega⟩, decide_eq_false (by omega)]; rfl
          have r2 : rkB (twoL X) (twoR X (X - 1)) 2 2 = false := by rw [two_told (by omega) hX.2 ⟨by omega, by omega⟩, decide_eq_true (by omega)]; rfl
          go_wp2_with fail
          refine (implReadsOk_any _ _ 2 2 _ _ (twoL X) (twoR X X) _ (by unfold maxLen; omega) (by unfold maxLen; omega) (.inr ⟨_, _, rfl, TL⟩) (.inr ⟨_, _, rfl, TG⟩)).mono ?_
          rintro e u4 ⟨rfl, hb⟩
          rw [r1]
          replace TL := TL.below hb TL.1
          replace TB := TB.below hb TB.1
          replace B := B.trans (hb.mono B.size)
          clear hb r1 TG
          go_wp2_with fail
          refine (implReadsOk_any _ _ 2 2 _ _ (twoL X) (twoR X (X - 1)) _ (by unfold maxLen; omega) (by unfold maxLen; omega) (.inr ⟨_, _, rfl, TL⟩) (.inr ⟨_, _, rfl, TB⟩)).mono ?_
          rintro e u5 ⟨rfl, hb⟩
          rw [r2]
          replace B := B.trans (hb.mono B.size)
          clear hb r2
          go_wp2_with fail
          go_ret
          exact ⟨rfl, B⟩
        · skip
          have qh := ow3 rfl
          have qd := ow4 rfl
          obtain ⟨qk, qq⟩ := ow5 rfl
          clear qq
          clear ow3 ow4 ow5
          obtain ⟨n0, n1, n2, n3, n4⟩ := id N
          obtain ⟨m0, m1, m2, m3, m4⟩ := id Q
          obtain ⟨z0, z1, z2, z3, z4⟩ := id ZG
          go_wp2_with fail
          refine (CL _).mono ?_
          rintro e v6 ⟨rfl, hb⟩
          clear n0 n1 n2 n3 n4 m0 m1 m2 m3 m4
          clear z0 z1 z2 z3 z4 CL
          replace N := N.below hb
          replace Q := Q.below hb
          replace ZG := ZG.below hb
          replace B := B.trans (hb.mono B.size)
          clear hb
          go_upto_region 14 with fail
          clear N Q ZG CH CI CS
          have NL := Below.nw v6 (.cells #[.bool true, .int .i64 X, .int .i64 X, .bool true, .int .i64 (X - 1), .int .i64 X] 32)
          have TL := two_looks v6 X
          go_upto_region 15 with fail
          replace B := B.trans (NL.mono B.size)
          clear NL
          generalize v6.alloc (.cells #[.bool true, .int .i64 X, .int .i64 X, .bool true, .int .i64 (X - 1), .int .i64 X] 32) = u1 at *
          generalize v6.heap.size = jl at *
          by_cases hlow : X - 1 < -1000000000000
          · go_wp2_with fail
            go_ret
            exact ⟨rfl, B⟩
          have NL := Below.nw u1 (.cells #[.int .i64 X, .bool false, .int .i64 0, .int .i64 X, .bool false, .int .i64 0] 40)
          have TG := two_reads u1 X X
          go_upto_region 18 with fail
          replace B := B.trans (NL.mono B.size)
          replace TL := TL.below NL TL.1
          clear NL
          generalize u1.alloc (.cells #[.int .i64 X, .bool false, .int .i64 0, .int .i64 X, .bool false, .int .i64 0] 40) = u2 at *
          generalize u1.heap.size = jg at *
          have NL := Below.nw u2 (.cells #[.int .i64 X, .bool false, .int .i64 0, .int .i64 (X - 1), .bool false, .int .i64 0] 40)
          have TB := two_reads u2 X (X - 1)
          go_upto_region 19 with fail
          replace B := B.trans (NL.mono B.size)
          replace TL := TL.below NL TL.1
          replace TG := TG.below NL TG.1
          clear NL
          generalize u2.alloc (.cells #[.int .i64 X, .bool false, .int .i64 0, .int .i64 (X - 1), .bool false, .int .i64 0] 40) = u3 at *
          generalize u2.heap.size = jb at *
          have r1 : rkB (twoL X) (twoR X X) 2 2 = true := by rw [two_told (by omega) hX.2 ⟨by omega, by omega⟩, decide_eq_false (by omega)]; rfl
          have r2 : rkB (twoL X) (twoR X (X - 1)) 2 2 = false := by rw [two_told (by omega) hX.2 ⟨by omega, by omega⟩, decide_eq_true (by omega)]; rfl
          go_wp2_with fail
          refine (implReadsOk_any _ _ 2 2 _ _ (twoL X) (twoR X X) _ (by unfold maxLen; omega) (by unfold maxLen; omega) (.inr ⟨_, _, rfl, TL⟩) (.inr ⟨_, _, rfl, TG⟩)).mono ?_
          rintro e u4 ⟨rfl, hb⟩
          rw [r1]
          replace TL := TL.below hb TL.1
          replace TB := TB.below hb TB.1
          replace B := B.trans (hb.mono B.size)
          clear hb r1 TG
          go_wp2_with fail
          refine (implReadsOk_any _ _ 2 2 _ _ (twoL X) (twoR X (X - 1)) _ (by unfold maxLen; omega) (by unfold maxLen; omega) (.inr ⟨_, _, rfl, TL⟩) (.inr ⟨_, _, rfl, TB⟩)).mono ?_
          rintro e u5 ⟨rfl, hb⟩
          rw [r2]
          replace B := B.trans (hb.mono B.size)
          clear hb r2
          go_wp2_with fail
          go_ret
          exact ⟨rfl, B⟩
  · obtain ⟨ow1, ow2⟩ := HNT.out hc
    subst ow2
    clear HW HNT
    go_wp2_with fail
    go_ret
    exact ⟨by first | rfl | (simp [ow1]; done), B⟩
end Go.Proofs.Ytdllkfllnljaaaa
