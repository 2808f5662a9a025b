/- GateAsk in the specification. -/
import Derived.Test.YtcakhfobkbgfoaaDoorC141
import Derived.Test.YtcakhfobkbgfoaaDoorB136
import Derived.WalkKit
import Derived.WalkSpells
import Derived.WalkLawsBesides
import Derived.Deep.RegionHeld
namespace Go.Proofs.YtcakhfobkbgfoaaDoor
open Go.RowKit
set_option linter.unusedVariables false
set_option maxRecDepth 100000 in
set_option maxHeartbeats 8000000 in
theorem specGateAsk_any (kn : Bool) (lo hi n d x s g : Int) (a : Option Addr) (m c : Nat) (M : Nat → SlT) (o : Int) (w : World) (hm : m ≤ maxLen) (hs : SrcC w a (m * 2) (MFSlot M)) :
    Calls Tryd.prog 13 #[.agg #[.int .i64 lo, .int .i64 hi], .bool kn, .agg #[.int .i64 n, .int .i64 d], .int .i64 x, .agg #[.int .i64 s, .int .i64 g, .slice a m c], .int .i64 o] w fun e w' => e = .returned (.tuple #[.int .i64 (gaI kn lo hi n d x s g M m o), .int .i64 (gaK kn lo hi n d x s g M m o), .int .i64 (gaC kn lo hi n d x s g M m o)]) ∧ Below w.heap.size w w' := by
  have A0 := Below.nw w (.cells #[.int .i64 lo, .int .i64 hi] 25)
  have A1 := Below.nw (w.alloc (.cells #[.int .i64 lo, .int .i64 hi] 25)) (.cells #[.int .i64 n, .int .i64 d] 27)
  have A2 := Below.nw ((w.alloc (.cells #[.int .i64 lo, .int .i64 hi] 25)).alloc (.cells #[.int .i64 n, .int .i64 d] 27)) (.cells #[.int .i64 s, .int .i64 g, .slice a m c] 30)
  have I := ((Bx2.new w (.int .i64 lo) (.int .i64 hi) 25).below A1).below A2
  have D := (Bx2.new (w.alloc (.cells #[.int .i64 lo, .int .i64 hi] 25)) (.int .i64 n) (.int .i64 d) 27).below A2
  have N := Tx3.new ((w.alloc (.cells #[.int .i64 lo, .int .i64 hi] 25)).alloc (.cells #[.int .i64 n, .int .i64 d] 27)) (.int .i64 s) (.int .i64 g) (.slice a m c) 30
  have B := (A0.trans (A1.mono A0.size)).trans (A2.mono (A0.trans (A1.mono A0.size)).size)
  simp only [World.size_alloc] at D N
  clear A0 A1 A2
  have HS : Hid (SrcC w a (m * 2) (MFSlot M)) := hs
  clear hs
  have CI := fun w' => specIvalOk_any lo hi w'
  have CD := fun w' => specDriftOk_any n d w'
  have CX := fun w' => ln_any x w'
  have CP := fun w' h => specPlanOk_any s g a m c M w' hm h
  have CO := fun w' => l4Node_any o w'
  have CG := fun w' => specGateSpan_any lo hi n d x w'
  have CS := fun w' h => specInSlot_any s g a m c M o (gsL lo hi n d x) (gsH lo hi n d x) w' hm h
  go_enter Tryd.func13, Tryd.ntmps13
  go_upto_region 1 with fail
  generalize ((w.alloc (.cells #[.int .i64 lo, .int .i64 hi] 25)).alloc (.cells #[.int .i64 n, .int .i64 d] 27)).alloc (.cells #[.int .i64 s, .int .i64 g, .slice a m c] 30) = v at *
  generalize w.heap.size + 1 + 1 = jn at *
  generalize w.heap.size + 1 = jd at *
  go_cut [45] (fun s45 wx => s45 = .bool (!(gaP kn lo hi n d x (plB s g M m) o)) ∧ Bx2 wx w.heap.size (.int .i64 lo) (.int .i64 hi) ∧ Bx2 wx jd (.int .i64 n) (.int .i64 d) ∧ Tx3 wx jn (.int .i64 s) (.int .i64 g) (.slice a m c) ∧ Below w.heap.size w wx)
  case first => as_aux_lemma =>
    clear CG CS
    cases kn
    · clear CI
      cases q1 : okD n d
      · rw [q1] at CD
        obtain ⟨i0, i1, i2, i3, i4⟩ := id I
        obtain ⟨d0, d1, d2, d3, d4⟩ := id D
        obtain ⟨n0, n1, n2, n3, n4, n5, n6⟩ := id N
        go_wp2_with fail
        refine (CD _).mono ?_
        rintro e u1 ⟨rfl, hb⟩
        clear i0 i1 i2 i3 i4 d0 d1 d2 d3 d4 n0 n1 n2 n3 n4 n5 n6
        replace I := I.below hb
        replace D := D.below hb
        replace N := N.below hb
        replace B := B.trans (hb.mono B.size)
        clear hb
        obtain ⟨i0, i1, i2, i3, i4⟩ := id I
        obtain ⟨d0, d1, d2, d3, d4⟩ := id D
        obtain ⟨n0, n1, n2, n3, n4, n5, n6⟩ := id N
        go_wp2_with fail
        clear i0 i1 i2 i3 i4 d0 d1 d2 d3 d4 n0 n1 n2 n3 n4 n5 n6
        go_meet
        case rel => exact ⟨by simp [gaP, q1], I, D, N, B⟩
      rw [q1] at CD
      obtain ⟨i0, i1, i2, i3, i4⟩ := id I
      obtain ⟨d0, d1, d2, d3, d4⟩ := id D
      obtain ⟨n0, n1, n2, n3, n4, n5, n6⟩ := id N
      go_wp2_with fail
      refine (CD _).mono ?_
      rintro e u1 ⟨rfl, hb⟩
      clear i0 i1 i2 i3 i4 d0 d1 d2 d3 d4 n0 n1 n2 n3 n4 n5 n6
      replace I := I.below hb
      replace D := D.below hb
      replace N := N.below hb
      replace B := B.trans (hb.mono B.size)
      clear hb
      clear CD
      cases q2 : lgB x
      · rw [q2] at CX
        obtain ⟨i0, i1, i2, i3, i4⟩ := id I
        obtain ⟨d0, d1, d2, d3, d4⟩ := id D
        obtain ⟨n0, n1, n2, n3, n4, n5, n6⟩ := id N
        go_wp2_with fail
        refine (CX _).mono ?_
        rintro e w' ⟨rfl, rfl⟩
        clear i0 i1 i2 i3 i4 d0 d1 d2 d3 d4 n0 n1 n2 n3 n4 n5 n6
        obtain ⟨i0, i1, i2, i3, i4⟩ := id I
        obtain ⟨d0, d1, d2, d3, d4⟩ := id D
        obtain ⟨n0, n1, n2, n3, n4, n5, n6⟩ := id N
        go_wp2_with fail
        clear i0 i1 i2 i3 i4 d0 d1 d2 d3 d4 n0 n1 n2 n3 n4 n5 n6
        go_meet
        case rel => exact ⟨by simp [gaP, q1, q2], I, D, N, B⟩
      rw [q2] at CX
      obtain ⟨i0, i1, i2, i3, i4⟩ := id I
      obtain ⟨d0, d1, d2, d3, d4⟩ := id D
      obtain ⟨n0, n1, n2, n3, n4, n5, n6⟩ := id N
      go_wp2_with fail
      refine (CX _).mono ?_
      rintro e w' ⟨rfl, rfl⟩
      clear i0 i1 i2 i3 i4 d0 d1 d2 d3 d4 n0 n1 n2 n3 n4 n5 n6
      clear CX
      cases q3 : plB s g M m
      · rw [q3] at CP
        obtain ⟨i0, i1, i2, i3, i4⟩ := id I
        obtain ⟨d0, d1, d2, d3, d4⟩ := id D
        obtain ⟨n0, n1, n2, n3, n4, n5, n6⟩ := id N
        go_wp2_with fail
        refine (CP _ (HS.out.below B)).mono ?_
        rintro e u3 ⟨rfl, hb⟩
        clear i0 i1 i2 i3 i4 d0 d1 d2 d3 d4 n0 n1 n2 n3 n4 n5 n6
        replace I := I.below hb
        replace D := D.below hb
        replace N := N.below hb
        replace B := B.trans (hb.mono B.size)
        clear hb
        obtain ⟨i0, i1, i2, i3, i4⟩ := id I
        obtain ⟨d0, d1, d2, d3, d4⟩ := id D
        obtain ⟨n0, n1, n2, n3, n4, n5, n6⟩ := id N
        go_wp2_with fail
        clear i0 i1 i2 i3 i4 d0 d1 d2 d3 d4 n0 n1 n2 n3 n4 n5 n6
        go_meet
        case rel => exact ⟨by simp [gaP, q1, q2, q3], I, D, N, B⟩
      rw [q3] at CP
      obtain ⟨i0, i1, i2, i3, i4⟩ := id I
      obtain ⟨d0, d1, d2, d3, d4⟩ := id D
      obtain ⟨n0, n1, n2, n3, n4, n5, n6⟩ := id N
      go_wp2_with fail
      refine (CP _ (HS.out.below B)).mono ?_
      rintro e u3 ⟨rfl, hb⟩
      clear i0 i1 i2 i3 i4 d0 d1 d2 d3 d4 n0 n1 n2 n3 n4 n5 n6
      replace I := I.below hb
      replace D := D.below hb
      replace N := N.below hb
      replace B := B.trans (hb.mono B.size)
      clear hb
      clear CP
      cases q4 : nodB o
      · rw [q4] at CO
        obtain ⟨i0, i1, i2, i3, i4⟩ := id I
        obtain ⟨d0, d1, d2, d3, d4⟩ := id D
        obtain ⟨n0, n1, n2, n3, n4, n5, n6⟩ := id N
        go_wp2_with fail
        refine (CO _).mono ?_
        rintro e w' ⟨rfl, rfl⟩
        clear i0 i1 i2 i3 i4 d0 d1 d2 d3 d4 n0 n1 n2 n3 n4 n5 n6
        obtain ⟨i0, i1, i2, i3, i4⟩ := id I
        obtain ⟨d0, d1, d2, d3, d4⟩ := id D
        obtain ⟨n0, n1, n2, n3, n4, n5, n6⟩ := id N
        go_wp2_with fail
        clear i0 i1 i2 i3 i4 d0 d1 d2 d3 d4 n0 n1 n2 n3 n4 n5 n6
        go_meet
        case rel => exact ⟨by simp [gaP, q1, q2, q3, q4], I, D, N, B⟩
      rw [q4] at CO
      obtain ⟨i0, i1, i2, i3, i4⟩ := id I
      obtain ⟨d0, d1, d2, d3, d4⟩ := id D
      obtain ⟨n0, n1, n2, n3, n4, n5, n6⟩ := id N
      go_wp2_with fail
      refine (CO _).mono ?_
      rintro e w' ⟨rfl, rfl⟩
      clear i0 i1 i2 i3 i4 d0 d1 d2 d3 d4 n0 n1 n2 n3 n4 n5 n6
      clear CO
      obtain ⟨i0, i1, i2, i3, i4⟩ := id I
      obtain ⟨d0, d1, d2, d3, d4⟩ := id D
      obtain ⟨n0, n1, n2, n3, n4, n5, n6⟩ := id N
      go_wp2_with fail
      clear i0 i1 i2 i3 i4 d0 d1 d2 d3 d4 n0 n1 n2 n3 n4 n5 n6
      go_meet
      case rel => exact ⟨by simp [gaP, q1, q2, q3, q4], I, D, N, B⟩
    · skip
      cases q0 : okI lo hi
      · rw [q0] at CI
        obtain ⟨i0, i1, i2, i3, i4⟩ := id I
        obtain ⟨d0, d1, d2, d3, d4⟩ := id D
        obtain ⟨n0, n1, n2, n3, n4, n5, n6⟩ := id N
        go_wp2_with fail
        refine (CI _).mono ?_
        rintro e u0 ⟨rfl, hb⟩
        clear i0 i1 i2 i3 i4 d0 d1 d2 d3 d4 n0 n1 n2 n3 n4 n5 n6
        replace I := I.below hb
        replace D := D.below hb
        replace N := N.below hb
        replace B := B.trans (hb.mono B.size)
        clear hb
        obtain ⟨i0, i1, i2, i3, i4⟩ := id I
        obtain ⟨d0, d1, d2, d3, d4⟩ := id D
        obtain ⟨n0, n1, n2, n3, n4, n5, n6⟩ := id N
        go_wp2_with fail
        clear i0 i1 i2 i3 i4 d0 d1 d2 d3 d4 n0 n1 n2 n3 n4 n5 n6
        go_meet
        case rel => exact ⟨by simp [gaP, q0], I, D, N, B⟩
      rw [q0] at CI
      obtain ⟨i0, i1, i2, i3, i4⟩ := id I
      obtain ⟨d0, d1, d2, d3, d4⟩ := id D
      obtain ⟨n0, n1, n2, n3, n4, n5, n6⟩ := id N
      go_wp2_with fail
      refine (CI _).mono ?_
      rintro e u0 ⟨rfl, hb⟩
      clear i0 i1 i2 i3 i4 d0 d1 d2 d3 d4 n0 n1 n2 n3 n4 n5 n6
      replace I := I.below hb
      replace D := D.below hb
      replace N := N.below hb
      replace B := B.trans (hb.mono B.size)
      clear hb
      clear CI
      cases q1 : okD n d
      · rw [q1] at CD
        obtain ⟨i0, i1, i2, i3, i4⟩ := id I
        obtain ⟨d0, d1, d2, d3, d4⟩ := id D
        obtain ⟨n0, n1, n2, n3, n4, n5, n6⟩ := id N
        go_wp2_with fail
        refine (CD _).mono ?_
        rintro e u1 ⟨rfl, hb⟩
        clear i0 i1 i2 i3 i4 d0 d1 d2 d3 d4 n0 n1 n2 n3 n4 n5 n6
        replace I := I.below hb
        replace D := D.below hb
        replace N := N.below hb
        replace B := B.trans (hb.mono B.size)
        clear hb
        obtain ⟨i0, i1, i2, i3, i4⟩ := id I
        obtain ⟨d0, d1, d2, d3, d4⟩ := id D
        obtain ⟨n0, n1, n2, n3, n4, n5, n6⟩ := id N
        go_wp2_with fail
        clear i0 i1 i2 i3 i4 d0 d1 d2 d3 d4 n0 n1 n2 n3 n4 n5 n6
        go_meet
        case rel => exact ⟨by simp [gaP, q0, q1], I, D, N, B⟩
      rw [q1] at CD
      obtain ⟨i0, i1, i2, i3, i4⟩ := id I
      obtain ⟨d0, d1, d2, d3, d4⟩ := id D
      obtain ⟨n0, n1, n2, n3, n4, n5, n6⟩ := id N
      go_wp2_with fail
      refine (CD _).mono ?_
      rintro e u1 ⟨rfl, hb⟩
      clear i0 i1 i2 i3 i4 d0 d1 d2 d3 d4 n0 n1 n2 n3 n4 n5 n6
      replace I := I.below hb
      replace D := D.below hb
      replace N := N.below hb
      replace B := B.trans (hb.mono B.size)
      clear hb
      clear CD
      cases q2 : lgB x
      · rw [q2] at CX
        obtain ⟨i0, i1, i2, i3, i4⟩ := id I
        obtain ⟨d0, d1, d2, d3, d4⟩ := id D
        obtain ⟨n0, n1, n2, n3, n4, n5, n6⟩ := id N
        go_wp2_with fail
        refine (CX _).mono ?_
        rintro e w' ⟨rfl, rfl⟩
        clear i0 i1 i2 i3 i4 d0 d1 d2 d3 d4 n0 n1 n2 n3 n4 n5 n6
        obtain ⟨i0, i1, i2, i3, i4⟩ := id I
        obtain ⟨d0, d1, d2, d3, d4⟩ := id D
        obtain ⟨n0, n1, n2, n3, n4, n5, n6⟩ := id N
        go_wp2_with fail
        clear i0 i1 i2 i3 i4 d0 d1 d2 d3 d4 n0 n1 n2 n3 n4 n5 n6
        go_meet
        case rel => exact ⟨by simp [gaP, q0, q1, q2], I, D, N, B⟩
      rw [q2] at CX
      obtain ⟨i0, i1, i2, i3, i4⟩ := id I
      obtain ⟨d0, d1, d2, d3, d4⟩ := id D
      obtain ⟨n0, n1, n2, n3, n4, n5, n6⟩ := id N
      go_wp2_with fail
      refine (CX _).mono ?_
      rintro e w' ⟨rfl, rfl⟩
      clear i0 i1 i2 i3 i4 d0 d1 d2 d3 d4 n0 n1 n2 n3 n4 n5 n6
      clear CX
      cases q3 : plB s g M m
      · rw [q3] at CP
        obtain ⟨i0, i1, i2, i3, i4⟩ := id I
        obtain ⟨d0, d1, d2, d3, d4⟩ := id D
        obtain ⟨n0, n1, n2, n3, n4, n5, n6⟩ := id N
        go_wp2_with fail
        refine (CP _ (HS.out.below B)).mono ?_
        rintro e u3 ⟨rfl, hb⟩
        clear i0 i1 i2 i3 i4 d0 d1 d2 d3 d4 n0 n1 n2 n3 n4 n5 n6
        replace I := I.below hb
        replace D := D.below hb
        replace N := N.below hb
        replace B := B.trans (hb.mono B.size)
        clear hb
        obtain ⟨i0, i1, i2, i3, i4⟩ := id I
        obtain ⟨d0, d1, d2, d3, d4⟩ := id D
        obtain ⟨n0, n1, n2, n3, n4, n5, n6⟩ := id N
        go_wp2_with fail
        clear i0 i1 i2 i3 i4 d0 d1 d2 d3 d4 n0 n1 n2 n3 n4 n5 n6
        go_meet
        case rel => exact ⟨by simp [gaP, q0, q1, q2, q3], I, D, N, B⟩
      rw [q3] at CP
      obtain ⟨i0, i1, i2, i3, i4⟩ := id I
      obtain ⟨d0, d1, d2, d3, d4⟩ := id D
      obtain ⟨n0, n1, n2, n3, n4, n5, n6⟩ := id N
      go_wp2_with fail
      refine (CP _ (HS.out.below B)).mono ?_
      rintro e u3 ⟨rfl, hb⟩
      clear i0 i1 i2 i3 i4 d0 d1 d2 d3 d4 n0 n1 n2 n3 n4 n5 n6
      replace I := I.below hb
      replace D := D.below hb
      replace N := N.below hb
      replace B := B.trans (hb.mono B.size)
      clear hb
      clear CP
      cases q4 : nodB o
      · rw [q4] at CO
        obtain ⟨i0, i1, i2, i3, i4⟩ := id I
        obtain ⟨d0, d1, d2, d3, d4⟩ := id D
        obtain ⟨n0, n1, n2, n3, n4, n5, n6⟩ := id N
        go_wp2_with fail
        refine (CO _).mono ?_
        rintro e w' ⟨rfl, rfl⟩
        clear i0 i1 i2 i3 i4 d0 d1 d2 d3 d4 n0 n1 n2 n3 n4 n5 n6
        obtain ⟨i0, i1, i2, i3, i4⟩ := id I
        obtain ⟨d0, d1, d2, d3, d4⟩ := id D
        obtain ⟨n0, n1, n2, n3, n4, n5, n6⟩ := id N
        go_wp2_with fail
        clear i0 i1 i2 i3 i4 d0 d1 d2 d3 d4 n0 n1 n2 n3 n4 n5 n6
        go_meet
        case rel => exact ⟨by simp [gaP, q0, q1, q2, q3, q4], I, D, N, B⟩
      rw [q4] at CO
      obtain ⟨i0, i1, i2, i3, i4⟩ := id I
      obtain ⟨d0, d1, d2, d3, d4⟩ := id D
      obtain ⟨n0, n1, n2, n3, n4, n5, n6⟩ := id N
      go_wp2_with fail
      refine (CO _).mono ?_
      rintro e w' ⟨rfl, rfl⟩
      clear i0 i1 i2 i3 i4 d0 d1 d2 d3 d4 n0 n1 n2 n3 n4 n5 n6
      clear CO
      obtain ⟨i0, i1, i2, i3, i4⟩ := id I
      obtain ⟨d0, d1, d2, d3, d4⟩ := id D
      obtain ⟨n0, n1, n2, n3, n4, n5, n6⟩ := id N
      go_wp2_with fail
      clear i0 i1 i2 i3 i4 d0 d1 d2 d3 d4 n0 n1 n2 n3 n4 n5 n6
      go_meet
      case rel => exact ⟨by simp [gaP, q0, q1, q2, q3, q4], I, D, N, B⟩
  case rest =>
    clear I D N B CI CD CX CP CO
    obtain ⟨rfl, I, D, N, B⟩ := hcut
    generalize wc = v1 at *
    cases hP : gaP kn lo hi n d x (plB s g M m) o
    · have HR : Hid (_ ∧ _ ∧ _) := ga_bad hP
      clear hP CG CS
      go_wp2_with fail
      exact bodyPost_ret (v := (.tuple #[.int .i64 0, .int .i64 0, .int .i64 1])) (by simp (maxDischargeDepth := 6) [results, Tryd.results13, go_sem, *]) rfl ⟨by rw [HR.out.1, HR.out.2.1, HR.out.2.2], B⟩
    cases hG : gaG kn lo hi n d x s g M m o
    · have HR : Hid (_ ∧ _ ∧ _) := ga_un hP hG
      unfold gaG at hG
      rw [hP] at hG
      clear hP
      obtain ⟨i0, i1, i2, i3, i4⟩ := id I
      obtain ⟨d0, d1, d2, d3, d4⟩ := id D
      obtain ⟨n0, n1, n2, n3, n4, n5, n6⟩ := id N
      go_wp2_with fail
      refine (CG _).mono ?_
      rintro e v2 ⟨rfl, hb⟩
      clear i0 i1 i2 i3 i4 d0 d1 d2 d3 d4 n0 n1 n2 n3 n4 n5 n6
      replace I := I.below hb
      replace D := D.below hb
      replace N := N.below hb
      replace B := B.trans (hb.mono B.size)
      clear hb
      clear CG I D
      generalize gsL lo hi n d x = X at *
      generalize gsH lo hi n d x = Y at *
      generalize gsB lo hi n d x = Q at *
      have NL := Below.nw v2 (.cells #[.int .i64 X, .int .i64 Y] 25)
      have Z := Bx2.new v2 (.int .i64 X) (.int .i64 Y) 25
      go_upto_region 4 with fail
      replace N := N.below NL
      replace B := B.trans (NL.mono B.size)
      clear NL
      generalize v2.alloc (.cells #[.int .i64 X, .int .i64 Y] 25) = v3 at *
      generalize v2.heap.size = jz at *
      cases kn
      · go_wp2_with fail
        exact bodyPost_ret (v := (.tuple #[.int .i64 0, .int .i64 0, .int .i64 2])) (by simp (maxDischargeDepth := 6) [results, Tryd.results13, go_sem, *]) rfl ⟨by rw [HR.out.1, HR.out.2.1, HR.out.2.2], B⟩
      cases Q
      · go_wp2_with fail
        exact bodyPost_ret (v := (.tuple #[.int .i64 0, .int .i64 0, .int .i64 2])) (by simp (maxDischargeDepth := 6) [results, Tryd.results13, go_sem, *]) rfl ⟨by rw [HR.out.1, HR.out.2.1, HR.out.2.2], B⟩
      have hI : isB s g M m o X Y = false := by simpa using hG
      rw [hI] at CS
      obtain ⟨n0, n1, n2, n3, n4, n5, n6⟩ := id N
      obtain ⟨z0, z1, z2, z3, z4⟩ := id Z
      go_wp2_with fail
      refine (CS _ (HS.out.below B)).mono ?_
      rintro e v4 ⟨rfl, hb⟩
      replace B := B.trans (hb.mono B.size)
      clear n0 n1 n2 n3 n4 n5 n6 z0 z1 z2 z3 z4 hb
      go_wp2_with fail
      exact bodyPost_ret (v := (.tuple #[.int .i64 0, .int .i64 0, .int .i64 2])) (by simp (maxDischargeDepth := 6) [results, Tryd.results13, go_sem, *]) rfl ⟨by rw [HR.out.1, HR.out.2.1, HR.out.2.2], B⟩
    · have HR : Hid (_ ∧ _ ∧ _) := ga_go hG
      unfold gaG at hG
      rw [hP] at hG
      clear hP
      simp only [Bool.and_eq_true, true_and] at hG
      obtain ⟨rfl, g1, g2⟩ := hG
      rw [g1] at CG
      rw [g2] at CS
      clear g1 g2
      obtain ⟨i0, i1, i2, i3, i4⟩ := id I
      obtain ⟨d0, d1, d2, d3, d4⟩ := id D
      obtain ⟨n0, n1, n2, n3, n4, n5, n6⟩ := id N
      go_wp2_with fail
      refine (CG _).mono ?_
      rintro e v2 ⟨rfl, hb⟩
      clear i0 i1 i2 i3 i4 d0 d1 d2 d3 d4 n0 n1 n2 n3 n4 n5 n6
      replace I := I.below hb
      replace D := D.below hb
      replace N := N.below hb
      replace B := B.trans (hb.mono B.size)
      clear hb
      clear CG I D
      generalize isI s g M m o (gsL lo hi n d x) (gsH lo hi n d x) = R at *
      generalize isK s g M m o (gsL lo hi n d x) (gsH lo hi n d x) = K at *
      generalize gsL lo hi n d x = X at *
      generalize gsH lo hi n d x = Y at *
      have NL := Below.nw v2 (.cells #[.int .i64 X, .int .i64 Y] 25)
      have Z := Bx2.new v2 (.int .i64 X) (.int .i64 Y) 25
      go_upto_region 4 with fail
      replace N := N.below NL
      replace B := B.trans (NL.mono B.size)
      clear NL
      generalize v2.alloc (.cells #[.int .i64 X, .int .i64 Y] 25) = v3 at *
      generalize v2.heap.size = jz at *
      obtain ⟨n0, n1, n2, n3, n4, n5, n6⟩ := id N
      obtain ⟨z0, z1, z2, z3, z4⟩ := id Z
      go_wp2_with fail
      refine (CS _ (HS.out.below B)).mono ?_
      rintro e v4 ⟨rfl, hb⟩
      replace B := B.trans (hb.mono B.size)
      clear n0 n1 n2 n3 n4 n5 n6 z0 z1 z2 z3 z4 hb
      go_wp2_with fail
      exact bodyPost_ret (v := (.tuple #[.int .i64 R, .int .i64 K, .int .i64 0])) (by simp (maxDischargeDepth := 6) [results, Tryd.results13, go_sem, *]) rfl ⟨by rw [HR.out.1, HR.out.2.1, HR.out.2.2], B⟩
end Go.Proofs.YtcakhfobkbgfoaaDoor
