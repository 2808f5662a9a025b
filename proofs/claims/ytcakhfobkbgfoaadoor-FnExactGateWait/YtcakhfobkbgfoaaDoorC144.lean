/- GateWait in the specification. -/
import Derived.Test.YtcakhfobkbgfoaaDoorC142
import Derived.WalkKit
import Derived.WalkSpells
import Derived.WalkLawsBesides
import Derived.Deep.RegionHeld
namespace Go.Proofs.YtcakhfobkbgfoaaDoor
open Go.RowKit
set_option linter.unusedVariables false
theorem gw_no {kn : Bool} {lo hi h n d x s g : Int} {M : Nat → SlT} {m : Nat} {o t y : Int} (e : gwB kn lo hi h n d x s g M m o t y = false) : gwI kn lo hi h n d x s g M m o t y = 0 := by unfold gwI; rw [e]
theorem gw_at {kn : Bool} {lo hi h n d x s g : Int} {M : Nat → SlT} {m : Nat} {o t y : Int} (hg : gwG t y = true) {j : Nat} (hf : fnd (gwP kn lo hi h n d x s g M m o t) j = j) (hp : (gwP kn lo hi h n d x s g M m o t) j = true) (hj : (j : Int) ≤ y) : gwB kn lo hi h n d x s g M m o t y = true ∧ gwI kn lo hi h n d x s g M m o t y = (j : Int) := by
  have e := fnd_is hf hp (show j < y.toNat + 1 by omega)
  have b : gwB kn lo hi h n d x s g M m o t y = true := by unfold gwB; rw [hg, e, decide_eq_true (by omega)]; rfl
  exact ⟨b, by unfold gwI; rw [b, e]⟩
theorem gw_end {kn : Bool} {lo hi h n d x s g : Int} {M : Nat → SlT} {m : Nat} {o t y : Int} {j : Nat} (hf : fnd (gwP kn lo hi h n d x s g M m o t) j = j) (hy : 0 ≤ y) (hj : j ≤ y.toNat + 1) (hj2 : ¬ (j : Int) ≤ y) : gwB kn lo hi h n d x s g M m o t y = false := by
  have e : j = y.toNat + 1 := by omega
  subst e
  unfold gwB
  rw [hf, decide_eq_false (by omega)]
  simp
set_option maxRecDepth 100000 in
set_option maxHeartbeats 8000000 in
theorem specGateWait_any (kn : Bool) (lo hi h n d x s g : Int) (a : Option Addr) (m c : Nat) (M : Nat → SlT) (o t y : Int) (w : World) (hm : m ≤ maxLen) (hs : SrcC w a (m * 2) (MFSlot M)) :
    Calls Tryd.prog 31 #[.agg #[.bool kn, .int .i64 lo, .int .i64 hi, .int .i64 h], .agg #[.int .i64 n, .int .i64 d], .int .i64 x, .agg #[.int .i64 s, .int .i64 g, .slice a m c], .int .i64 o, .int .i64 t, .int .i64 y] w fun e w' => e = .returned (.tuple #[.int .i64 (gwI kn lo hi h n d x s g M m o t y), .bool (gwB kn lo hi h n d x s g M m o t y)]) ∧ Below w.heap.size w w' := by
  have A0 := Below.nw w (.cells #[.bool kn, .int .i64 lo, .int .i64 hi, .int .i64 h] 64)
  have A1 := Below.nw (w.alloc (.cells #[.bool kn, .int .i64 lo, .int .i64 hi, .int .i64 h] 64)) (.cells #[.int .i64 n, .int .i64 d] 27)
  have A2 := Below.nw ((w.alloc (.cells #[.bool kn, .int .i64 lo, .int .i64 hi, .int .i64 h] 64)).alloc (.cells #[.int .i64 n, .int .i64 d] 27)) (.cells #[.int .i64 s, .int .i64 g, .slice a m c] 30)
  have L := ((BoxL.new w kn lo hi h 64).below A1).below A2
  have D := (Bx2.new (w.alloc (.cells #[.bool kn, .int .i64 lo, .int .i64 hi, .int .i64 h] 64)) (.int .i64 n) (.int .i64 d) 27).below A2
  have N := Tx3.new ((w.alloc (.cells #[.bool kn, .int .i64 lo, .int .i64 hi, .int .i64 h] 64)).alloc (.cells #[.int .i64 n, .int .i64 d] 27)) (.int .i64 s) (.int .i64 g) (.slice a m c) 30
  have B := (A0.trans (A1.mono A0.size)).trans (A2.mono (A0.trans (A1.mono A0.size)).size)
  simp only [World.size_alloc] at D N
  clear A0 A1 A2
  have HS : Hid (SrcC w a (m * 2) (MFSlot M)) := hs
  clear hs
  have C1 := fun w' => l1In_any y 0 400 w'
  have C2 := fun w' => l2Time_any t w'
  go_enter Tryd.func31, Tryd.ntmps31
  go_upto_region 1 with fail
  generalize ((w.alloc (.cells #[.bool kn, .int .i64 lo, .int .i64 hi, .int .i64 h] 64)).alloc (.cells #[.int .i64 n, .int .i64 d] 27)).alloc (.cells #[.int .i64 s, .int .i64 g, .slice a m c] 30) = v at *
  generalize w.heap.size + 1 + 1 = jn at *
  generalize w.heap.size + 1 = jd at *
  cases h1 : decide (0 ≤ y ∧ y ≤ 400)
  · have e1 : gwB kn lo hi h n d x s g M m o t y = false := by unfold gwB gwG; rw [h1]; rfl
    have HR : Hid (gwB kn lo hi h n d x s g M m o t y = false ∧ gwI kn lo hi h n d x s g M m o t y = 0) := ⟨e1, gw_no e1⟩
    rw [h1] at C1
    clear e1 h1
    go_wp2_with fail
    refine (C1 _).mono ?_
    rintro e w' ⟨rfl, rfl⟩
    go_wp2_with fail
    go_ret2
    exact ⟨by rw [HR.out.1, HR.out.2]; rfl, B⟩
  cases h2 : okT t
  · have e1 : gwB kn lo hi h n d x s g M m o t y = false := by unfold gwB gwG; rw [h2]; simp
    have HR : Hid (gwB kn lo hi h n d x s g M m o t y = false ∧ gwI kn lo hi h n d x s g M m o t y = 0) := ⟨e1, gw_no e1⟩
    rw [h1] at C1
    rw [h2] at C2
    clear e1 h1 h2
    go_wp2_with fail
    refine (C1 _).mono ?_
    rintro e w' ⟨rfl, rfl⟩
    go_wp2_with fail
    refine (C2 _).mono ?_
    rintro e w' ⟨rfl, rfl⟩
    go_wp2_with fail
    go_ret2
    exact ⟨by rw [HR.out.1, HR.out.2]; rfl, B⟩
  have HG : Hid (gwG t y = true) := by unfold Hid gwG; rw [h1, h2]; rfl
  have hy := of_decide_eq_true h1
  have ht := okT_t h2
  rw [h1] at C1
  rw [h2] at C2
  clear h1 h2
  go_wp2_with fail
  refine (C1 _).mono ?_
  rintro e w' ⟨rfl, rfl⟩
  go_wp2_with fail
  refine (C2 _).mono ?_
  rintro e w' ⟨rfl, rfl⟩
  clear C1 C2
  go_wp2_with fail
  go_loopw [16] (fun i wr => ∃ (j : Nat), j ≤ y.toNat + 1 ∧ i = .int .i64 (j : Int) ∧ fnd (gwP kn lo hi h n d x s g M m o t) j = j ∧ BoxL wr w.heap.size kn lo hi h ∧ Bx2 wr jd (.int .i64 n) (.int .i64 d) ∧ Tx3 wr jn (.int .i64 s) (.int .i64 g) (.slice a m c) ∧ Below w.heap.size w wr) (fun i _ => y.toNat + 1 - (intOf i).toNat)
  case atStart => exact ⟨0, Nat.zero_le _, rfl, rfl, L, D, N, B⟩
  case round =>
    clear L D N B
    obtain ⟨j, hj2, rfl, hf, L, D, N, B⟩ := hrel
    by_cases hlt : (j : Int) ≤ y
    · have HLT : Hid (j + 1 ≤ y.toNat + 1) := by unfold Hid; omega
      have hw : IntKind.i64.wrap (t + (j : Int)) = t + (j : Int) := Go.IntWalk.i64_in _ ⟨by omega, by omega⟩
      have CC := fun w' => specCarryOn_any kn lo hi h n d (t + (j : Int)) w'
      have CA := fun w' hh => specGateAsk_any true (crL kn lo hi h n d (t + (j : Int))) (crH kn lo hi h n d (t + (j : Int))) n d x s g a m c M o w' hm hh
      have HP : Hid ((gwP kn lo hi h n d x s g M m o t) j = ((crC kn lo hi h n d (t + (j : Int)) == 0) && (gaC true (crL kn lo hi h n d (t + (j : Int))) (crH kn lo hi h n d (t + (j : Int))) n d x s g M m o == 0))) := rfl
      have HY : Hid ((gwP kn lo hi h n d x s g M m o t) j = true → gwB kn lo hi h n d x s g M m o t y = true ∧ gwI kn lo hi h n d x s g M m o t y = (j : Int)) := fun hp => gw_at HG.out hf hp hlt
      have HN : Hid ((gwP kn lo hi h n d x s g M m o t) j = false → fnd (gwP kn lo hi h n d x s g M m o t) (j + 1) = j + 1) := fun hp => fnd_miss hf hp
      clear hj2 hf HG
      generalize gaI true (crL kn lo hi h n d (t + (j : Int))) (crH kn lo hi h n d (t + (j : Int))) n d x s g M m o = GI at *
      generalize gaK true (crL kn lo hi h n d (t + (j : Int))) (crH kn lo hi h n d (t + (j : Int))) n d x s g M m o = GK at *
      generalize gaC true (crL kn lo hi h n d (t + (j : Int))) (crH kn lo hi h n d (t + (j : Int))) n d x s g M m o = GC at *
      generalize crL kn lo hi h n d (t + (j : Int)) = X at *
      generalize crH kn lo hi h n d (t + (j : Int)) = Y at *
      generalize crC kn lo hi h n d (t + (j : Int)) = Q at *
      obtain ⟨l0, l1, l2, l3, l4, l5, l6, l7, l8⟩ := id L
      obtain ⟨d0, d1, d2, d3, d4⟩ := id D
      go_wp2_with fail
      refine (CC _).mono ?_
      rintro e v2 ⟨rfl, hb⟩
      clear l0 l1 l2 l3 l4 l5 l6 l7 l8
      clear d0 d1 d2 d3 d4
      replace L := L.below hb; replace D := D.below hb; replace N := N.below hb; replace B := B.trans (hb.mono B.size); clear hb
      have hb := Below.nw v2 (.cells #[.int .i64 X, .int .i64 Y] 25)
      have Z := Bx2.new v2 (.int .i64 X) (.int .i64 Y) 25
      go_upto_region 7 with fail
      replace L := L.below hb; replace D := D.below hb; replace N := N.below hb; replace B := B.trans (hb.mono B.size); clear hb
      generalize v2.alloc (.cells #[.int .i64 X, .int .i64 Y] 25) = v3 at *
      generalize v2.heap.size = jz at *
      clear CC
      by_cases q1 : Q = 0
      · subst q1
        obtain ⟨d0, d1, d2, d3, d4⟩ := id D
        obtain ⟨n0, n1, n2, n3, n4, n5, n6⟩ := id N
        obtain ⟨z0, z1, z2, z3, z4⟩ := id Z
        go_wp2_with fail
        refine (CA _ (HS.out.below B)).mono ?_
        rintro e v4 ⟨rfl, hb⟩
        clear d0 d1 d2 d3 d4
        clear n0 n1 n2 n3 n4 n5 n6
        clear z0 z1 z2 z3 z4
        replace L := L.below hb; replace D := D.below hb; replace N := N.below hb; replace B := B.trans (hb.mono B.size); clear hb
        clear CA Z
        by_cases q2 : GC = 0
        · subst q2
          have HR : Hid (gwB kn lo hi h n d x s g M m o t y = true ∧ gwI kn lo hi h n d x s g M m o t y = (j : Int)) := HY.out (by rw [HP.out]; rfl)
          clear HY HN HP
          go_wp2_with fail
          go_ret2
          exact ⟨by rw [HR.out.1, HR.out.2]; rfl, B⟩
        · have HR : Hid (fnd (gwP kn lo hi h n d x s g M m o t) (j + 1) = j + 1) := HN.out (by rw [HP.out]; simp [q2])
          clear HY HN HP
          go_wp2_with fail
          go_roundw
          case rel => exact ⟨j + 1, HLT.out, by go_num, HR.out, L, D, N, B⟩
          case measure => have hlt' := HLT.out; simp [intOf]; omega
      · have HR : Hid (fnd (gwP kn lo hi h n d x s g M m o t) (j + 1) = j + 1) := HN.out (by rw [HP.out]; simp [q1])
        clear HY HN HP CA Z
        go_wp2_with fail
        go_roundw
        case rel => exact ⟨j + 1, HLT.out, by go_num, HR.out, L, D, N, B⟩
        case measure => have hlt' := HLT.out; simp [intOf]; omega
    · have e1 := gw_end hf hy.1 hj2 hlt
      have HR : Hid (gwB kn lo hi h n d x s g M m o t y = false ∧ gwI kn lo hi h n d x s g M m o t y = 0) := ⟨e1, gw_no e1⟩
      clear e1 hf hj2
      go_wp2_with fail
      go_ret2
      exact ⟨by rw [HR.out.1, HR.out.2]; rfl, B⟩
end Go.Proofs.YtcakhfobkbgfoaaDoor
