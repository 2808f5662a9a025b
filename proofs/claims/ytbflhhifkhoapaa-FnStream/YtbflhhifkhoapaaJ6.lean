/- Contracts of the reader: joined; what catches it in SplitMsgs. -/
import Derived.Test.YtbflhhifkhoapaaJ5
import Derived.Deep.DeepCutAuto
import Derived.WalkKit
import Derived.WalkSpells
import Derived.WalkLawsBesides
import Derived.Deep.RegionHeld
namespace Go.Proofs.Ytbflhhifkhoapaa
open Go.RowKit
set_option linter.unusedVariables false
theorem But.setN {p : Nat} {a w : World} (h : But p a w) {k : Nat} (hk : a.heap.size ≤ k) (o : Nat) (u : Value) : But p a (w.setCell ⟨k, o, none⟩ u) :=
  ⟨h.1, h.2.1, h.2.2.1, by rw [World.size_setCell]; exact h.2.2.2.1, fun j hj hp => (Below.heap_setCell w ⟨k, o, none⟩ u j (by simp; omega)).trans (h.2.2.2.2 j hj hp)⟩
theorem Rd.setO' {w : World} {p k : Nat} {a : Option Addr} {m c : Nat} {f : Nat → Int} {x : Int} (h : Rd w p a m c f x) (hk : p < k) (o : Nat) (u : Value) : Rd (w.setCell ⟨k, o, none⟩ u) p a m c f x := Rd.setO h hk o u
set_option maxHeartbeats 1000000 in
theorem joined_full (p : Nat) (q : Int) (w : World) (hq : (q == 40) = true) :
    Calls Try.prog 61 #[.pointer (some ⟨p, 0, none⟩), .int .i64 q] w fun e w' => e = .panicked (gave 6) ∧ But p w w' := by
  go_enter Try.func61, Try.ntmps61
  go_wp2_with fail
  refine (giveUp_any _ _).mono ?_
  rintro e w' ⟨rfl, rfl⟩
  (try go_wp2_with fail)
  exact ⟨rfl, rfl, But.of_below (Below.nw _ _)⟩
set_option maxHeartbeats 1000000 in
theorem joined_num (p : Nat) (a : Option Addr) (m c : Nat) (f : Nat → Int) (x q : Int) (w : World) (hr : Rd w p a m c f x) (h : (getI f m x).2.2 = false) (hq : (q == 40) = false) :
    Calls Try.prog 61 #[.pointer (some ⟨p, 0, none⟩), .int .i64 q] w fun e w' => e = .panicked (gave 4) ∧ But p w w' := by
  have A0 := Below.nw w (.cells #[.int .i64 0, .int .i64 0, .int .i64 0, .int .i64 0, .int .i64 0, .int .i64 0, .int .i64 0, .string ⟨#[]⟩] 27)
  have CN := num_f p a m c f x _ (hr.below A0) h
  clear hr h
  go_enter Try.func61, Try.ntmps61
  go_wp2_with fail
  refine CN.mono ?_
  rintro e w' ⟨rfl, hb⟩
  (try go_wp2_with fail)
  exact ⟨rfl, rfl, (But.of_below A0).trans hb⟩
set_option maxHeartbeats 1000000 in
theorem joined_short (p b off m c X N : Nat) (f : Nat → Int) (x q : Int) (w : World) (hr : Rd w p (some ⟨b, off, none⟩) m c f x) (h : getI f m x = ((N : Int), (X : Int), true)) (hs : (m : Int) - X < N) (hq : (q == 40) = false) :
    Calls Try.prog 61 #[.pointer (some ⟨p, 0, none⟩), .int .i64 q] w fun e w' => e = .panicked (gave 1) ∧ But p w w' := by
  have A0 := Below.nw w (.cells #[.int .i64 0, .int .i64 0, .int .i64 0, .int .i64 0, .int .i64 0, .int .i64 0, .int .i64 0, .string ⟨#[]⟩] 27)
  have CN := num_t p (some ⟨b, off, none⟩) m c f x _ (hr.below A0) (by rw [h])
  rw [h] at CN
  simp only at CN
  clear hr h
  go_enter Try.func61, Try.ntmps61
  go_wp2_with fail
  refine CN.mono ?_
  rintro e v1 ⟨rfl, RD, hb⟩
  have BT := (But.of_below A0).trans hb
  clear hb CN
  have CT := take_f p b off m c X N 1 f v1 RD hs
  go_wp2_with fail
  refine CT.mono ?_
  rintro e w' ⟨rfl, hb⟩
  (try go_wp2_with fail)
  exact ⟨rfl, rfl, BT.trans hb⟩
set_option maxHeartbeats 2000000 in
theorem joined_code (p b off m c X N : Nat) (f : Nat → Int) (x q k : Int) (x0 : Int) (x1 : Int) (x2 : Int) (x3 : Int) (x4 : Int) (x5 : Int) (x6 : Int) (x7 : ByteArray) (w : World) (hr : Rd w p (some ⟨b, off, none⟩) m c f x) (h : getI f m x = ((N : Int), (X : Int), true)) (hs : ¬ (m : Int) - X < N) (hU : unp (fun i => f (X + i)) N = (k, (x0, x1, x2, x3, x4, x5, x6, x7))) (hk : ¬ k = 0) (hq : (q == 40) = false) (HM20 : N ≤ 1048576) :
    Calls Try.prog 61 #[.pointer (some ⟨p, 0, none⟩), .int .i64 q] w fun e w' => e = .panicked (gave k) ∧ But p w w' := by
  have A0 := Below.nw w (.cells #[.int .i64 0, .int .i64 0, .int .i64 0, .int .i64 0, .int .i64 0, .int .i64 0, .int .i64 0, .string ⟨#[]⟩] 27)
  have R := Box8.new w 0 0 0 0 0 0 0 ⟨#[]⟩ 27
  have TT := Thaw8.new w 0 0 0 0 0 0 0 ⟨#[]⟩ 27
  have hpw := hr.1
  have hcm := hr.2.2.2.2.2.2.2.1
  have hmc := hr.2.2.2.2.2.2.1
  have CN := num_t p (some ⟨b, off, none⟩) m c f x _ (hr.below A0) (by rw [h])
  rw [h] at CN
  simp only at CN
  have hb1 := getI_bd (f := f) (n := m) (x := x) (fun i hi => (hr.2.2.2.2.2.2.2.2.2.2 i hi).1) (by rw [h])
  rw [h] at hb1
  simp only at hb1
  have HRR : Hid (∀ i, i < N → 0 ≤ (fun i => f (X + i)) i ∧ (fun i => f (X + i)) i ≤ 255) := fun i hi => hr.2.2.2.2.2.2.2.2.2.2 (X + i) (by omega)
  have hle : X + N ≤ m := by omega
  clear hr h hs hb1
  go_enter Try.func61, Try.ntmps61
  go_wp2_with fail
  refine CN.mono ?_
  rintro e v1 ⟨rfl, RD, hb⟩
  have BT := (But.of_below A0).trans hb
  replace TT := TT.but hb R.1 (by omega)
  replace R := R.but hb (by omega)
  clear hb CN A0
  have CT := take_any p b off m c X N 1 f v1 RD hle
  clear RD
  go_wp2_with fail
  refine CT.mono ?_
  rintro e v2 ⟨oo, rfl, ho, RD, hb⟩
  replace BT := BT.trans hb
  replace TT := TT.but hb R.1 (by omega)
  replace R := R.but hb (by omega)
  have hS : SrcB v2 (some ⟨b, oo, none⟩) N (fun i => f (X + i)) := by
    by_cases hN : N = 0
    · exact .inl hN
    · have e := ho (by omega)
      subst e
      exact SrcB.cut RD.2.2.2.2.2.2.2.2.1 hle
  have CU := implUnpack_any (some ⟨b, oo, none⟩) N (c - X) (fun i => f (X + i)) v2 HM20 (by omega) (by unfold maxLen at hcm ⊢; omega) hS HRR.out
  rw [hU] at CU
  simp only [uv, mv] at CU
  clear hb CT ho hS HRR
  go_wp2_with fail
  refine CU.mono ?_
  rintro e v3 ⟨rfl, hb⟩
  replace BT := BT.trans (But.of_below hb)
  replace TT := TT.belowB hb R.1
  replace R := R.below hb
  replace RD := RD.below hb
  clear hb CU
  have MB := Box8.new v3 x0 x1 x2 x3 x4 x5 x6 x7 27
  have A3 := Below.nw v3 (.cells #[.int .i64 x0, .int .i64 x1, .int .i64 x2, .int .i64 x3, .int .i64 x4, .int .i64 x5, .int .i64 x6, .string x7] 27)
  replace BT := BT.trans (But.of_below A3)
  replace TT := TT.belowB A3 R.1
  have hRv : w.heap.size < v3.heap.size := R.1
  replace R := R.below A3
  replace RD := RD.below A3
  clear A3
  have hkb : (k != 0) = true := by simp; exact hk
  go_wp2_with fail
  refine (giveUp_any _ _).mono ?_
  rintro e w' ⟨rfl, rfl⟩
  (try go_wp2_with fail)
  exact ⟨rfl, rfl, BT⟩
set_option maxHeartbeats 4000000 in
theorem joined_ok (p b off m c X N : Nat) (f : Nat → Int) (x q : Int) (x0 : Int) (x1 : Int) (x2 : Int) (x3 : Int) (x4 : Int) (x5 : Int) (x6 : Int) (x7 : ByteArray) (w : World) (hr : Rd w p (some ⟨b, off, none⟩) m c f x) (h : getI f m x = ((N : Int), (X : Int), true)) (hs : ¬ (m : Int) - X < N) (hU : unp (fun i => f (X + i)) N = (0, (x0, x1, x2, x3, x4, x5, x6, x7))) (hq : (q == 40) = false) (HM20 : N ≤ 1048576) :
    Calls Try.prog 61 #[.pointer (some ⟨p, 0, none⟩), .int .i64 q] w fun e w' => e = .returned (.agg #[.int .i64 x0, .int .i64 x1, .int .i64 x2, .int .i64 x3, .int .i64 x4, .int .i64 x5, .int .i64 x6, .string x7]) ∧ Rd w' p (some ⟨b, off, none⟩) m c f ((X : Int) + N) ∧ But p w w' := by
  have A0 := Below.nw w (.cells #[.int .i64 0, .int .i64 0, .int .i64 0, .int .i64 0, .int .i64 0, .int .i64 0, .int .i64 0, .string ⟨#[]⟩] 27)
  have R := Box8.new w 0 0 0 0 0 0 0 ⟨#[]⟩ 27
  have TT := Thaw8.new w 0 0 0 0 0 0 0 ⟨#[]⟩ 27
  have hpw := hr.1
  have hcm := hr.2.2.2.2.2.2.2.1
  have hmc := hr.2.2.2.2.2.2.1
  have CN := num_t p (some ⟨b, off, none⟩) m c f x _ (hr.below A0) (by rw [h])
  rw [h] at CN
  simp only at CN
  have hb1 := getI_bd (f := f) (n := m) (x := x) (fun i hi => (hr.2.2.2.2.2.2.2.2.2.2 i hi).1) (by rw [h])
  rw [h] at hb1
  simp only at hb1
  have HRR : Hid (∀ i, i < N → 0 ≤ (fun i => f (X + i)) i ∧ (fun i => f (X + i)) i ≤ 255) := fun i hi => hr.2.2.2.2.2.2.2.2.2.2 (X + i) (by omega)
  have hle : X + N ≤ m := by omega
  clear hr h hs hb1
  go_enter Try.func61, Try.ntmps61
  go_wp2_with fail
  refine CN.mono ?_
  rintro e v1 ⟨rfl, RD, hb⟩
  have BT := (But.of_below A0).trans hb
  replace TT := TT.but hb R.1 (by omega)
  replace R := R.but hb (by omega)
  clear hb CN A0
  have CT := take_any p b off m c X N 1 f v1 RD hle
  clear RD
  go_wp2_with fail
  refine CT.mono ?_
  rintro e v2 ⟨oo, rfl, ho, RD, hb⟩
  replace BT := BT.trans hb
  replace TT := TT.but hb R.1 (by omega)
  replace R := R.but hb (by omega)
  have hS : SrcB v2 (some ⟨b, oo, none⟩) N (fun i => f (X + i)) := by
    by_cases hN : N = 0
    · exact .inl hN
    · have e := ho (by omega)
      subst e
      exact SrcB.cut RD.2.2.2.2.2.2.2.2.1 hle
  have CU := implUnpack_any (some ⟨b, oo, none⟩) N (c - X) (fun i => f (X + i)) v2 HM20 (by omega) (by unfold maxLen at hcm ⊢; omega) hS HRR.out
  rw [hU] at CU
  simp only [uv, mv] at CU
  clear hb CT ho hS HRR
  go_wp2_with fail
  refine CU.mono ?_
  rintro e v3 ⟨rfl, hb⟩
  replace BT := BT.trans (But.of_below hb)
  replace TT := TT.belowB hb R.1
  replace R := R.below hb
  replace RD := RD.below hb
  clear hb CU
  have MB := Box8.new v3 x0 x1 x2 x3 x4 x5 x6 x7 27
  have A3 := Below.nw v3 (.cells #[.int .i64 x0, .int .i64 x1, .int .i64 x2, .int .i64 x3, .int .i64 x4, .int .i64 x5, .int .i64 x6, .string x7] 27)
  replace BT := BT.trans (But.of_below A3)
  replace TT := TT.belowB A3 R.1
  have hRv : w.heap.size < v3.heap.size := R.1
  replace R := R.below A3
  replace RD := RD.below A3
  clear A3
  go_upto_region 7 with fail
  generalize v3.alloc (.cells #[.int .i64 x0, .int .i64 x1, .int .i64 x2, .int .i64 x3, .int .i64 x4, .int .i64 x5, .int .i64 x6, .string x7] 27) = wm at *
  have Q := ((((((((R.set0 x0).set1 x1).set2 x2).set3 x3).set4 x4).set5 x5).set6 x6).set7 x7)
  have QB : But p w ((((((((wm.setCell ⟨w.heap.size, 0, none⟩ (.int .i64 x0)).setCell ⟨w.heap.size, 1, none⟩ (.int .i64 x1)).setCell ⟨w.heap.size, 2, none⟩ (.int .i64 x2)).setCell ⟨w.heap.size, 3, none⟩ (.int .i64 x3)).setCell ⟨w.heap.size, 4, none⟩ (.int .i64 x4)).setCell ⟨w.heap.size, 5, none⟩ (.int .i64 x5)).setCell ⟨w.heap.size, 6, none⟩ (.int .i64 x6)).setCell ⟨w.heap.size, 7, none⟩ (.string x7)) := ((((((((BT.setN (Nat.le_refl _) _ _).setN (Nat.le_refl _) _ _).setN (Nat.le_refl _) _ _).setN (Nat.le_refl _) _ _).setN (Nat.le_refl _) _ _).setN (Nat.le_refl _) _ _).setN (Nat.le_refl _) _ _).setN (Nat.le_refl _) _ _)
  have QD : Rd ((((((((wm.setCell ⟨w.heap.size, 0, none⟩ (.int .i64 x0)).setCell ⟨w.heap.size, 1, none⟩ (.int .i64 x1)).setCell ⟨w.heap.size, 2, none⟩ (.int .i64 x2)).setCell ⟨w.heap.size, 3, none⟩ (.int .i64 x3)).setCell ⟨w.heap.size, 4, none⟩ (.int .i64 x4)).setCell ⟨w.heap.size, 5, none⟩ (.int .i64 x5)).setCell ⟨w.heap.size, 6, none⟩ (.int .i64 x6)).setCell ⟨w.heap.size, 7, none⟩ (.string x7)) p (some ⟨b, off, none⟩) m c f ((X : Int) + N) := ((((((((RD.setO' (by omega) _ _).setO' (by omega) _ _).setO' (by omega) _ _).setO' (by omega) _ _).setO' (by omega) _ _).setO' (by omega) _ _).setO' (by omega) _ _).setO' (by omega) _ _)
  obtain ⟨m0, m1, m2, m3, m4, m5, m6, m7, m8⟩ := MB
  obtain ⟨r0, r1, r2, r3, r4, r5, r6, r7, r8⟩ := R
  obtain ⟨t0, t1, t2, t3, t4, t5, t6, t7⟩ := TT
  clear RD BT
  go_wp2_with fail
  generalize ((((((((wm.setCell ⟨w.heap.size, 0, none⟩ (.int .i64 x0)).setCell ⟨w.heap.size, 1, none⟩ (.int .i64 x1)).setCell ⟨w.heap.size, 2, none⟩ (.int .i64 x2)).setCell ⟨w.heap.size, 3, none⟩ (.int .i64 x3)).setCell ⟨w.heap.size, 4, none⟩ (.int .i64 x4)).setCell ⟨w.heap.size, 5, none⟩ (.int .i64 x5)).setCell ⟨w.heap.size, 6, none⟩ (.int .i64 x6)).setCell ⟨w.heap.size, 7, none⟩ (.string x7)) = wq at *
  obtain ⟨q0, q1, q2, q3, q4, q5, q6, q7, q8⟩ := Q
  exact bodyPost_ret (v := .agg #[.int .i64 x0, .int .i64 x1, .int .i64 x2, .int .i64 x3, .int .i64 x4, .int .i64 x5, .int .i64 x6, .string x7]) (by simp (maxDischargeDepth := 6) [results, Try.results61, go_sem, q1, q2, q3, q4, q5, q6, q7, q8]) rfl ⟨rfl, QD, QB⟩
set_option maxHeartbeats 4000000 in
theorem catch2_gave (pc : Nat) (c x : Int) (older : List PanicEntry) (w : World) (hc : w.cell? ⟨pc, 0, none⟩ = some (.int .i64 x)) (hz : w.frozen? ⟨pc, 0, none⟩ = false) :
    CallsD Try.prog 60 #[.pointer (some ⟨pc, 0, none⟩)] (.panicking ({ v := .iface 97 (.int .i64 c), recovered := false } :: older)) w fun e u' w' =>
      e = .returned (.tuple #[]) ∧ u' = .panicking ({ v := .iface 97 (.int .i64 c), recovered := true } :: older) ∧ w' = w.setCell ⟨pc, 0, none⟩ (.int .i64 c) := by
  refine callsD_of_wpS Try.func60 rfl fun c₀ cs hu => ?_
  apply wpS_seq
  apply wpS_region
  simp [wpOpsS, go_sem, recoverD, hu, Try.ntmps60, Exit.thenS]
  refine wpS_of_wp ?_
  show Code.wp _ _ _ { tmps := #[.pointer (some ⟨pc, 0, none⟩), .iface 97 (.int .i64 c), .iface 97 (.int .i64 c), undef, undef, undef, undef], defers := [] } _
  go_wp2_with fail
  refine (codeOf_any c _).mono ?_
  rintro e w' ⟨rfl, rfl⟩
  go_wp2_with fail
  cases c₀
  simp_all [bodyPostS, results, Try.results60]
set_option maxHeartbeats 1000000 in
theorem catch2_idle (pc : Nat) (w : World) :
    CallsD Try.prog 60 #[.pointer (some ⟨pc, 0, none⟩)] .returning w fun e u' w' => e = .returned (.tuple #[]) ∧ u' = .returning ∧ w' = w := by
  refine callsD_of_wpS Try.func60 rfl fun c₀ cs hu => ?_
  apply wpS_seq
  apply wpS_region
  simp [wpOpsS, go_sem, recoverD, hu, Try.ntmps60, Exit.thenS]
  refine wpS_of_wp ?_
  show Code.wp _ _ _ { tmps := #[.pointer (some ⟨pc, 0, none⟩), .nilIface, .nilIface, undef, undef, undef, undef], defers := [] } _
  go_wp2_with fail
  cases c₀
  simp_all [bodyPostS, results, Try.results60]
end Go.Proofs.Ytbflhhifkhoapaa
