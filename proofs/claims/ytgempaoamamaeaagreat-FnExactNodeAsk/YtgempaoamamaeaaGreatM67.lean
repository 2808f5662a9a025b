/- Issue, ExpireAsks and Again in the specification of a table whose list may be nil. -/
import Derived.MapKept
import Derived.Test.YtgempaoamamaeaaGreatM63
import Derived.Test.YtgempaoamamaeaaGreatM65
namespace Go.Proofs.YtgempaoamamaeaaGreat
open Go.RowKit
set_option linter.unusedVariables false
set_option maxHeartbeats 8000000 in
theorem specIssue_spentO (ep us : Int) (A : Option Addr) (n c : Nat) (M : Nat → KT) (x y : Int) (w : World) (hm : n ≤ maxLen) (hf : FromsO w A M n c) (ht : tabB ep us M n = true) (h1 : nodB x = true) (h2 : tmB y = true) (hu : Hid (us = 1000)) :
    Calls Tryz.prog 32 #[.agg #[.int .i64 ep, .int .i64 us, .slice A n c], .int .i64 x, .int .i64 y] w fun e w' => ∃ a' c', e = .returned (.tuple #[.agg #[.int .i64 ep, .int .i64 us, .slice a' n c'], .int .i64 0, .int .i64 2]) ∧ w'.ownsRow w.heap.size 125 4 (.slice a' n c') n (krow M n) ∧ Below w.heap.size w w' := by
  have hn16 := tabB_len' ht
  have N := (IB3.new w ep us A n c 52).below (Below.nw _ (.cells #[.int .i64 0, .int .i64 0, .slice none 0 0] 52))
  have R := Bx3.new (w.alloc (.cells #[.int .i64 ep, .int .i64 us, .slice A n c] 52)) (.int .i64 0) (.int .i64 0) (.slice none 0 0) 52
  have CS := (hf.below (Below.nw w (.cells #[.int .i64 ep, .int .i64 us, .slice A n c] 52))).below (Below.nw _ (.cells #[.int .i64 0, .int .i64 0, .slice none 0 0] 52))
  have B := (Below.nw w (.cells #[.int .i64 ep, .int .i64 us, .slice A n c] 52)).trans ((Below.nw (w.alloc (.cells #[.int .i64 ep, .int .i64 us, .slice A n c] 52)) (.cells #[.int .i64 0, .int .i64 0, .slice none 0 0] 52)).mono (by simp))
  simp only [World.size_alloc] at R
  have C := specTab_any ep us A n c M _ hm CS.src
  clear hf
  go_enter Tryz.func32, Tryz.ntmps32
  go_upto_region 1 with fail
  generalize (w.alloc (.cells #[.int .i64 ep, .int .i64 us, .slice A n c] 52)).alloc (.cells #[.int .i64 0, .int .i64 0, .slice none 0 0] 52) = wa at *
  have hJ1 := R.1
  obtain ⟨n9, n0, n1, n2⟩ := id N
  go_wp2_with fail
  refine C.mono ?_
  rintro e wz ⟨rfl, hb⟩
  clear n9 n0 n1 n2
  replace N := N.below hb
  replace R := R.below hb
  replace CS := CS.below hb
  replace B := B.trans (hb.mono B.size)
  have hzz := hb.size
  clear hb C
  rw [ht]
  go_wp2_with fail
  refine (l4Node_any _ _).mono ?_
  rintro e w' ⟨rfl, rfl⟩
  rw [h1]
  go_wp2_with fail
  refine (l2Time_any5 _ _).mono ?_
  rintro e w' ⟨rfl, rfl⟩
  rw [h2]
  obtain ⟨n9, n0, n1, n2⟩ := id N
  have hu1 : (us == 1000) = true := by rw [hu.out]; rfl
  go_wp2_with fail
  refine (l7Copy_opt ep us A n c M _ (by omega) CS).mono ?_
  rintro e w6 ⟨a', c', rfl, OW, hb6⟩
  clear n9 n0 n1 n2 hu1
  replace R := R.below hb6
  have hw56 : w.heap.size ≤ wz.heap.size := by omega
  replace B := B.trans (hb6.mono B.size)
  clear hb6 CS
  have RQ := R.set (.int .i64 ep) (.int .i64 us) (.slice a' n c')
  have PB := put3_butK w6 (w.heap.size + 1) (.int .i64 ep) (.int .i64 us) (.slice a' n c')
  have BQ := B.trans (PB.below (B := w.heap.size) (by omega) B.size)
  have OQ := ownK_le (base' := w.heap.size) (own_butK OW PB (by omega)) hw56
  obtain ⟨r0, r1, r2, r3, r4, r5, r6⟩ := R
  clear PB
  go_wp2_with fail
  generalize (((w6.setCell ⟨w.heap.size + 1, 0, none⟩ (.int .i64 ep)).setCell ⟨w.heap.size + 1, 1, none⟩ (.int .i64 us)).setCell ⟨w.heap.size + 1, 2, none⟩ (.slice a' n c')) = wq at *
  obtain ⟨q0, q1, q2, q3, q4, q5, q6⟩ := RQ
  exact bodyPost_ret (v := .tuple #[.agg #[.int .i64 ep, .int .i64 us, .slice a' n c'], .int .i64 0, .int .i64 2]) (by simp (maxDischargeDepth := 6) [results, Tryz.results32, go_sem, q1, q2, q3]) rfl ⟨_, _, rfl, OQ, BQ⟩
set_option maxHeartbeats 8000000 in
theorem specIssue_fullO (ep us : Int) (A : Option Addr) (n c : Nat) (M : Nat → KT) (x y : Int) (w : World) (hm : n ≤ maxLen) (hf : FromsO w A M n c) (ht : tabB ep us M n = true) (h1 : nodB x = true) (h2 : tmB y = true) (hu : us ≠ 1000) (h16 : Hid (n = 16)) :
    Calls Tryz.prog 32 #[.agg #[.int .i64 ep, .int .i64 us, .slice A n c], .int .i64 x, .int .i64 y] w fun e w' => ∃ a' c', e = .returned (.tuple #[.agg #[.int .i64 ep, .int .i64 us, .slice a' n c'], .int .i64 0, .int .i64 3]) ∧ w'.ownsRow w.heap.size 125 4 (.slice a' n c') n (krow M n) ∧ Below w.heap.size w w' := by
  have hn16 := tabB_len' ht
  have N := (IB3.new w ep us A n c 52).below (Below.nw _ (.cells #[.int .i64 0, .int .i64 0, .slice none 0 0] 52))
  have R := Bx3.new (w.alloc (.cells #[.int .i64 ep, .int .i64 us, .slice A n c] 52)) (.int .i64 0) (.int .i64 0) (.slice none 0 0) 52
  have CS := (hf.below (Below.nw w (.cells #[.int .i64 ep, .int .i64 us, .slice A n c] 52))).below (Below.nw _ (.cells #[.int .i64 0, .int .i64 0, .slice none 0 0] 52))
  have B := (Below.nw w (.cells #[.int .i64 ep, .int .i64 us, .slice A n c] 52)).trans ((Below.nw (w.alloc (.cells #[.int .i64 ep, .int .i64 us, .slice A n c] 52)) (.cells #[.int .i64 0, .int .i64 0, .slice none 0 0] 52)).mono (by simp))
  simp only [World.size_alloc] at R
  have C := specTab_any ep us A n c M _ hm CS.src
  clear hf
  go_enter Tryz.func32, Tryz.ntmps32
  go_upto_region 1 with fail
  generalize (w.alloc (.cells #[.int .i64 ep, .int .i64 us, .slice A n c] 52)).alloc (.cells #[.int .i64 0, .int .i64 0, .slice none 0 0] 52) = wa at *
  have hJ1 := R.1
  obtain ⟨n9, n0, n1, n2⟩ := id N
  go_wp2_with fail
  refine C.mono ?_
  rintro e wz ⟨rfl, hb⟩
  clear n9 n0 n1 n2
  replace N := N.below hb
  replace R := R.below hb
  replace CS := CS.below hb
  replace B := B.trans (hb.mono B.size)
  have hzz := hb.size
  clear hb C
  rw [ht]
  go_wp2_with fail
  refine (l4Node_any _ _).mono ?_
  rintro e w' ⟨rfl, rfl⟩
  rw [h1]
  go_wp2_with fail
  refine (l2Time_any5 _ _).mono ?_
  rintro e w' ⟨rfl, rfl⟩
  rw [h2]
  obtain ⟨n9, n0, n1, n2⟩ := id N
  have hu1 : (us == 1000) = false := by simpa using hu
  have hl1 : ((n : Int) == 16) = true := by rw [h16.out]; rfl
  go_wp2_with fail
  refine (l7Copy_opt ep us A n c M _ (by omega) CS).mono ?_
  rintro e w6 ⟨a', c', rfl, OW, hb6⟩
  clear n9 n0 n1 n2 hu1 hl1
  replace R := R.below hb6
  have hw56 : w.heap.size ≤ wz.heap.size := by omega
  replace B := B.trans (hb6.mono B.size)
  clear hb6 CS
  have RQ := R.set (.int .i64 ep) (.int .i64 us) (.slice a' n c')
  have PB := put3_butK w6 (w.heap.size + 1) (.int .i64 ep) (.int .i64 us) (.slice a' n c')
  have BQ := B.trans (PB.below (B := w.heap.size) (by omega) B.size)
  have OQ := ownK_le (base' := w.heap.size) (own_butK OW PB (by omega)) hw56
  obtain ⟨r0, r1, r2, r3, r4, r5, r6⟩ := R
  clear PB
  go_wp2_with fail
  generalize (((w6.setCell ⟨w.heap.size + 1, 0, none⟩ (.int .i64 ep)).setCell ⟨w.heap.size + 1, 1, none⟩ (.int .i64 us)).setCell ⟨w.heap.size + 1, 2, none⟩ (.slice a' n c')) = wq at *
  obtain ⟨q0, q1, q2, q3, q4, q5, q6⟩ := RQ
  exact bodyPost_ret (v := .tuple #[.agg #[.int .i64 ep, .int .i64 us, .slice a' n c'], .int .i64 0, .int .i64 3]) (by simp (maxDischargeDepth := 6) [results, Tryz.results32, go_sem, q1, q2, q3]) rfl ⟨_, _, rfl, OQ, BQ⟩
set_option maxRecDepth 100000 in
set_option maxHeartbeats 8000000 in
theorem specIssue_doneO (ep us : Int) (A : Option Addr) (n c : Nat) (M : Nat → KT) (x y : Int) (w : World) (hm : n ≤ maxLen) (hf : FromsO w A M n c) (ht : tabB ep us M n = true) (h1 : nodB x = true) (h2 : tmB y = true) (hu : us ≠ 1000) (h16 : n ≠ 16) (nn : Int) (hnn : ep * 1000 + us = nn) :
    Calls Tryz.prog 32 #[.agg #[.int .i64 ep, .int .i64 us, .slice A n c], .int .i64 x, .int .i64 y] w fun e w' => ∃ a' c', e = .returned (.tuple #[.agg #[.int .i64 ep, .int .i64 (us + 1), .slice a' (n + 1) c'], .int .i64 nn, .int .i64 0]) ∧ w'.ownsRow w.heap.size 125 4 (.slice a' (n + 1) c') (n + 1) (krow (addG M n (kT nn x y 1)) (n + 1)) ∧ Below w.heap.size w w' := by
  have hn16 := tabB_len' ht
  have hnums := tabB_nums ht
  have N := (IB3.new w ep us A n c 52).below (Below.nw _ (.cells #[.int .i64 0, .int .i64 0, .slice none 0 0] 52))
  have R := Bx3.new (w.alloc (.cells #[.int .i64 ep, .int .i64 us, .slice A n c] 52)) (.int .i64 0) (.int .i64 0) (.slice none 0 0) 52
  have CS := (hf.below (Below.nw w (.cells #[.int .i64 ep, .int .i64 us, .slice A n c] 52))).below (Below.nw _ (.cells #[.int .i64 0, .int .i64 0, .slice none 0 0] 52))
  have B := (Below.nw w (.cells #[.int .i64 ep, .int .i64 us, .slice A n c] 52)).trans ((Below.nw (w.alloc (.cells #[.int .i64 ep, .int .i64 us, .slice A n c] 52)) (.cells #[.int .i64 0, .int .i64 0, .slice none 0 0] 52)).mono (by simp))
  simp only [World.size_alloc] at R
  have C := specTab_any ep us A n c M _ hm CS.src
  clear hf
  go_enter Tryz.func32, Tryz.ntmps32
  go_upto_region 1 with fail
  generalize (w.alloc (.cells #[.int .i64 ep, .int .i64 us, .slice A n c] 52)).alloc (.cells #[.int .i64 0, .int .i64 0, .slice none 0 0] 52) = wa at *
  have hJ1 := R.1
  obtain ⟨n9, n0, n1, n2⟩ := id N
  go_wp2_with fail
  refine C.mono ?_
  rintro e wz ⟨rfl, hb⟩
  clear n9 n0 n1 n2
  replace N := N.below hb
  replace R := R.below hb
  replace CS := CS.below hb
  replace B := B.trans (hb.mono B.size)
  have hzz := hb.size
  clear hb C
  rw [ht]
  go_wp2_with fail
  refine (l4Node_any _ _).mono ?_
  rintro e w' ⟨rfl, rfl⟩
  rw [h1]
  go_wp2_with fail
  refine (l2Time_any5 _ _).mono ?_
  rintro e w' ⟨rfl, rfl⟩
  rw [h2]
  obtain ⟨n9, n0, n1, n2⟩ := id N
  have hu1 : (us == 1000) = false := by simpa using hu
  have hl1 : ((n : Int) == 16) = false := by simp; omega
  go_wp2_with fail
  refine (l7Put_opt ep us x y 1 nn A n c M _ (by omega) CS hnums.1 hnums.2 hnn).mono ?_
  rintro e w6 ⟨a', c', rfl, OW, hb6⟩
  clear n9 n0 n1 n2 hu1 hl1 hnums hnn hu h16
  have hw5 : w.heap.size + 1 < wz.heap.size := R.1
  replace R := R.below hb6
  have hw56 : w.heap.size ≤ wz.heap.size := by omega
  have hs6 := hb6.size
  have OWL : ∀ g, (Value.slice a' (n + 1) c').ownBlock = some g → wz.heap.size ≤ g ∧ g < w6.heap.size := fun g hg => World.ownsRow.lt OW g hg
  replace B := B.trans (hb6.mono B.size)
  clear hb6 CS
  have A1 := Below.nw w6 (.cells #[.int .i64 ep, .int .i64 (us + 1), .slice a' (n + 1) c'] 52)
  have Ox := (Bx3.new w6 (.int .i64 ep) (.int .i64 (us + 1)) (.slice a' (n + 1) c') 52).below (Below.nw _ (.cells #[.int .i64 nn, .int .i64 x, .int .i64 y, .int .i64 1] 125))
  have A2 := Below.nw (w6.alloc (.cells #[.int .i64 ep, .int .i64 (us + 1), .slice a' (n + 1) c'] 52)) (.cells #[.int .i64 nn, .int .i64 x, .int .i64 y, .int .i64 1] 125)
  have Kx := Bf4.new (w6.alloc (.cells #[.int .i64 ep, .int .i64 (us + 1), .slice a' (n + 1) c'] 52)) nn x y 1 125
  simp only [World.size_alloc] at Kx
  replace R := (R.below A1).below A2
  replace OW := own_belK' (own_belK' OW A1) A2
  replace B := (B.trans (A1.mono B.size)).trans (A2.mono (B.trans (A1.mono B.size)).size)
  clear A1 A2
  go_upto_region 8 with fail
  generalize hbo : w6.heap.size = bo at *
  generalize (w6.alloc (.cells #[.int .i64 ep, .int .i64 (us + 1), .slice a' (n + 1) c'] 52)).alloc (.cells #[.int .i64 nn, .int .i64 x, .int .i64 y, .int .i64 1] 125) = w7 at *
  have RQ := R.set (.int .i64 ep) (.int .i64 (us + 1)) (.slice a' (n + 1) c')
  have PB := put3_butK w7 (w.heap.size + 1) (.int .i64 ep) (.int .i64 (us + 1)) (.slice a' (n + 1) c')
  have BQ := B.trans (PB.below (B := w.heap.size) (by omega) B.size)
  have OQ := ownK_le (base' := w.heap.size) (own_butK OW PB (by omega)) hw56
  have KZ : Hid (World.ownsRow _ _ _ _ _ _ _ ∧ Below _ _ _) := ⟨OQ, BQ⟩
  obtain ⟨r0, r1, r2, r3, r4, r5, r6⟩ := R
  obtain ⟨o0, o1, o2, o3, -, -, -⟩ := Ox
  obtain ⟨⟨k0, k1, k2, k3, k4⟩, -, -, -, -⟩ := Kx
  have hd1 : ¬ bo = w.heap.size := by omega
  have hd2 : ¬ w.heap.size = bo := by omega
  clear PB BQ OQ OW OWL B N
  go_region
  clear r0 r1 r2 r3 r4 r5 r6 o0 o1 o2 o3 k0 k1 k2 k3 k4
  generalize (((w7.setCell ⟨w.heap.size + 1, 0, none⟩ (.int .i64 ep)).setCell ⟨w.heap.size + 1, 1, none⟩ (.int .i64 (us + 1))).setCell ⟨w.heap.size + 1, 2, none⟩ (.slice a' (n + 1) c')) = wq at *
  obtain ⟨q0, q1, q2, q3, -, -, -⟩ := RQ
  go_wp2_with fail
  exact bodyPost_ret (v := .tuple #[.agg #[.int .i64 ep, .int .i64 (us + 1), .slice a' (n + 1) c'], .int .i64 nn, .int .i64 0]) (by simp (maxDischargeDepth := 6) [results, Tryz.results32, go_sem, *]) rfl ⟨a', c', rfl, World.ownsRow.drew KZ.out.1, Below.drew KZ.out.2⟩
end Go.Proofs.YtgempaoamamaeaaGreat
