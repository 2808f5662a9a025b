/- Issue, ExpireAsks and Again in the specification of a table whose list may be nil. -/
import Derived.Test.YtlaladalnbdhpaaC8
import Derived.Test.YtlaladalnbdhpaaF9
import Derived.Test.YtlaladalnbdhpaaG72
import Derived.Deep.RegionHeld3
import Derived.Deep.DeepCutAuto
import Derived.WalkKit
import Derived.WalkSpells
import Derived.WalkLawsBesides
import Derived.Deep.RegionHeld
namespace Go.Proofs.Ytlaladalnbdhpaa
open Go.RowKit
set_option linter.unusedVariables false
set_option maxHeartbeats 8000000 in
theorem specIssue_spentO (ep us : Int) (A : Option Addr) (n c : Nat) (M : Nat → KT) (x y : Int) (w : World) (hm : n ≤ maxLen) (hf : FromsO w A M n c) (ht : tabB ep us M n = true) (h1 : nodB x = true) (h2 : tmB y = true) (hu : Hid (us = 1000)) :
    Calls Try.prog 6 #[.agg #[.int .i64 ep, .int .i64 us, .slice A n c], .int .i64 x, .int .i64 y] w fun e w' => ∃ a' c', e = .returned (.tuple #[.agg #[.int .i64 ep, .int .i64 us, .slice a' n c'], .int .i64 0, .int .i64 2]) ∧ w'.ownsRow w.heap.size 34 4 (.slice a' n c') n (krow M n) ∧ Below w.heap.size w w' := by
  have hn16 := tabB_len' ht
  have N := (IB3.new w ep us A n c 26).below (Below.nw _ (.cells #[.int .i64 0, .int .i64 0, .slice none 0 0] 26))
  have R := Bx3.new (w.alloc (.cells #[.int .i64 ep, .int .i64 us, .slice A n c] 26)) (.int .i64 0) (.int .i64 0) (.slice none 0 0) 26
  have CS := (hf.below (Below.nw w (.cells #[.int .i64 ep, .int .i64 us, .slice A n c] 26))).below (Below.nw _ (.cells #[.int .i64 0, .int .i64 0, .slice none 0 0] 26))
  have B := (Below.nw w (.cells #[.int .i64 ep, .int .i64 us, .slice A n c] 26)).trans ((Below.nw (w.alloc (.cells #[.int .i64 ep, .int .i64 us, .slice A n c] 26)) (.cells #[.int .i64 0, .int .i64 0, .slice none 0 0] 26)).mono (by simp))
  simp only [World.size_alloc] at R
  have C := specTab_any ep us A n c M _ hm CS.src
  clear hf
  go_enter Try.func6, Try.ntmps6
  go_upto_region 1 with fail
  generalize (w.alloc (.cells #[.int .i64 ep, .int .i64 us, .slice A n c] 26)).alloc (.cells #[.int .i64 0, .int .i64 0, .slice none 0 0] 26) = wa at *
  have hJ1 := R.1
  obtain ⟨n9, n0, n1, n2⟩ := id N
  go_wp2_with fail
  refine C.mono ?_
  rintro e wz ⟨rfl, hb⟩
  clear n9 n0 n1 n2
  replace N := N.below hb
  replace R := R.below hb
  replace CS := CS.below hb
  replace B := B.trans (hb.mono B.size)
  have hzz := hb.size
  clear hb C
  rw [ht]
  go_wp2_with fail
  refine (l4Node_any _ _).mono ?_
  rintro e w' ⟨rfl, rfl⟩
  rw [h1]
  go_wp2_with fail
  refine (l2Time_any _ _).mono ?_
  rintro e w' ⟨rfl, rfl⟩
  rw [h2]
  obtain ⟨n9, n0, n1, n2⟩ := id N
  have hu1 : (us == 1000) = true := by rw [hu.out]; rfl
  go_wp2_with fail
  refine (l7Copy_opt ep us A n c M _ (by omega) CS).mono ?_
  rintro e w6 ⟨a', c', rfl, OW, hb6⟩
  clear n9 n0 n1 n2 hu1
  replace R := R.below hb6
  have hw56 : w.heap.size ≤ wz.heap.size := by omega
  replace B := B.trans (hb6.mono B.size)
  clear hb6 CS
  have RQ := R.set (.int .i64 ep) (.int .i64 us) (.slice a' n c')
  have PB := put3_butK w6 (w.heap.size + 1) (.int .i64 ep) (.int .i64 us) (.slice a' n c')
  have BQ := B.trans (PB.below (B := w.heap.size) (by omega) B.size)
  have OQ := ownK_le (base' := w.heap.size) (own_butK OW PB (by omega)) hw56
  obtain ⟨r0, r1, r2, r3, r4, r5, r6⟩ := R
  clear PB
  go_wp2_with fail
  generalize (((w6.setCell ⟨w.heap.size + 1, 0, none⟩ (.int .i64 ep)).setCell ⟨w.heap.size + 1, 1, none⟩ (.int .i64 us)).setCell ⟨w.heap.size + 1, 2, none⟩ (.slice a' n c')) = wq at *
  obtain ⟨q0, q1, q2, q3, q4, q5, q6⟩ := RQ
  exact bodyPost_ret (v := .tuple #[.agg #[.int .i64 ep, .int .i64 us, .slice a' n c'], .int .i64 0, .int .i64 2]) (by simp (maxDischargeDepth := 6) [results, Try.results6, go_sem, q1, q2, q3]) rfl ⟨_, _, rfl, OQ, BQ⟩
set_option maxHeartbeats 8000000 in
theorem specIssue_fullO (ep us : Int) (A : Option Addr) (n c : Nat) (M : Nat → KT) (x y : Int) (w : World) (hm : n ≤ maxLen) (hf : FromsO w A M n c) (ht : tabB ep us M n = true) (h1 : nodB x = true) (h2 : tmB y = true) (hu : us ≠ 1000) (h16 : Hid (n = 16)) :
    Calls Try.prog 6 #[.agg #[.int .i64 ep, .int .i64 us, .slice A n c], .int .i64 x, .int .i64 y] w fun e w' => ∃ a' c', e = .returned (.tuple #[.agg #[.int .i64 ep, .int .i64 us, .slice a' n c'], .int .i64 0, .int .i64 3]) ∧ w'.ownsRow w.heap.size 34 4 (.slice a' n c') n (krow M n) ∧ Below w.heap.size w w' := by
  have hn16 := tabB_len' ht
  have N := (IB3.new w ep us A n c 26).below (Below.nw _ (.cells #[.int .i64 0, .int .i64 0, .slice none 0 0] 26))
  have R := Bx3.new (w.alloc (.cells #[.int .i64 ep, .int .i64 us, .slice A n c] 26)) (.int .i64 0) (.int .i64 0) (.slice none 0 0) 26
  have CS := (hf.below (Below.nw w (.cells #[.int .i64 ep, .int .i64 us, .slice A n c] 26))).below (Below.nw _ (.cells #[.int .i64 0, .int .i64 0, .slice none 0 0] 26))
  have B := (Below.nw w (.cells #[.int .i64 ep, .int .i64 us, .slice A n c] 26)).trans ((Below.nw (w.alloc (.cells #[.int .i64 ep, .int .i64 us, .slice A n c] 26)) (.cells #[.int .i64 0, .int .i64 0, .slice none 0 0] 26)).mono (by simp))
  simp only [World.size_alloc] at R
  have C := specTab_any ep us A n c M _ hm CS.src
  clear hf
  go_enter Try.func6, Try.ntmps6
  go_upto_region 1 with fail
  generalize (w.alloc (.cells #[.int .i64 ep, .int .i64 us, .slice A n c] 26)).alloc (.cells #[.int .i64 0, .int .i64 0, .slice none 0 0] 26) = wa at *
  have hJ1 := R.1
  obtain ⟨n9, n0, n1, n2⟩ := id N
  go_wp2_with fail
  refine C.mono ?_
  rintro e wz ⟨rfl, hb⟩
  clear n9 n0 n1 n2
  replace N := N.below hb
  replace R := R.below hb
  replace CS := CS.below hb
  replace B := B.trans (hb.mono B.size)
  have hzz := hb.size
  clear hb C
  rw [ht]
  go_wp2_with fail
  refine (l4Node_any _ _).mono ?_
  rintro e w' ⟨rfl, rfl⟩
  rw [h1]
  go_wp2_with fail
  refine (l2Time_any _ _).mono ?_
  rintro e w' ⟨rfl, rfl⟩
  rw [h2]
  obtain ⟨n9, n0, n1, n2⟩ := id N
  have hu1 : (us == 1000) = false := by simpa using hu
  have hl1 : ((n : Int) == 16) = true := by rw [h16.out]; rfl
  go_wp2_with fail
  refine (l7Copy_opt ep us A n c M _ (by omega) CS).mono ?_
  rintro e w6 ⟨a', c', rfl, OW, hb6⟩
  clear n9 n0 n1 n2 hu1 hl1
  replace R := R.below hb6
  have hw56 : w.heap.size ≤ wz.heap.size := by omega
  replace B := B.trans (hb6.mono B.size)
  clear hb6 CS
  have RQ := R.set (.int .i64 ep) (.int .i64 us) (.slice a' n c')
  have PB := put3_butK w6 (w.heap.size + 1) (.int .i64 ep) (.int .i64 us) (.slice a' n c')
  have BQ := B.trans (PB.below (B := w.heap.size) (by omega) B.size)
  have OQ := ownK_le (base' := w.heap.size) (own_butK OW PB (by omega)) hw56
  obtain ⟨r0, r1, r2, r3, r4, r5, r6⟩ := R
  clear PB
  go_wp2_with fail
  generalize (((w6.setCell ⟨w.heap.size + 1, 0, none⟩ (.int .i64 ep)).setCell ⟨w.heap.size + 1, 1, none⟩ (.int .i64 us)).setCell ⟨w.heap.size + 1, 2, none⟩ (.slice a' n c')) = wq at *
  obtain ⟨q0, q1, q2, q3, q4, q5, q6⟩ := RQ
  exact bodyPost_ret (v := .tuple #[.agg #[.int .i64 ep, .int .i64 us, .slice a' n c'], .int .i64 0, .int .i64 3]) (by simp (maxDischargeDepth := 6) [results, Try.results6, go_sem, q1, q2, q3]) rfl ⟨_, _, rfl, OQ, BQ⟩
set_option maxRecDepth 100000 in
set_option maxHeartbeats 8000000 in
theorem specIssue_doneO (ep us : Int) (A : Option Addr) (n c : Nat) (M : Nat → KT) (x y : Int) (w : World) (hm : n ≤ maxLen) (hf : FromsO w A M n c) (ht : tabB ep us M n = true) (h1 : nodB x = true) (h2 : tmB y = true) (hu : us ≠ 1000) (h16 : n ≠ 16) (nn : Int) (hnn : ep * 1000 + us = nn) :
    Calls Try.prog 6 #[.agg #[.int .i64 ep, .int .i64 us, .slice A n c], .int .i64 x, .int .i64 y] w fun e w' => ∃ a' c', e = .returned (.tuple #[.agg #[.int .i64 ep, .int .i64 (us + 1), .slice a' (n + 1) c'], .int .i64 nn, .int .i64 0]) ∧ w'.ownsRow w.heap.size 34 4 (.slice a' (n + 1) c') (n + 1) (krow (addG M n (kT nn x y 1)) (n + 1)) ∧ Below w.heap.size w w' := by
  have hn16 := tabB_len' ht
  have hnums := tabB_nums ht
  have N := (IB3.new w ep us A n c 26).below (Below.nw _ (.cells #[.int .i64 0, .int .i64 0, .slice none 0 0] 26))
  have R := Bx3.new (w.alloc (.cells #[.int .i64 ep, .int .i64 us, .slice A n c] 26)) (.int .i64 0) (.int .i64 0) (.slice none 0 0) 26
  have CS := (hf.below (Below.nw w (.cells #[.int .i64 ep, .int .i64 us, .slice A n c] 26))).below (Below.nw _ (.cells #[.int .i64 0, .int .i64 0, .slice none 0 0] 26))
  have B := (Below.nw w (.cells #[.int .i64 ep, .int .i64 us, .slice A n c] 26)).trans ((Below.nw (w.alloc (.cells #[.int .i64 ep, .int .i64 us, .slice A n c] 26)) (.cells #[.int .i64 0, .int .i64 0, .slice none 0 0] 26)).mono (by simp))
  simp only [World.size_alloc] at R
  have C := specTab_any ep us A n c M _ hm CS.src
  clear hf
  go_enter Try.func6, Try.ntmps6
  go_upto_region 1 with fail
  generalize (w.alloc (.cells #[.int .i64 ep, .int .i64 us, .slice A n c] 26)).alloc (.cells #[.int .i64 0, .int .i64 0, .slice none 0 0] 26) = wa at *
  have hJ1 := R.1
  obtain ⟨n9, n0, n1, n2⟩ := id N
  go_wp2_with fail
  refine C.mono ?_
  rintro e wz ⟨rfl, hb⟩
  clear n9 n0 n1 n2
  replace N := N.below hb
  replace R := R.below hb
  replace CS := CS.below hb
  replace B := B.trans (hb.mono B.size)
  have hzz := hb.size
  clear hb C
  rw [ht]
  go_wp2_with fail
  refine (l4Node_any _ _).mono ?_
  rintro e w' ⟨rfl, rfl⟩
  rw [h1]
  go_wp2_with fail
  refine (l2Time_any _ _).mono ?_
  rintro e w' ⟨rfl, rfl⟩
  rw [h2]
  obtain ⟨n9, n0, n1, n2⟩ := id N
  have hu1 : (us == 1000) = false := by simpa using hu
  have hl1 : ((n : Int) == 16) = false := by simp; omega
  go_wp2_with fail
  refine (l7Put_opt ep us x y 1 nn A n c M _ (by omega) CS hnums.1 hnums.2 hnn).mono ?_
  rintro e w6 ⟨a', c', rfl, OW, hb6⟩
  clear n9 n0 n1 n2 hu1 hl1 hnums hnn hu h16
  have hw5 : w.heap.size + 1 < wz.heap.size := R.1
  replace R := R.below hb6
  have hw56 : w.heap.size ≤ wz.heap.size := by omega
  have hs6 := hb6.size
  have OWL : ∀ g, (Value.slice a' (n + 1) c').ownBlock = some g → wz.heap.size ≤ g ∧ g < w6.heap.size := fun g hg => World.ownsRow.lt OW g hg
  replace B := B.trans (hb6.mono B.size)
  clear hb6 CS
  have A1 := Below.nw w6 (.cells #[.int .i64 ep, .int .i64 (us + 1), .slice a' (n + 1) c'] 26)
  have Ox := (Bx3.new w6 (.int .i64 ep) (.int .i64 (us + 1)) (.slice a' (n + 1) c') 26).below (Below.nw _ (.cells #[.int .i64 nn, .int .i64 x, .int .i64 y, .int .i64 1] 34))
  have A2 := Below.nw (w6.alloc (.cells #[.int .i64 ep, .int .i64 (us + 1), .slice a' (n + 1) c'] 26)) (.cells #[.int .i64 nn, .int .i64 x, .int .i64 y, .int .i64 1] 34)
  have Kx := Bf4.new (w6.alloc (.cells #[.int .i64 ep, .int .i64 (us + 1), .slice a' (n + 1) c'] 26)) nn x y 1 34
  simp only [World.size_alloc] at Kx
  replace R := (R.below A1).below A2
  replace OW := own_belK' (own_belK' OW A1) A2
  replace B := (B.trans (A1.mono B.size)).trans (A2.mono (B.trans (A1.mono B.size)).size)
  clear A1 A2
  go_upto_region 8 with fail
  generalize hbo : w6.heap.size = bo at *
  generalize (w6.alloc (.cells #[.int .i64 ep, .int .i64 (us + 1), .slice a' (n + 1) c'] 26)).alloc (.cells #[.int .i64 nn, .int .i64 x, .int .i64 y, .int .i64 1] 34) = w7 at *
  have RQ := R.set (.int .i64 ep) (.int .i64 (us + 1)) (.slice a' (n + 1) c')
  have PB := put3_butK w7 (w.heap.size + 1) (.int .i64 ep) (.int .i64 (us + 1)) (.slice a' (n + 1) c')
  have BQ := B.trans (PB.below (B := w.heap.size) (by omega) B.size)
  have OQ := ownK_le (base' := w.heap.size) (own_butK OW PB (by omega)) hw56
  have KZ : Hid (World.ownsRow _ _ _ _ _ _ _ ∧ Below _ _ _) := ⟨OQ, BQ⟩
  obtain ⟨r0, r1, r2, r3, r4, r5, r6⟩ := R
  obtain ⟨o0, o1, o2, o3, -, -, -⟩ := Ox
  obtain ⟨⟨k0, k1, k2, k3, k4⟩, -, -, -, -⟩ := Kx
  have hd1 : ¬ bo = w.heap.size := by omega
  have hd2 : ¬ w.heap.size = bo := by omega
  clear PB BQ OQ OW OWL B N
  go_region
  clear r0 r1 r2 r3 r4 r5 r6 o0 o1 o2 o3 k0 k1 k2 k3 k4
  generalize (((w7.setCell ⟨w.heap.size + 1, 0, none⟩ (.int .i64 ep)).setCell ⟨w.heap.size + 1, 1, none⟩ (.int .i64 (us + 1))).setCell ⟨w.heap.size + 1, 2, none⟩ (.slice a' (n + 1) c')) = wq at *
  obtain ⟨q0, q1, q2, q3, -, -, -⟩ := RQ
  go_wp2_with fail
  exact bodyPost_ret (v := .tuple #[.agg #[.int .i64 ep, .int .i64 (us + 1), .slice a' (n + 1) c'], .int .i64 nn, .int .i64 0]) (by simp (maxDischargeDepth := 6) [results, Try.results6, go_sem, *]) rfl ⟨a', c', rfl, World.ownsRow.drew KZ.out.1, Below.drew KZ.out.2⟩
def ExInvO (ep us x p : Int) (M : Nat → KT) (w : World) (A : Option Addr) (n c bo k : Nat) (vg : Value) (wr : World) : Prop := ∃ ag cg ao co, vg = .slice ag (gon x p (lst M k)).length cg ∧ Bx3 wr bo (.int .i64 ep) (.int .i64 us) (.slice ao (kep x p (lst M k)).length co) ∧ wr.ownsRow (bo + 1) 34 4 (.slice ao (kep x p (lst M k)).length co) (kep x p (lst M k)).length (krow (rowL (kep x p (lst M k))) (kep x p (lst M k)).length) ∧ ((kep x p (lst M k)).length = 0 → ao = none) ∧ wr.ownsRow (w.heap.size + 2) 34 4 (.slice ag (gon x p (lst M k)).length cg) (gon x p (lst M k)).length (krow (rowL (gon x p (lst M k))) (gon x p (lst M k)).length) ∧ ((gon x p (lst M k)).length = 0 → ag = some ⟨w.heap.size + 2, 0, none⟩) ∧ (∀ g, (Value.slice ag (gon x p (lst M k)).length cg).ownBlock = some g → g ≠ bo) ∧ (∀ g, (Value.slice ag (gon x p (lst M k)).length cg).ownBlock = some g → (Value.slice ao (kep x p (lst M k)).length co).ownBlock ≠ some g) ∧ IB3 wr w.heap.size ep us A n c ∧ Bx3 wr (w.heap.size + 1) (.int .i64 0) (.int .i64 0) (.slice none 0 0) ∧ FromsO wr A M n c ∧ Below w.heap.size w wr
set_option maxRecDepth 100000 in
set_option maxHeartbeats 16000000 in
theorem specExpire_opt (ep us : Int) (A : Option Addr) (n c : Nat) (M : Nat → KT) (x y : Int) (w : World) (hm : n ≤ maxLen) (hf : FromsO w A M n c) (ht : tabB ep us M n = true) (h1 : tmB x = true) (h2 : tmB y = true) (HBW : Hid (∀ b off s, A = some ⟨b, off, s⟩ → b < w.heap.size)) :
    Calls Try.prog 27 #[.agg #[.int .i64 ep, .int .i64 us, .slice A n c], .int .i64 x, .int .i64 y] w fun e w' => ∃ a' c' a1 c1, e = .returned (.tuple #[.agg #[.int .i64 ep, .int .i64 us, .slice a' (kep x y (lst M n)).length c'], .slice a1 (gon x y (lst M n)).length c1]) ∧ w'.ownsRow w.heap.size 34 4 (.slice a' (kep x y (lst M n)).length c') (kep x y (lst M n)).length (krow (rowL (kep x y (lst M n))) (kep x y (lst M n)).length) ∧ w'.ownsRow w.heap.size 34 4 (.slice a1 (gon x y (lst M n)).length c1) (gon x y (lst M n)).length (krow (rowL (gon x y (lst M n))) (gon x y (lst M n)).length) ∧ Below w.heap.size w w' := by
  have hn16 := tabB_len' ht
  have HAT : Hid (atB (lst M n)) := el_at ht
  have hxr := tmB_in h1
  obtain ⟨i0, hi, hz0, hz1, hz2⟩ := infoK_parts
  have A1 := Below.nw w (.cells #[.int .i64 ep, .int .i64 us, .slice A n c] 26)
  have A2 := Below.nw (w.alloc (.cells #[.int .i64 ep, .int .i64 us, .slice A n c] 26)) (.cells #[.int .i64 0, .int .i64 0, .slice none 0 0] 26)
  have A3 := Below.nw ((w.alloc (.cells #[.int .i64 ep, .int .i64 us, .slice A n c] 26)).alloc (.cells #[.int .i64 0, .int .i64 0, .slice none 0 0] 26)) (.cells #[] 34)
  have N := ((IB3.new w ep us A n c 26).below A2).below A3
  have R := (Bx3.new (w.alloc (.cells #[.int .i64 ep, .int .i64 us, .slice A n c] 26)) (.int .i64 0) (.int .i64 0) (.slice none 0 0) 26).below A3
  have CS := ((hf.below A1).below A2).below A3
  have B := (A1.trans (A2.mono A1.size)).trans (A3.mono (A1.trans (A2.mono A1.size)).size)
  have OE := World.ownsRow_made (base := w.heap.size + 2) (size := 4) (e := 34) ((w.alloc (.cells #[.int .i64 ep, .int .i64 us, .slice A n c] 26)).alloc (.cells #[.int .i64 0, .int .i64 0, .slice none 0 0] 26)) #[] 0 (by simp) (by simp [maxLen]) (by simp)
  have ez : ((w.alloc (.cells #[.int .i64 ep, .int .i64 us, .slice A n c] 26)).alloc (.cells #[.int .i64 0, .int .i64 0, .slice none 0 0] 26)).heap.size = w.heap.size + 2 := by simp
  rw [ez] at OE
  simp only [World.size_alloc] at R
  have C := specTab_any ep us A n c M _ hm CS.src
  clear hf A1 A2 A3 ez
  go_enter Try.func27, Try.ntmps27
  go_upto_region 2 with fail
  generalize ((w.alloc (.cells #[.int .i64 ep, .int .i64 us, .slice A n c] 26)).alloc (.cells #[.int .i64 0, .int .i64 0, .slice none 0 0] 26)).alloc (.cells #[] 34) = wa at *
  have hJ1 : w.heap.size + 2 < wa.heap.size := (World.ownsRow.lt OE _ rfl).2
  obtain ⟨n9, n0, n1, n2⟩ := id N
  go_wp2_with fail
  refine C.mono ?_
  rintro e wz ⟨rfl, hb⟩
  clear n9 n0 n1 n2
  replace N := N.below hb
  replace R := R.below hb
  replace CS := CS.below hb
  replace OE := own_belK' OE hb
  replace B := B.trans (hb.mono B.size)
  have hzz := hb.size
  clear hb C
  rw [ht]
  clear ht
  go_wp2_with fail
  refine (l2Time_any _ _).mono ?_
  rintro e w' ⟨rfl, rfl⟩
  rw [h1]
  go_wp2_with fail
  refine (l2Time_any _ _).mono ?_
  rintro e w' ⟨rfl, rfl⟩
  rw [h2]
  have A3 := Below.nw wz (.cells #[.int .i64 ep, .int .i64 us, .slice none 0 0] 26)
  have O := Bx3.new wz (.int .i64 ep) (.int .i64 us) (.slice none 0 0) 26
  obtain ⟨n9, n0, n1, n2⟩ := id N
  go_upto_region 5 with fail
  clear n9 n0 n1 n2 h1 h2
  replace N := N.below A3
  replace R := R.below A3
  replace CS := CS.below A3
  replace OE := own_belK' OE A3
  replace B := B.trans (A3.mono B.size)
  clear A3
  generalize hbo : wz.heap.size = bo at *
  generalize wz.alloc (.cells #[.int .i64 ep, .int .i64 us, .slice none 0 0] 26) = v1 at *
  go_wp2_with fail
  go_loopw [8, 10] (fun s8 s10 wr => ∃ k : Nat, k ≤ n ∧ s10 = .int .i64 (k : Int) ∧ ExInvO ep us x y M w A n c bo k s8 wr) (fun _ s10 _ => n - (vI s10).toNat)
  case atStart => exact ⟨0, Nat.zero_le _, rfl, some ⟨w.heap.size + 2, 0, none⟩, 0, none, 0, rfl, O, World.ownsRow_nil _ _ _ _, fun _ => rfl, OE, fun _ => rfl, fun g hg => (by simp [Value.ownBlock] at hg; omega), fun g hg => (by simp [Value.ownBlock]), N, R, CS, B⟩
  case round =>
    clear O N R CS B OE
    obtain ⟨k, hk, rfl, ag, cg, ao, co, rfl, O, W, hao, GW, hag, GB, GD, N, R, CS, B⟩ := hrel
    have HAO : Hid ((kep x y (lst M k)).length = 0 → ao = none) := hao
    have HAG : Hid ((gon x y (lst M k)).length = 0 → ag = some ⟨w.heap.size + 2, 0, none⟩) := hag
    have HGB : Hid (∀ g, (Value.slice ag (gon x y (lst M k)).length cg).ownBlock = some g → g ≠ bo) := GB
    have HGD : Hid (∀ g, (Value.slice ag (gon x y (lst M k)).length cg).ownBlock = some g → (Value.slice ao (kep x y (lst M k)).length co).ownBlock ≠ some g) := GD
    clear hao hag GB GD
    obtain ⟨n0, n1, n2, n3⟩ := id N
    obtain ⟨o0, o1, o2, o3, o4, o5, o6⟩ := id O
    by_cases hlt : k < n
    · have hli : decide ((k : Int) < (n : Int)) = true := decide_eq_true (by omega)
      obtain ⟨b, off, rfl, CZ⟩ : ∃ b off, A = some ⟨b, off, none⟩ ∧ Cs wr b off (n * 4) (MFAsk M) := by
        rcases CS with ⟨_, h, _⟩ | ⟨ad, rfl, h | ⟨hs, h⟩⟩
        · omega
        · omega
        · obtain ⟨b, off, s⟩ := ad
          simp only at hs h
          subst hs
          exact ⟨b, off, rfl, h⟩
      obtain ⟨x0, x1, x2, x3, hM⟩ := tupAsk M k
      obtain ⟨c0, c1, c2, c3⟩ := CZ.elAsk hlt hM
      have hb0 : b < w.heap.size := HBW.out _ _ _ rfl
      have hx2 : 0 ≤ x2 ∧ x2 ≤ 1000000000000 := by have := HAT.out (M k) (by simp only [lst, List.mem_map, List.mem_range]; exact ⟨k, hlt, rfl⟩); rw [hM] at this; exact this
      have hws : IntKind.i64.wrap (x - x2) = x - x2 := Go.IntWalk.i64_in _ ⟨by omega, by omega⟩
      have hgl := gon_le x y (lst M k)
      have hkl := kep_le x y (lst M k)
      rw [lst_len] at hgl hkl
      have HLS : Hid (lst M (k + 1) = lst M k ++ [kT x0 x1 x2 x3]) := by rw [Hid, lst_succ, hM]; rfl
      clear hM CS hx2
      cases hlate : ltB x y (kT x0 x1 x2 x3)
      · have hd : decide (y < x - x2) = false := hlate
        have HG : Hid (gon x y (lst M (k + 1)) = gon x y (lst M k)) := by rw [Hid, HLS.out, gon_snoc, if_neg (by rw [hlate]; decide)]
        have HK : Hid (kep x y (lst M (k + 1)) = kep x y (lst M k) ++ [kT x0 x1 x2 x3]) := by rw [Hid, HLS.out, kep_snoc, if_neg (by rw [hlate]; decide)]
        have HKL : Hid ((kep x y (lst M (k + 1))).length = (kep x y (lst M k)).length + 1) := by rw [Hid, HK.out]; simp
        have HW : Hid (krow (rowL (kep x y (lst M k))) (kep x y (lst M k)).length ++ [.int .i64 x0, .int .i64 x1, .int .i64 x2, .int .i64 x3] = krow (rowL (kep x y (lst M (k + 1)))) (kep x y (lst M (k + 1))).length) := by
          rw [Hid, HKL.out, HK.out]
          exact krowL_add _ _ _ _ _
        have HA0 : Hid (0 < (gon x y (lst M k)).length → ltB x y (rowL (gon x y (lst M k)) 0) = true) := fun h => gon_at0 h
        have HB0 : Hid (ltB x y (rowL (kep x y (lst M (k + 1))) 0) = false) := kep_at0 (by rw [HKL.out]; omega)
        have hbj : b < bo + 1 := by omega
        clear hlate HK
        go_upto_region 10 with fail
        refine wp_region_held_drew (S := (fun w' => w'.cell? ⟨w.heap.size, 2, none⟩ = some (.slice (some ⟨b, off, none⟩) n c) ∧ w'.cell? ⟨b, off + k * 4, none⟩ = some (.int .i64 x0) ∧ w'.cell? ⟨b, off + k * 4 + 1, none⟩ = some (.int .i64 x1) ∧ w'.cell? ⟨b, off + k * 4 + 2, none⟩ = some (.int .i64 x2) ∧ w'.cell? ⟨b, off + k * 4 + 3, none⟩ = some (.int .i64 x3))) (by kernel_rfl) ?_ (fun hHeld => ?_)
        · first | exact ⟨n3, c0, c1, c2, c3⟩ | (simp (maxDischargeDepth := 6) [go_sem, *]; done)
        clear n0 n1 n2 n3 o0 o1 o2 o3 o4 o5 o6
        replace N := N.drew
        replace O := O.drew
        replace R := R.drew
        replace B := Below.drew B
        replace CZ := CZ.drew
        replace W := World.ownsRow.drew W
        replace GW := World.ownsRow.drew GW
        replace c0 : wr.drew.cell? _ = _ := c0
        replace c1 : wr.drew.cell? _ = _ := c1
        replace c2 : wr.drew.cell? _ = _ := c2
        replace c3 : wr.drew.cell? _ = _ := c3
        generalize wr.drew = v at *
        (obtain ⟨n0, n1, n2, n3⟩ := id N); (obtain ⟨o0, o1, o2, o3, o4, o5, o6⟩ := id O)
        refine wpAnyH_take (i := 0) (v := ?_) (by rw [List.getElem?_toArray]; rfl) (by kernel_rfl) (by kernel_rfl) (by kernel_rfl) (by intro _ _ _ h; exact h) (Or.inl ⟨by rfl, ?_⟩) (by assumption) ?_
        rotate_left
        · (intro w hSw; (try dsimp only at hSw); go_simp; all_goals with_reducible rfl)
        (try simp only [Act.put, List.setIfInBounds_toArray, List.set_cons_zero, List.set_cons_succ])
        refine wpAnyH_take (i := 2) (v := ?_) (by rw [List.getElem?_toArray]; rfl) (by kernel_rfl) (by kernel_rfl) (by kernel_rfl) (by intro _ _ _ h; exact h) (Or.inl ⟨by rfl, ?_⟩) (by assumption) ?_
        rotate_left
        · (intro w hSw; (try dsimp only at hSw); go_simp; all_goals with_reducible rfl)
        (try simp only [Act.put, List.setIfInBounds_toArray, List.set_cons_zero, List.set_cons_succ])
        refine wpAnyH_take (i := 3) (v := ?_) (by rw [List.getElem?_toArray]; rfl) (by kernel_rfl) (by kernel_rfl) (by kernel_rfl) (by intro _ _ _ h; exact h) (Or.inl ⟨by rfl, ?_⟩) (by assumption) ?_
        rotate_left
        · (intro w hSw; (try dsimp only at hSw); go_simp; all_goals with_reducible rfl)
        (try simp only [Act.put, List.setIfInBounds_toArray, List.set_cons_zero, List.set_cons_succ])
        refine wpAnyH_take (i := 4) (v := ?_) (by rw [List.getElem?_toArray]; rfl) (by kernel_rfl) (by kernel_rfl) (by kernel_rfl) (by intro _ _ _ h; exact h) (Or.inl ⟨by rfl, ?_⟩) (by assumption) ?_
        rotate_left
        · (intro w hSw; (try dsimp only at hSw); go_simp; all_goals with_reducible rfl)
        (try simp only [Act.put, List.setIfInBounds_toArray, List.set_cons_zero, List.set_cons_succ])
        refine wpAnyH_take (i := 5) (v := ?_) (by rw [List.getElem?_toArray]; rfl) (by kernel_rfl) (by kernel_rfl) (by kernel_rfl) (by intro _ _ _ h; exact h) (Or.inl ⟨by rfl, ?_⟩) (by assumption) ?_
        rotate_left
        · (intro w hSw; (try dsimp only at hSw); go_simp; all_goals with_reducible rfl)
        (try simp only [Act.put, List.setIfInBounds_toArray, List.set_cons_zero, List.set_cons_succ])
        refine wpAnyH_take (i := 6) (v := ?_) (by rw [List.getElem?_toArray]; rfl) (by kernel_rfl) (by kernel_rfl) (by kernel_rfl) (by intro _ _ _ h; exact h) (Or.inl ⟨by rfl, ?_⟩) (by assumption) ?_
        rotate_left
        · (intro w hSw; (try dsimp only at hSw); go_simp; all_goals with_reducible rfl)
        (try simp only [Act.put, List.setIfInBounds_toArray, List.set_cons_zero, List.set_cons_succ])
        refine wpAnyH_ready (rs := [1, 7]) (by kernel_rfl) (by simp) ?_
        refine (AllReadyH.cons (by rw [List.getElem?_toArray]; rfl) (fun K hK => ?_) (AllReadyH.cons (by rw [List.getElem?_toArray]; rfl) (fun K hK => ?_) AllReadyH.nil))
        · go_simp
          refine hK.out _ _ ?_ (fun hHeld => ?_)
          · first | exact ⟨n3, c0, c1, c2, c3⟩ | (simp (maxDischargeDepth := 6) [go_sem, *]; done)
          clear hK K
          (try simp only [Act.put, List.setIfInBounds_toArray, List.set_cons_zero, List.set_cons_succ])
          refine wpAnyH_ready (rs := [7]) (by kernel_rfl) (by simp) ?_
          refine (AllReadyH.cons (by rw [List.getElem?_toArray]; rfl) (fun K hK => ?_) AllReadyH.nil)
          go_simp
          (have A := Below.nw v (.cells #[.int .i64 x0, .int .i64 x1, .int .i64 x2, .int .i64 x3] 34)); (have hvz : bo + 1 ≤ v.heap.size := o0); (have HF : Hid (∀ j u, [Value.int .i64 x0, .int .i64 x1, .int .i64 x2, .int .i64 x3][j]? = some u → (v.alloc (.cells #[.int .i64 x0, .int .i64 x1, .int .i64 x2, .int .i64 x3] 34)).cell? ((⟨v.heap.size, 0, none⟩ : Addr).add j) = some u) := fun j u hu => four_at v x0 x1 x2 x3 34 j u hu); clear n0 n1 n2 n3 o0 o1 o2 o3 o4 o5 o6; (replace c0 := (A.cell (p := ⟨b, off + k * 4, none⟩) CZ.1).trans c0); (replace c1 := (A.cell (p := ⟨b, off + k * 4 + 1, none⟩) CZ.1).trans c1); (replace c2 := (A.cell (p := ⟨b, off + k * 4 + 2, none⟩) CZ.1).trans c2); (replace c3 := (A.cell (p := ⟨b, off + k * 4 + 3, none⟩) CZ.1).trans c3); (replace N := N.below A); (replace O := O.below A); (replace R := R.below A); (replace W := World.ownsRow.alloc W (.cells #[.int .i64 x0, .int .i64 x1, .int .i64 x2, .int .i64 x3] 34)); (replace GW := World.ownsRow.alloc GW (.cells #[.int .i64 x0, .int .i64 x1, .int .i64 x2, .int .i64 x3] 34)); (replace CZ := CZ.below A CZ.1); (replace B := B.trans (A.mono B.size)); (have hsz : bo + 1 ≤ (v.alloc (.cells #[.int .i64 x0, .int .i64 x1, .int .i64 x2, .int .i64 x3] 34)).heap.size := Nat.le_trans hvz A.size); (have hcsz := CZ.1); clear A; (generalize v.alloc (.cells #[.int .i64 x0, .int .i64 x1, .int .i64 x2, .int .i64 x3] 34) = v2 at *); (generalize v.heap.size = jv at *); (obtain ⟨n0, n1, n2, n3⟩ := id N); (obtain ⟨o0, o1, o2, o3, o4, o5, o6⟩ := id O)
          refine hK.out _ _ ?_ (fun hHeld => ?_)
          · first | exact ⟨n3, c0, c1, c2, c3⟩ | (simp (maxDischargeDepth := 6) [go_sem, *]; done)
          clear hK K
          (try simp only [Act.put, List.setIfInBounds_toArray, List.set_cons_zero, List.set_cons_succ])
          refine wpAnyH_ready (rs := [8]) (by kernel_rfl) (by simp) ?_
          refine (AllReadyH.cons (by rw [List.getElem?_toArray]; rfl) (fun K hK => ?_) AllReadyH.nil)
          rw [if_pos (by rfl)]; refine wp_append_own _ _ _ 24 rfl (bo + 1) 34 i0 (.agg #[.int .i64 0, .int .i64 0, .int .i64 0, .int .i64 0]) 4 32 Try.underlying24 hi hz0 hz1 hz2 rfl (by decide) _ _ _ rfl W ⟨jv, 0, none⟩ 1 1 [.int .i64 x0, .int .i64 x1, .int .i64 x2, .int .i64 x3] rfl rfl HF.out (four_one _ _ _ _) (by unfold maxLen; omega) (by omega) hsz ?_; intro v' wn hown' hgrow _; (have G := grown_belowK W hgrow hsz); clear n0 n1 n2 n3 o0 o1 o2 o3 o4 o5 o6; (replace c0 := (G.cell (p := ⟨b, off + k * 4, none⟩) hbj).trans c0); (replace c1 := (G.cell (p := ⟨b, off + k * 4 + 1, none⟩) hbj).trans c1); (replace c2 := (G.cell (p := ⟨b, off + k * 4 + 2, none⟩) hbj).trans c2); (replace c3 := (G.cell (p := ⟨b, off + k * 4 + 3, none⟩) hbj).trans c3); (replace N := N.belB G (by omega)); (replace O := O.belB G (by omega)); (replace R := R.belB G (by omega)); (replace CZ := CZ.below G hbj); (replace GW := World.ownsRow.kept GW hgrow (ne_own (fun g h1 h2 => HGD.out g h2 h1))); (replace B := B.trans (G.mono (by omega))); rw [HW.out] at hown'; (replace hown' : wn.ownsRow (bo + 1) 34 4 v' (kep x y (lst M (k + 1))).length (krow (rowL (kep x y (lst M (k + 1)))) (kep x y (lst M (k + 1))).length) := by rw [HKL.out] at *; exact hown'); (obtain ⟨a', c', rfl, _, _, _⟩ := ownF_src hown'); clear hgrow HF; (obtain ⟨n0, n1, n2, n3⟩ := id N); (obtain ⟨o0, o1, o2, o3, o4, o5, o6⟩ := id O)
          refine hK.out _ _ ?_ (fun hHeld => ?_)
          · first | exact ⟨n3, c0, c1, c2, c3⟩ | (simp (maxDischargeDepth := 6) [go_sem, *]; done)
          clear hK K
          (try simp only [Act.put, List.setIfInBounds_toArray, List.set_cons_zero, List.set_cons_succ])
          refine wpAnyH_take (i := 9) (v := ?_) (by rw [List.getElem?_toArray]; rfl) (by kernel_rfl) (by kernel_rfl) (by kernel_rfl) (by intro _ _ _ h; exact h) (Or.inl ⟨by rfl, ?_⟩) (by assumption) ?_
          rotate_left
          · (intro w hSw; (try dsimp only at hSw); go_simp; all_goals with_reducible rfl)
          (try simp only [Act.put, List.setIfInBounds_toArray, List.set_cons_zero, List.set_cons_succ])
          refine wpAnyH_ready (rs := [10]) (by kernel_rfl) (by simp) ?_
          refine (AllReadyH.cons (by rw [List.getElem?_toArray]; rfl) (fun K hK => ?_) AllReadyH.nil)
          go_simp
          refine hK.out _ _ ?_ (fun hHeld => ?_)
          · first | exact ⟨n3, c0, c1, c2, c3⟩ | (simp (maxDischargeDepth := 6) [go_sem, *]; done)
          clear hK K
          (try simp only [Act.put, List.setIfInBounds_toArray, List.set_cons_zero, List.set_cons_succ])
          refine wpAnyH_done (by kernel_rfl) ?_ _
          go_wp2_with fail
          have PB := But.oneK wn bo 2 (.slice a' (kep x y (lst M (k + 1))).length c')
          have ND : ∀ g, (Value.slice ag (gon x y (lst M k)).length cg).ownBlock = some g → (Value.slice a' (kep x y (lst M (k + 1))).length c').ownBlock ≠ some g := by
            by_cases h0 : 0 < (gon x y (lst M k)).length
            · exact own_two GW hown' h0 (by rw [HKL.out]; omega) (lt_at (HA0.out h0) HB0.out)
            · intro g hg hv
              have e1 := HAG.out (by omega)
              have e2 := own_at GW e1
              rw [hg] at e2
              injection e2 with e2
              have := (World.ownsRow.lt hown' g hv).1
              omega
          have HRL : Hid (ExInvO ep us x y M w (some ⟨b, off, none⟩) n c bo (k + 1) (.slice ag (gon x y (lst M k)).length cg) (wn.setCell ⟨bo, 2, none⟩ (.slice a' (kep x y (lst M (k + 1))).length c'))) := by
            rw [Hid, ExInvO, HG.out]
            exact ⟨ag, cg, a', c', rfl, O.set2 _, own_butK hown' PB (by omega), fun h => absurd h (by rw [HKL.out]; omega), own_neK GW PB (fun g hg => HGB.out g hg), HAG.out, HGB.out, ND, N.but PB (by omega), R.but PB (by omega), .inr ⟨_, rfl, .inr ⟨rfl, CZ.but PB (by omega)⟩⟩, B.trans (PB.below (by omega) B.size)⟩
          go_roundw
          case rel => exact ⟨k + 1, by omega, by go_num, HRL.out⟩
          case measure => simp [vI]; omega
        · go_simp
          (have A := Below.nw v (.cells #[.int .i64 x0, .int .i64 x1, .int .i64 x2, .int .i64 x3] 34)); (have hvz : bo + 1 ≤ v.heap.size := o0); (have HF : Hid (∀ j u, [Value.int .i64 x0, .int .i64 x1, .int .i64 x2, .int .i64 x3][j]? = some u → (v.alloc (.cells #[.int .i64 x0, .int .i64 x1, .int .i64 x2, .int .i64 x3] 34)).cell? ((⟨v.heap.size, 0, none⟩ : Addr).add j) = some u) := fun j u hu => four_at v x0 x1 x2 x3 34 j u hu); clear n0 n1 n2 n3 o0 o1 o2 o3 o4 o5 o6; (replace c0 := (A.cell (p := ⟨b, off + k * 4, none⟩) CZ.1).trans c0); (replace c1 := (A.cell (p := ⟨b, off + k * 4 + 1, none⟩) CZ.1).trans c1); (replace c2 := (A.cell (p := ⟨b, off + k * 4 + 2, none⟩) CZ.1).trans c2); (replace c3 := (A.cell (p := ⟨b, off + k * 4 + 3, none⟩) CZ.1).trans c3); (replace N := N.below A); (replace O := O.below A); (replace R := R.below A); (replace W := World.ownsRow.alloc W (.cells #[.int .i64 x0, .int .i64 x1, .int .i64 x2, .int .i64 x3] 34)); (replace GW := World.ownsRow.alloc GW (.cells #[.int .i64 x0, .int .i64 x1, .int .i64 x2, .int .i64 x3] 34)); (replace CZ := CZ.below A CZ.1); (replace B := B.trans (A.mono B.size)); (have hsz : bo + 1 ≤ (v.alloc (.cells #[.int .i64 x0, .int .i64 x1, .int .i64 x2, .int .i64 x3] 34)).heap.size := Nat.le_trans hvz A.size); (have hcsz := CZ.1); clear A; (generalize v.alloc (.cells #[.int .i64 x0, .int .i64 x1, .int .i64 x2, .int .i64 x3] 34) = v2 at *); (generalize v.heap.size = jv at *); (obtain ⟨n0, n1, n2, n3⟩ := id N); (obtain ⟨o0, o1, o2, o3, o4, o5, o6⟩ := id O)
          refine hK.out _ _ ?_ (fun hHeld => ?_)
          · first | exact ⟨n3, c0, c1, c2, c3⟩ | (simp (maxDischargeDepth := 6) [go_sem, *]; done)
          clear hK K
          (try simp only [Act.put, List.setIfInBounds_toArray, List.set_cons_zero, List.set_cons_succ])
          refine wpAnyH_ready (rs := [1]) (by kernel_rfl) (by simp) ?_
          refine (AllReadyH.cons (by rw [List.getElem?_toArray]; rfl) (fun K hK => ?_) AllReadyH.nil)
          go_simp
          refine hK.out _ _ ?_ (fun hHeld => ?_)
          · first | exact ⟨n3, c0, c1, c2, c3⟩ | (simp (maxDischargeDepth := 6) [go_sem, *]; done)
          clear hK K
          (try simp only [Act.put, List.setIfInBounds_toArray, List.set_cons_zero, List.set_cons_succ])
          refine wpAnyH_ready (rs := [8]) (by kernel_rfl) (by simp) ?_
          refine (AllReadyH.cons (by rw [List.getElem?_toArray]; rfl) (fun K hK => ?_) AllReadyH.nil)
          rw [if_pos (by rfl)]; refine wp_append_own _ _ _ 24 rfl (bo + 1) 34 i0 (.agg #[.int .i64 0, .int .i64 0, .int .i64 0, .int .i64 0]) 4 32 Try.underlying24 hi hz0 hz1 hz2 rfl (by decide) _ _ _ rfl W ⟨jv, 0, none⟩ 1 1 [.int .i64 x0, .int .i64 x1, .int .i64 x2, .int .i64 x3] rfl rfl HF.out (four_one _ _ _ _) (by unfold maxLen; omega) (by omega) hsz ?_; intro v' wn hown' hgrow _; (have G := grown_belowK W hgrow hsz); clear n0 n1 n2 n3 o0 o1 o2 o3 o4 o5 o6; (replace c0 := (G.cell (p := ⟨b, off + k * 4, none⟩) hbj).trans c0); (replace c1 := (G.cell (p := ⟨b, off + k * 4 + 1, none⟩) hbj).trans c1); (replace c2 := (G.cell (p := ⟨b, off + k * 4 + 2, none⟩) hbj).trans c2); (replace c3 := (G.cell (p := ⟨b, off + k * 4 + 3, none⟩) hbj).trans c3); (replace N := N.belB G (by omega)); (replace O := O.belB G (by omega)); (replace R := R.belB G (by omega)); (replace CZ := CZ.below G hbj); (replace GW := World.ownsRow.kept GW hgrow (ne_own (fun g h1 h2 => HGD.out g h2 h1))); (replace B := B.trans (G.mono (by omega))); rw [HW.out] at hown'; (replace hown' : wn.ownsRow (bo + 1) 34 4 v' (kep x y (lst M (k + 1))).length (krow (rowL (kep x y (lst M (k + 1)))) (kep x y (lst M (k + 1))).length) := by rw [HKL.out] at *; exact hown'); (obtain ⟨a', c', rfl, _, _, _⟩ := ownF_src hown'); clear hgrow HF; (obtain ⟨n0, n1, n2, n3⟩ := id N); (obtain ⟨o0, o1, o2, o3, o4, o5, o6⟩ := id O)
          refine hK.out _ _ ?_ (fun hHeld => ?_)
          · first | exact ⟨n3, c0, c1, c2, c3⟩ | (simp (maxDischargeDepth := 6) [go_sem, *]; done)
          clear hK K
          (try simp only [Act.put, List.setIfInBounds_toArray, List.set_cons_zero, List.set_cons_succ])
          refine wpAnyH_take (i := 9) (v := ?_) (by rw [List.getElem?_toArray]; rfl) (by kernel_rfl) (by kernel_rfl) (by kernel_rfl) (by intro _ _ _ h; exact h) (Or.inl ⟨by rfl, ?_⟩) (by assumption) ?_
          rotate_left
          · (intro w hSw; (try dsimp only at hSw); go_simp; all_goals with_reducible rfl)
          (try simp only [Act.put, List.setIfInBounds_toArray, List.set_cons_zero, List.set_cons_succ])
          refine wpAnyH_ready (rs := [10]) (by kernel_rfl) (by simp) ?_
          refine (AllReadyH.cons (by rw [List.getElem?_toArray]; rfl) (fun K hK => ?_) AllReadyH.nil)
          go_simp
          refine hK.out _ _ ?_ (fun hHeld => ?_)
          · first | exact ⟨n3, c0, c1, c2, c3⟩ | (simp (maxDischargeDepth := 6) [go_sem, *]; done)
          clear hK K
          (try simp only [Act.put, List.setIfInBounds_toArray, List.set_cons_zero, List.set_cons_succ])
          refine wpAnyH_done (by kernel_rfl) ?_ _
          go_wp2_with fail
          have PB := But.oneK wn bo 2 (.slice a' (kep x y (lst M (k + 1))).length c')
          have ND : ∀ g, (Value.slice ag (gon x y (lst M k)).length cg).ownBlock = some g → (Value.slice a' (kep x y (lst M (k + 1))).length c').ownBlock ≠ some g := by
            by_cases h0 : 0 < (gon x y (lst M k)).length
            · exact own_two GW hown' h0 (by rw [HKL.out]; omega) (lt_at (HA0.out h0) HB0.out)
            · intro g hg hv
              have e1 := HAG.out (by omega)
              have e2 := own_at GW e1
              rw [hg] at e2
              injection e2 with e2
              have := (World.ownsRow.lt hown' g hv).1
              omega
          have HRL : Hid (ExInvO ep us x y M w (some ⟨b, off, none⟩) n c bo (k + 1) (.slice ag (gon x y (lst M k)).length cg) (wn.setCell ⟨bo, 2, none⟩ (.slice a' (kep x y (lst M (k + 1))).length c'))) := by
            rw [Hid, ExInvO, HG.out]
            exact ⟨ag, cg, a', c', rfl, O.set2 _, own_butK hown' PB (by omega), fun h => absurd h (by rw [HKL.out]; omega), own_neK GW PB (fun g hg => HGB.out g hg), HAG.out, HGB.out, ND, N.but PB (by omega), R.but PB (by omega), .inr ⟨_, rfl, .inr ⟨rfl, CZ.but PB (by omega)⟩⟩, B.trans (PB.below (by omega) B.size)⟩
          go_roundw
          case rel => exact ⟨k + 1, by omega, by go_num, HRL.out⟩
          case measure => simp [vI]; omega
      · have hd : decide (y < x - x2) = true := hlate
        have HG : Hid (gon x y (lst M (k + 1)) = gon x y (lst M k) ++ [kT x0 x1 x2 x3]) := by rw [Hid, HLS.out, gon_snoc, if_pos hlate]
        have HK : Hid (kep x y (lst M (k + 1)) = kep x y (lst M k)) := by rw [Hid, HLS.out, kep_snoc, if_pos hlate]
        have HGL : Hid ((gon x y (lst M (k + 1))).length = (gon x y (lst M k)).length + 1) := by rw [Hid, HG.out]; simp
        have HW : Hid (krow (rowL (gon x y (lst M k))) (gon x y (lst M k)).length ++ [.int .i64 x0, .int .i64 x1, .int .i64 x2, .int .i64 x3] = krow (rowL (gon x y (lst M (k + 1)))) (gon x y (lst M (k + 1))).length) := by
          rw [Hid, HGL.out, HG.out]
          exact krowL_add _ _ _ _ _
        have HA0 : Hid (ltB x y (rowL (gon x y (lst M (k + 1))) 0) = true) := gon_at0 (by rw [HGL.out]; omega)
        have HB0 : Hid (0 < (kep x y (lst M k)).length → ltB x y (rowL (kep x y (lst M k)) 0) = false) := fun h => kep_at0 h
        have hcz := CZ.1
        clear hlate HG
        have A6 := Below.nw wr (.cells #[.int .i64 x0, .int .i64 x1, .int .i64 x2, .int .i64 x3] 34)
        have W6 := World.ownsRow.alloc GW (.cells #[.int .i64 x0, .int .i64 x1, .int .i64 x2, .int .i64 x3] 34)
        have hwz : w.heap.size + 2 ≤ wr.heap.size := by omega
        have HN : Hid (∀ j u, [Value.int .i64 x0, .int .i64 x1, .int .i64 x2, .int .i64 x3][j]? = some u → (wr.alloc (.cells #[.int .i64 x0, .int .i64 x1, .int .i64 x2, .int .i64 x3] 34)).cell? ((⟨wr.heap.size, 0, none⟩ : Addr).add j) = some u) := fun j u hu => four_at wr x0 x1 x2 x3 34 j u hu
        go_wp2_with (at_builtin; refine wpList_append_own _ rfl _ _ 24 rfl (w.heap.size + 2) 34 i0 (.agg #[.int .i64 0, .int .i64 0, .int .i64 0, .int .i64 0]) 4 32 Try.underlying24 hi hz0 hz1 hz2 rfl (by decide) _ _ _ rfl W6 ⟨wr.heap.size, 0, none⟩ 1 1 [.int .i64 x0, .int .i64 x1, .int .i64 x2, .int .i64 x3] rfl rfl HN.out (four_one _ _ _ _) ?c3 ?c4 ?c5 ?_)
        case c3 => unfold maxLen; omega
        case c4 => omega
        case c5 => first | omega | (simp; omega)
        intro v' wn hown' hgrow _
        rw [HW.out] at hown'
        replace hown' : wn.ownsRow (w.heap.size + 2) 34 4 v' (gon x y (lst M (k + 1))).length (krow (rowL (gon x y (lst M (k + 1)))) (gon x y (lst M (k + 1))).length) := by rw [HGL.out] at *; exact hown'
        have GL : ∀ g, (Value.slice ag (gon x y (lst M k)).length cg).ownBlock = some g → w.heap.size + 2 ≤ g := fun g hg => (World.ownsRow.lt GW g hg).1
        clear n0 n1 n2 n3 o0 o1 o2 o3 o4 o5 o6 c0 c1 c2 c3
        replace N := (N.below A6).kept hgrow (fun e => by have := GL _ e.symm; omega)
        replace R := (R.below A6).kept3 hgrow (fun e => by have := GL _ e.symm; omega)
        replace O := (O.below A6).kept3 hgrow (fun e => HGB.out _ e.symm rfl)
        replace W := World.ownsRow.kept (World.ownsRow.alloc W (.cells #[.int .i64 x0, .int .i64 x1, .int .i64 x2, .int .i64 x3] 34)) hgrow (ne_own (fun g h1 h2 => HGD.out g h1 h2))
        replace CZ := (CZ.below A6 hcz).kept hgrow (fun e => by have := GL _ e.symm; omega)
        replace B := (B.trans (A6.mono B.size)).trans (grown_bel hgrow (B.trans (A6.mono B.size)).size (fun q h e => by have := GL _ e.symm; omega))
        obtain ⟨a', c', rfl, _, _, _⟩ := ownF_src hown'
        have hgp : 0 < (gon x y (lst M (k + 1))).length := by rw [HGL.out]; omega
        have HRL : Hid (ExInvO ep us x y M w (some ⟨b, off, none⟩) n c bo (k + 1) (.slice a' (gon x y (lst M (k + 1))).length c') wn) := by
          rw [Hid, ExInvO, HK.out]
          refine ⟨a', c', ao, co, rfl, O, W, HAO.out, hown', fun h => absurd h (by omega), no_box hown' hgp O, ?_, N, R, .inr ⟨_, rfl, .inr ⟨rfl, CZ⟩⟩, B⟩
          by_cases h0 : 0 < (kep x y (lst M k)).length
          · exact own_two hown' W hgp h0 (lt_at HA0.out (HB0.out h0))
          · intro g hg
            have e1 := HAO.out (by omega)
            subst e1
            simp [Value.ownBlock]
        clear A6 W6 HN HW hgrow GW N R O W CZ B hown'
        go_wp2_with fail
        go_roundw
        case rel => exact ⟨k + 1, by omega, by go_num, HRL.out⟩
        case measure => simp [vI]; omega
    · have hkn : k = n := by omega
      subst hkn
      have hli : decide ((k : Int) < (k : Int)) = false := decide_eq_false (by omega)
      have hjo : bo < wr.heap.size := O.1
      have RQ := R.set (.int .i64 ep) (.int .i64 us) (.slice ao (kep x y (lst M k)).length co)
      have PB := put3_butK wr (w.heap.size + 1) (.int .i64 ep) (.int .i64 us) (.slice ao (kep x y (lst M k)).length co)
      have BQ := B.trans (PB.below (B := w.heap.size) (by omega) B.size)
      have OQ := ownK_le (base' := w.heap.size) (own_butK W PB (by omega)) (by omega)
      have SQ := ownK_le (base' := w.heap.size) (own_butK GW PB (by omega)) (by omega)
      have KZ : Hid (_ ∧ _ ∧ _) := ⟨OQ, SQ, BQ⟩
      obtain ⟨r0, r1, r2, r3, r4, r5, r6⟩ := R
      clear PB OQ SQ BQ
      go_wp2_with fail
      generalize (((wr.setCell ⟨w.heap.size + 1, 0, none⟩ (.int .i64 ep)).setCell ⟨w.heap.size + 1, 1, none⟩ (.int .i64 us)).setCell ⟨w.heap.size + 1, 2, none⟩ (.slice ao (kep x y (lst M k)).length co)) = wq at *
      obtain ⟨q0, q1, q2, q3, q4, q5, q6⟩ := RQ
      exact bodyPost_ret (v := .tuple #[.agg #[.int .i64 ep, .int .i64 us, .slice ao (kep x y (lst M k)).length co], .slice ag (gon x y (lst M k)).length cg]) (by simp (maxDischargeDepth := 6) [results, Try.results27, go_sem, q1, q2, q3]) rfl ⟨_, _, _, _, rfl, KZ.out⟩
set_option maxRecDepth 100000 in
set_option maxHeartbeats 16000000 in
theorem specAgain_opt (ep us : Int) (A : Option Addr) (n c : Nat) (M : Nat → KT) (x y : Int) (w : World) (hm : n ≤ maxLen) (hf : FromsO w A M n c) (ht : tabB ep us M n = true) (h1 : tmB x = true) (h2 : tmB y = true) (HBW : Hid (∀ b off s, A = some ⟨b, off, s⟩ → b < w.heap.size)) (U : Int) (CL LL TL : List KT) (hagE : Hid (ag ep x us (gon x y (lst M n)) (gon x y (lst M n)).length = (U, CL, LL))) (hTL : Hid (TL = (kep x y (lst M n)) ++ CL)) :
    Calls Try.prog 9 #[.agg #[.int .i64 ep, .int .i64 us, .slice A n c], .int .i64 x, .int .i64 y] w fun e w' => ∃ a' c' a1 c1 a2 c2, e = .returned (.tuple #[.agg #[.int .i64 ep, .int .i64 U, .slice a' TL.length c'], .slice a1 CL.length c1, .slice a2 LL.length c2]) ∧ w'.ownsRow w.heap.size 34 4 (.slice a' TL.length c') TL.length (krow (rowL TL) TL.length) ∧ w'.ownsRow w.heap.size 34 4 (.slice a1 CL.length c1) CL.length (krow (rowL CL) CL.length) ∧ w'.ownsRow w.heap.size 34 4 (.slice a2 LL.length c2) LL.length (krow (rowL LL) LL.length) ∧ Below w.heap.size w w' := by
  have hn16 := tabB_len' ht
  have hnums := tabB_nums ht
  have HTR : Hid (trB4 (lst M n)) := el_try ht
  have HOK : Hid (∀ k, us ≤ (ag ep x us (gon x y (lst M n)) k).1 ∧ (ag ep x us (gon x y (lst M n)) k).1 ≤ 1000 ∧ (ag ep x us (gon x y (lst M n)) k).2.1.length + (ag ep x us (gon x y (lst M n)) k).2.2.length = k ∧ (∀ b ∈ (ag ep x us (gon x y (lst M n)) k).2.1, b.1 < ep * 1000 + (ag ep x us (gon x y (lst M n)) k).1 ∧ b.2.2.1 = x) ∧ ∀ b ∈ (ag ep x us (gon x y (lst M n)) k).2.2, ∃ j, j < k ∧ b = rowL (gon x y (lst M n)) j) := fun k => ag_ok (by omega) k
  have hgn : (gon x y (lst M n)).length ≤ n := by have := gon_le x y (lst M n); rw [lst_len] at this; exact this
  have hkn : (kep x y (lst M n)).length ≤ n := by have := kep_le x y (lst M n); rw [lst_len] at this; exact this
  obtain ⟨i0, hi, hz0, hz1, hz2⟩ := infoK_parts
  have A1 := Below.nw w (.cells #[.int .i64 ep, .int .i64 us, .slice A n c] 26)
  have A2 := Below.nw (w.alloc (.cells #[.int .i64 ep, .int .i64 us, .slice A n c] 26)) (.cells #[.int .i64 0, .int .i64 0, .slice none 0 0] 26)
  have N := (IB3.new w ep us A n c 26).below A2
  have R := Bx3.new (w.alloc (.cells #[.int .i64 ep, .int .i64 us, .slice A n c] 26)) (.int .i64 0) (.int .i64 0) (.slice none 0 0) 26
  have CS := (hf.below A1).below A2
  have B := A1.trans (A2.mono A1.size)
  have hJ2 : ((w.alloc (.cells #[.int .i64 ep, .int .i64 us, .slice A n c] 26)).alloc (.cells #[.int .i64 0, .int .i64 0, .slice none 0 0] 26)).heap.size = w.heap.size + 2 := by simp
  simp only [World.size_alloc] at R
  have C := specExpire_opt ep us A n c M x y _ hm CS ht h1 h2 (fun b off s h => by have := HBW.out b off s h; simp only [World.size_alloc]; omega)
  clear hf A1 A2 CS
  go_enter Try.func9, Try.ntmps9
  go_upto_region 1 with fail
  generalize (w.alloc (.cells #[.int .i64 ep, .int .i64 us, .slice A n c] 26)).alloc (.cells #[.int .i64 0, .int .i64 0, .slice none 0 0] 26) = wa at *
  obtain ⟨n9, n0, n1, n2⟩ := id N
  go_wp2_with fail
  refine C.mono ?_
  rintro e wz ⟨a', c', a1, c1, rfl, OT, OG, hb⟩
  clear n9 n0 n1 n2 N
  replace R := R.below hb
  replace B := B.trans (hb.mono B.size)
  have hsz := hb.size
  rw [hJ2] at hsz OT OG
  clear hb C hJ2
  clear ht h1 h2 HBW
  have A3 := Below.nw wz (.cells #[.int .i64 ep, .int .i64 us, .slice a' (kep x y (lst M n)).length c'] 26)
  have O := Bx3.new wz (.int .i64 ep) (.int .i64 us) (.slice a' (kep x y (lst M n)).length c') 26
  have A4 := Below.nw (wz.alloc (.cells #[.int .i64 ep, .int .i64 us, .slice a' (kep x y (lst M n)).length c'] 26)) (.cells #[] 34)
  have A5 := Below.nw ((wz.alloc (.cells #[.int .i64 ep, .int .i64 us, .slice a' (kep x y (lst M n)).length c'] 26)).alloc (.cells #[] 34)) (.cells #[] 34)
  have AA := (A3.trans (A4.mono A3.size)).trans (A5.mono (A3.trans (A4.mono A3.size)).size)
  have E1 := World.ownsRow_made (base := wz.heap.size + 1) (size := 4) (e := 34) (wz.alloc (.cells #[.int .i64 ep, .int .i64 us, .slice a' (kep x y (lst M n)).length c'] 26)) #[] 0 (by simp) (by simp [maxLen]) (by simp)
  have E2 := World.ownsRow_made (base := wz.heap.size + 1) (size := 4) (e := 34) ((wz.alloc (.cells #[.int .i64 ep, .int .i64 us, .slice a' (kep x y (lst M n)).length c'] 26)).alloc (.cells #[] 34)) #[] 0 (by simp) (by simp [maxLen]) (by simp)
  have z1 : (wz.alloc (.cells #[.int .i64 ep, .int .i64 us, .slice a' (kep x y (lst M n)).length c'] 26)).heap.size = wz.heap.size + 1 := by simp
  have z2 : ((wz.alloc (.cells #[.int .i64 ep, .int .i64 us, .slice a' (kep x y (lst M n)).length c'] 26)).alloc (.cells #[] 34)).heap.size = wz.heap.size + 1 + 1 := by simp
  rw [z1] at E1
  rw [z2] at E2
  replace E1 := own_belK' E1 A5
  replace O := (O.below A4).below A5
  replace R := R.below AA
  have OT' := OT
  replace OT := own_belK' OT AA
  have OG' := OG
  replace OG := own_belK' OG AA
  have HGB : Hid (∀ g, (Value.slice a' (kep x y (lst M n)).length c').ownBlock = some g → g < wz.heap.size) := fun g hg => (World.ownsRow.lt OT' g hg).2
  replace B := B.trans (AA.mono B.size)
  have HGZ : Hid (∀ g off, a1 = some ⟨g, off, none⟩ → w.heap.size + 2 ≤ g ∧ g < wz.heap.size ∧ off = 0) := fun g off e => ⟨(World.ownsRow.lt OG' g (own_at OG' e)).1, (World.ownsRow.lt OG' g (own_at OG' e)).2, at_off OG' e⟩
  have SZ := own_srcK OG
  clear A3 A4 A5 AA z1 z2 OT' OG' OG
  go_upto_region 3 with fail
  generalize hbo : wz.heap.size = bo at *
  generalize ((wz.alloc (.cells #[.int .i64 ep, .int .i64 us, .slice a' (kep x y (lst M n)).length c'] 26)).alloc (.cells #[] 34)).alloc (.cells #[] 34) = v1 at *
  go_wp2_with fail
  go_loopw [11, 12, 13] (fun s11 s12 s13 wr => ∃ k : Nat, k ≤ (gon x y (lst M n)).length ∧ s13 = .int .i64 (k : Int) ∧ ∃ cl ll u, ag ep x us (gon x y (lst M n)) k = (u, cl, ll) ∧ AsInv ep x y M n w bo a1 cl ll u s11 s12 wr) (fun _ _ s13 _ => (gon x y (lst M n)).length - (vI s13).toNat)
  case atStart =>
    exact ⟨0, Nat.zero_le _, rfl, [], [], us, rfl, some ⟨bo + 1, 0, none⟩, 0, some ⟨bo + 1 + 1, 0, none⟩, 0, a', c', rfl, rfl, O, by rw [List.append_nil]; exact OT, E1, E2, fun g a b => by simp [Value.ownBlock] at a b; omega, fun g a b => by simp [Value.ownBlock] at a; have := HGB.out g b; omega, fun g a b => by simp [Value.ownBlock] at a; have := HGB.out g b; omega, fun g a e => by have := HGB.out g a; omega, SZ, R, B⟩
  case round =>
    clear O OT E1 E2 SZ R B HGB
    obtain ⟨k, hk, rfl, cl, ll, u, hag, ac, cc, al, cl', ao, co, rfl, rfl, O, WT, WC, WL, hcl, hct, hlt', htb, SZ, R, B⟩ := hrel
    have HCL : Hid (Ap (.slice ac cl.length cc) (.slice al ll.length cl')) := hcl
    have HCT : Hid (Ap (.slice ac cl.length cc) (.slice ao ((kep x y (lst M n)).length + cl.length) co)) := hct
    have HLT : Hid (Ap (.slice al ll.length cl') (.slice ao ((kep x y (lst M n)).length + cl.length) co)) := hlt'
    have HTB : Hid (∀ g, Value.ownBlock (.slice ao ((kep x y (lst M n)).length + cl.length) co) = some g → g ≠ bo) := htb
    have HAG : Hid (ag ep x us (gon x y (lst M n)) k = (u, cl, ll)) := hag
    obtain ⟨q1, q2, q3, q4, q5⟩ := HOK.out k
    rw [hag] at q1 q2 q3
    simp only at q1 q2 q3
    clear hcl hct hlt' htb hag q4 q5
    have hbw : bo < wr.heap.size := O.1
    obtain ⟨o0, o1, o2, o3, o4, o5, o6⟩ := id O
    by_cases hlt : k < (gon x y (lst M n)).length
    · have hli : (k : Int) < ((gon x y (lst M n)).length : Int) := by omega
      rcases SZ with h0 | ⟨g, off, hazg, CZ⟩
      · omega
      subst hazg
      obtain ⟨hg1, hg2, hg3⟩ := HGZ.out g off rfl
      subst hg3
      obtain ⟨y0, y1, y2, y3, hY⟩ := tupAsk (rowL (gon x y (lst M n))) k
      obtain ⟨c0, c1', c2, c3⟩ := CZ.elAsk hlt hY
      rw [Nat.zero_add] at c0 c1' c2 c3
      have hy3 : 1 ≤ y3 ∧ y3 ≤ 4 := by
        have hin : rowL (gon x y (lst M n)) k ∈ lst M n := (List.mem_filter.1 (show rowL (gon x y (lst M n)) k ∈ (gon x y (lst M n)) by unfold rowL; rw [List.getD_eq_getElem?_getD, List.getElem?_eq_getElem hlt]; exact List.getElem_mem hlt)).1
        have := HTR.out _ hin
        rw [hY] at this
        exact this
      have HNX0 : Hid (ag ep x us (gon x y (lst M n)) (k + 1) = agN ep x (kT y0 y1 y2 y3) u cl ll) := by rw [Hid, ag, HAG.out, hY]; rfl
      have hgw : g < wr.heap.size := by omega
      clear hY
      by_cases h4 : y3 = 4
      · subst h4
        have HNX : Hid (ag ep x us (gon x y (lst M n)) (k + 1) = (u, cl, ll ++ [kT y0 y1 y2 4])) := HNX0.out.trans (if_pos (.inl rfl))
        go_upto_region 7 with fail
        generalize hwy : wr = wy at *
        clear hwy
        have A6 := Below.nw wy (.cells #[.int .i64 y0, .int .i64 y1, .int .i64 y2, .int .i64 4] 34)
        have W6 := World.ownsRow.alloc WL (.cells #[.int .i64 y0, .int .i64 y1, .int .i64 y2, .int .i64 4] 34)
        have hs6 : bo + 1 ≤ wy.heap.size := by omega
        have HN : Hid (∀ j u, [Value.int .i64 y0, .int .i64 y1, .int .i64 y2, .int .i64 4][j]? = some u → (wy.alloc (.cells #[.int .i64 y0, .int .i64 y1, .int .i64 y2, .int .i64 4] 34)).cell? ((⟨wy.heap.size, 0, none⟩ : Addr).add j) = some u) := fun j u hu => four_at wy y0 y1 y2 4 34 j u hu
        have HW : Hid (krow (rowL ll) ll.length ++ [.int .i64 y0, .int .i64 y1, .int .i64 y2, .int .i64 4] = krow (rowL (ll ++ [(kT y0 y1 y2 4)])) (ll ++ [(kT y0 y1 y2 4)]).length) := by rw [Hid, List.length_append]; exact krowL_add _ _ _ _ _
        go_wp2_with (at_builtin; refine wpList_append_new rfl _ _ 24 rfl (bo + 1) 34 i0 (.agg #[.int .i64 0, .int .i64 0, .int .i64 0, .int .i64 0]) 4 32 Try.underlying24 hi hz0 hz1 hz2 rfl (by decide) _ _ _ rfl W6 ⟨wy.heap.size, 0, none⟩ 1 1 [.int .i64 y0, .int .i64 y1, .int .i64 y2, .int .i64 4] rfl rfl HN.out (four_one _ _ _ _) ?c3 ?c4 ?c5 ?_)
        case c3 => unfold maxLen; omega
        case c4 => omega
        case c5 => first | omega | (simp; omega)
        intro v' wn hown' hgrow hfr
        have HFR := hfr
        rw [HW.out] at hown'
        replace hown' : wn.ownsRow (bo + 1) 34 4 v' (ll ++ [(kT y0 y1 y2 4)]).length (krow (rowL (ll ++ [(kT y0 y1 y2 4)])) (ll ++ [(kT y0 y1 y2 4)]).length) := by rw [List.length_append] at *; exact hown'
        have GLW : ∀ g, Value.ownBlock (.slice al ll.length cl') = some g → bo + 1 ≤ g ∧ g < wy.heap.size := fun g hg => World.ownsRow.lt WL g hg
        have hys : wy.heap.size < (wy.alloc (.cells #[.int .i64 y0, .int .i64 y1, .int .i64 y2, .int .i64 4] 34)).heap.size := by simp
        clear o0 o1 o2 o3 o4 o5 o6 c0 c1' c2 c3
        have WC' := World.ownsRow.kept (World.ownsRow.alloc WC (.cells #[.int .i64 y0, .int .i64 y1, .int .i64 y2, .int .i64 4] 34)) hgrow (ne_own (fun g h1 h2 => HCL.out g h2 h1))
        have WT' := World.ownsRow.kept (World.ownsRow.alloc WT (.cells #[.int .i64 y0, .int .i64 y1, .int .i64 y2, .int .i64 4] 34)) hgrow (ne_own (fun g h1 h2 => HLT.out g h1 h2))
        have O' := (O.below A6).kept3 hgrow (fun e => by have := GLW _ e.symm; omega)
        have R' := (R.below A6).kept3 hgrow (fun e => by have := GLW _ e.symm; omega)
        have CZ' := (CZ.below A6 CZ.1).kept hgrow (fun e => by have := GLW _ e.symm; omega)
        have B' := (B.trans (A6.mono B.size)).trans (grown_bel hgrow (B.trans (A6.mono B.size)).size (fun q h e => by have := GLW _ e.symm; omega))
        have n1 : Ap (.slice ac cl.length cc) v' := fun g g1 g2 => by
          rcases HFR g g2 with h | h
          · exact HCL.out g g1 h
          · have := (World.ownsRow.lt WC g g1).2; omega
        have n2 : Ap v' (.slice ao ((kep x y (lst M n)).length + cl.length) co) := fun g g1 g2 => by
          rcases HFR g g1 with h | h
          · exact HLT.out g h g2
          · have := (World.ownsRow.lt WT g g2).2; omega
        obtain ⟨a2, c2', rfl, _, _, _⟩ := ownF_src hown'
        have HRL : Hid (AsInv ep x y M n w bo (some ⟨g, 0, none⟩) cl (ll ++ [(kT y0 y1 y2 4)]) u (.slice ac cl.length cc) (.slice a2 (ll ++ [(kT y0 y1 y2 4)]).length c2') wn) := ⟨ac, cc, a2, c2', ao, co, rfl, rfl, O', WT', WC', hown', n1, HCT.out, n2, HTB.out, .inr ⟨g, 0, rfl, CZ'⟩, R', B'⟩
        clear A6 W6 HN HW hgrow WL WC WT O R CZ B hown' WC' WT' O' R' CZ' B' n1 n2 HFR hfr GLW hys
        go_wp2_with fail
        go_roundw
        case rel => exact ⟨k + 1, by omega, by go_num, cl, ll ++ [(kT y0 y1 y2 4)], u, HNX.out, by simpa using HRL.out⟩
        case measure => simp [vI]; omega
      have d4 : (y3 == 4) = false := by simp [h4]
      have d4' : decide (y3 = 4) = false := decide_eq_false h4
      by_cases hu : u = 1000
      · have HNX : Hid (ag ep x us (gon x y (lst M n)) (k + 1) = (u, cl, ll ++ [kT y0 y1 y2 y3])) := HNX0.out.trans (if_pos (.inr hu))
        have du : (u == 1000) = true := by simp [hu]
        have du' : decide (u = 1000) = true := decide_eq_true hu
        clear hu
        go_upto_region 7 with fail
        generalize hwy : wr = wy at *
        clear hwy
        have A6 := Below.nw wy (.cells #[.int .i64 y0, .int .i64 y1, .int .i64 y2, .int .i64 y3] 34)
        have W6 := World.ownsRow.alloc WL (.cells #[.int .i64 y0, .int .i64 y1, .int .i64 y2, .int .i64 y3] 34)
        have hs6 : bo + 1 ≤ wy.heap.size := by omega
        have HN : Hid (∀ j u, [Value.int .i64 y0, .int .i64 y1, .int .i64 y2, .int .i64 y3][j]? = some u → (wy.alloc (.cells #[.int .i64 y0, .int .i64 y1, .int .i64 y2, .int .i64 y3] 34)).cell? ((⟨wy.heap.size, 0, none⟩ : Addr).add j) = some u) := fun j u hu => four_at wy y0 y1 y2 y3 34 j u hu
        have HW : Hid (krow (rowL ll) ll.length ++ [.int .i64 y0, .int .i64 y1, .int .i64 y2, .int .i64 y3] = krow (rowL (ll ++ [(kT y0 y1 y2 y3)])) (ll ++ [(kT y0 y1 y2 y3)]).length) := by rw [Hid, List.length_append]; exact krowL_add _ _ _ _ _
        go_wp2_with (at_builtin; refine wpList_append_new rfl _ _ 24 rfl (bo + 1) 34 i0 (.agg #[.int .i64 0, .int .i64 0, .int .i64 0, .int .i64 0]) 4 32 Try.underlying24 hi hz0 hz1 hz2 rfl (by decide) _ _ _ rfl W6 ⟨wy.heap.size, 0, none⟩ 1 1 [.int .i64 y0, .int .i64 y1, .int .i64 y2, .int .i64 y3] rfl rfl HN.out (four_one _ _ _ _) ?c3 ?c4 ?c5 ?_)
        case c3 => unfold maxLen; omega
        case c4 => omega
        case c5 => first | omega | (simp; omega)
        intro v' wn hown' hgrow hfr
        have HFR := hfr
        rw [HW.out] at hown'
        replace hown' : wn.ownsRow (bo + 1) 34 4 v' (ll ++ [(kT y0 y1 y2 y3)]).length (krow (rowL (ll ++ [(kT y0 y1 y2 y3)])) (ll ++ [(kT y0 y1 y2 y3)]).length) := by rw [List.length_append] at *; exact hown'
        have GLW : ∀ g, Value.ownBlock (.slice al ll.length cl') = some g → bo + 1 ≤ g ∧ g < wy.heap.size := fun g hg => World.ownsRow.lt WL g hg
        have hys : wy.heap.size < (wy.alloc (.cells #[.int .i64 y0, .int .i64 y1, .int .i64 y2, .int .i64 y3] 34)).heap.size := by simp
        clear o0 o1 o2 o3 o4 o5 o6 c0 c1' c2 c3
        have WC' := World.ownsRow.kept (World.ownsRow.alloc WC (.cells #[.int .i64 y0, .int .i64 y1, .int .i64 y2, .int .i64 y3] 34)) hgrow (ne_own (fun g h1 h2 => HCL.out g h2 h1))
        have WT' := World.ownsRow.kept (World.ownsRow.alloc WT (.cells #[.int .i64 y0, .int .i64 y1, .int .i64 y2, .int .i64 y3] 34)) hgrow (ne_own (fun g h1 h2 => HLT.out g h1 h2))
        have O' := (O.below A6).kept3 hgrow (fun e => by have := GLW _ e.symm; omega)
        have R' := (R.below A6).kept3 hgrow (fun e => by have := GLW _ e.symm; omega)
        have CZ' := (CZ.below A6 CZ.1).kept hgrow (fun e => by have := GLW _ e.symm; omega)
        have B' := (B.trans (A6.mono B.size)).trans (grown_bel hgrow (B.trans (A6.mono B.size)).size (fun q h e => by have := GLW _ e.symm; omega))
        have n1 : Ap (.slice ac cl.length cc) v' := fun g g1 g2 => by
          rcases HFR g g2 with h | h
          · exact HCL.out g g1 h
          · have := (World.ownsRow.lt WC g g1).2; omega
        have n2 : Ap v' (.slice ao ((kep x y (lst M n)).length + cl.length) co) := fun g g1 g2 => by
          rcases HFR g g1 with h | h
          · exact HLT.out g h g2
          · have := (World.ownsRow.lt WT g g2).2; omega
        obtain ⟨a2, c2', rfl, _, _, _⟩ := ownF_src hown'
        have HRL : Hid (AsInv ep x y M n w bo (some ⟨g, 0, none⟩) cl (ll ++ [(kT y0 y1 y2 y3)]) u (.slice ac cl.length cc) (.slice a2 (ll ++ [(kT y0 y1 y2 y3)]).length c2') wn) := ⟨ac, cc, a2, c2', ao, co, rfl, rfl, O', WT', WC', hown', n1, HCT.out, n2, HTB.out, .inr ⟨g, 0, rfl, CZ'⟩, R', B'⟩
        clear A6 W6 HN HW hgrow WL WC WT O R CZ B hown' WC' WT' O' R' CZ' B' n1 n2 HFR hfr GLW hys
        go_wp2_with fail
        go_roundw
        case rel => exact ⟨k + 1, by omega, by go_num, cl, ll ++ [(kT y0 y1 y2 y3)], u, HNX.out, by simpa using HRL.out⟩
        case measure => simp [vI]; omega
      have du : (u == 1000) = false := by simp [hu]
      have du' : decide (u = 1000) = false := decide_eq_false hu
      obtain ⟨nn, hnn⟩ : ∃ nn, ep * 1000 + u = nn := ⟨_, rfl⟩
      have HNX : Hid (ag ep x us (gon x y (lst M n)) (k + 1) = (u + 1, cl ++ [kT nn y1 x (y3 + 1)], ll)) := by rw [← hnn]; exact HNX0.out.trans (if_neg (fun h => h.elim h4 hu))
      have hw31 : IntKind.i64.wrap (y3 + 1) = y3 + 1 := Go.IntWalk.i64_in _ ⟨by omega, by omega⟩
      have HKW : Hid (krow (addG (rowL ((kep x y (lst M n)) ++ cl)) ((kep x y (lst M n)).length + cl.length) (kT nn y1 x (y3 + 1))) (((kep x y (lst M n)).length + cl.length) + 1) = krow (rowL ((kep x y (lst M n)) ++ (cl ++ [kT nn y1 x (y3 + 1)]))) (((kep x y (lst M n)).length + cl.length) + 1)) := by
        rw [Hid, ← List.append_assoc, ← krow_addL, List.length_append]
      have HTL1 : Hid ((kep x y (lst M n)).length + (cl ++ [kT nn y1 x (y3 + 1)]).length = ((kep x y (lst M n)).length + cl.length) + 1) := by rw [Hid, List.length_append]; simp; omega
      have FR := FromsO.own WT
      have CP := fun (v : World) (b : Below wr.heap.size wr v) => l7Put_opt ep u y1 x (y3 + 1) nn ao ((kep x y (lst M n)).length + cl.length) co (rowL ((kep x y (lst M n)) ++ cl)) v (by omega) (FR.below b) (by omega) (by omega) hnn
      have BZ : Below wr.heap.size wr wr := Below.refl _ _
      generalize hTT : ((kep x y (lst M n)).length + cl.length) = TT at *
      go_upto_region 8 with fail
      generalize hbz : wr.heap.size = bz at *
      go_cut [14, 15] (fun s14 s15 wx => ∃ j14 j15 a2 c2', s14 = .pointer (some ⟨j14, 0, none⟩) ∧ s15 = .pointer (some ⟨j15, 0, none⟩) ∧ Bx3 wx j14 (.int .i64 ep) (.int .i64 (u + 1)) (.slice a2 (TT + 1) c2') ∧ Bf4 wx j15 nn y1 x (y3 + 1) ∧ wx.ownsRow bz 34 4 (.slice a2 (TT + 1) c2') (TT + 1) (krow (addG (rowL ((kep x y (lst M n)) ++ cl)) TT (kT nn y1 x (y3 + 1))) (TT + 1)) ∧ bz ≤ j14 ∧ bz ≤ j15 ∧ Below bz wr wx)
      case first =>
        refine wp_region_held_drew (S := (fun w' => w'.cell? ⟨bo, 0, none⟩ = some (.int .i64 ep) ∧ w'.cell? ⟨bo, 1, none⟩ = some (.int .i64 u) ∧ w'.cell? ⟨bo, 2, none⟩ = some (.slice ao TT co) ∧ w'.cell? ⟨g, k * 4 + 1, none⟩ = some (.int .i64 y1) ∧ w'.cell? ⟨g, k * 4 + 3, none⟩ = some (.int .i64 y3))) (by kernel_rfl) ?_ (fun hHeld => ?_)
        · first | (exact ⟨(BZ.cell (p := ⟨bo, 0, none⟩) hbw).trans o1, (BZ.cell (p := ⟨bo, 1, none⟩) hbw).trans o2, (BZ.cell (p := ⟨bo, 2, none⟩) hbw).trans o3, (BZ.cell (p := ⟨g, k * 4 + 1, none⟩) hgw).trans c1', (BZ.cell (p := ⟨g, k * 4 + 3, none⟩) hgw).trans c3⟩) | (exact ⟨(BZ.drew.cell (p := ⟨bo, 0, none⟩) hbw).trans o1, (BZ.drew.cell (p := ⟨bo, 1, none⟩) hbw).trans o2, (BZ.drew.cell (p := ⟨bo, 2, none⟩) hbw).trans o3, (BZ.drew.cell (p := ⟨g, k * 4 + 1, none⟩) hgw).trans c1', (BZ.drew.cell (p := ⟨g, k * 4 + 3, none⟩) hgw).trans c3⟩)
        replace BZ := BZ.drew
        generalize wr.drew = v at *
        refine wpAnyH_take (i := 0) (v := ?_) (by rw [List.getElem?_toArray]; rfl) (by kernel_rfl) (by kernel_rfl) (by kernel_rfl) (by intro _ _ _ h; exact h) (Or.inl ⟨by rfl, ?_⟩) (by assumption) ?_
        rotate_left
        · (intro w hSw; (try dsimp only at hSw); go_simp; all_goals with_reducible rfl)
        (try simp only [Act.put, List.setIfInBounds_toArray, List.set_cons_zero, List.set_cons_succ])
        refine wpAnyH_take (i := 1) (v := ?_) (by rw [List.getElem?_toArray]; rfl) (by kernel_rfl) (by kernel_rfl) (by kernel_rfl) (by intro _ _ _ h; exact h) (Or.inl ⟨by rfl, ?_⟩) (by assumption) ?_
        rotate_left
        · (intro w hSw; (try dsimp only at hSw); go_simp; all_goals with_reducible rfl)
        (try simp only [Act.put, List.setIfInBounds_toArray, List.set_cons_zero, List.set_cons_succ])
        refine wpAnyH_take (i := 2) (v := ?_) (by rw [List.getElem?_toArray]; rfl) (by kernel_rfl) (by kernel_rfl) (by kernel_rfl) (by intro _ _ _ h; exact h) (Or.inl ⟨by rfl, ?_⟩) (by assumption) ?_
        rotate_left
        · (intro w hSw; (try dsimp only at hSw); go_simp; all_goals with_reducible rfl)
        (try simp only [Act.put, List.setIfInBounds_toArray, List.set_cons_zero, List.set_cons_succ])
        refine wpAnyH_take (i := 3) (v := ?_) (by rw [List.getElem?_toArray]; rfl) (by kernel_rfl) (by kernel_rfl) (by kernel_rfl) (by intro _ _ _ h; exact h) (Or.inl ⟨by rfl, ?_⟩) (by assumption) ?_
        rotate_left
        · (intro w hSw; (try dsimp only at hSw); go_simp; all_goals with_reducible rfl)
        (try simp only [Act.put, List.setIfInBounds_toArray, List.set_cons_zero, List.set_cons_succ])
        refine wpAnyH_take (i := 4) (v := ?_) (by rw [List.getElem?_toArray]; rfl) (by kernel_rfl) (by kernel_rfl) (by kernel_rfl) (by intro _ _ _ h; exact h) (Or.inl ⟨by rfl, ?_⟩) (by assumption) ?_
        rotate_left
        · (intro w hSw; (try dsimp only at hSw); go_simp; all_goals with_reducible rfl)
        (try simp only [Act.put, List.setIfInBounds_toArray, List.set_cons_zero, List.set_cons_succ])
        refine wpAnyH_take (i := 5) (v := ?_) (by rw [List.getElem?_toArray]; rfl) (by kernel_rfl) (by kernel_rfl) (by kernel_rfl) (by intro _ _ _ h; exact h) (Or.inl ⟨by rfl, ?_⟩) (by assumption) ?_
        rotate_left
        · (intro w hSw; (try dsimp only at hSw); go_simp; all_goals with_reducible rfl)
        (try simp only [Act.put, List.setIfInBounds_toArray, List.set_cons_zero, List.set_cons_succ])
        refine wpAnyH_take (i := 6) (v := ?_) (by rw [List.getElem?_toArray]; rfl) (by kernel_rfl) (by kernel_rfl) (by kernel_rfl) (by intro _ _ _ h; exact h) (Or.inl ⟨by rfl, ?_⟩) (by assumption) ?_
        rotate_left
        · (intro w hSw; (try dsimp only at hSw); go_simp; all_goals with_reducible rfl)
        (try simp only [Act.put, List.setIfInBounds_toArray, List.set_cons_zero, List.set_cons_succ])
        refine wpAnyH_take (i := 7) (v := ?_) (by rw [List.getElem?_toArray]; rfl) (by kernel_rfl) (by kernel_rfl) (by kernel_rfl) (by intro _ _ _ h; exact h) (Or.inl ⟨by rfl, ?_⟩) (by assumption) ?_
        rotate_left
        · (intro w hSw; (try dsimp only at hSw); go_simp; all_goals with_reducible rfl)
        (try simp only [Act.put, List.setIfInBounds_toArray, List.set_cons_zero, List.set_cons_succ])
        refine wpAnyH_take (i := 8) (v := ?_) (by rw [List.getElem?_toArray]; rfl) (by kernel_rfl) (by kernel_rfl) (by kernel_rfl) (by intro _ _ _ h; exact h) (Or.inl ⟨by rfl, ?_⟩) (by assumption) ?_
        rotate_left
        · (intro w hSw; (try dsimp only at hSw); go_simp; all_goals with_reducible rfl)
        (try simp only [Act.put, List.setIfInBounds_toArray, List.set_cons_zero, List.set_cons_succ])
        refine wpAnyH_take (i := 9) (v := ?_) (by rw [List.getElem?_toArray]; rfl) (by kernel_rfl) (by kernel_rfl) (by kernel_rfl) (by intro _ _ _ h; exact h) (Or.inl ⟨by rfl, ?_⟩) (by assumption) ?_
        rotate_left
        · (intro w hSw; (try dsimp only at hSw); go_simp; all_goals with_reducible rfl)
        (try simp only [Act.put, List.setIfInBounds_toArray, List.set_cons_zero, List.set_cons_succ])
        refine wpAnyH_take (i := 10) (v := ?_) (by rw [List.getElem?_toArray]; rfl) (by kernel_rfl) (by kernel_rfl) (by kernel_rfl) (by intro _ _ _ h; exact h) (Or.inl ⟨by rfl, ?_⟩) (by assumption) ?_
        rotate_left
        · (intro w hSw; (try dsimp only at hSw); go_simp; all_goals with_reducible rfl)
        (try simp only [Act.put, List.setIfInBounds_toArray, List.set_cons_zero, List.set_cons_succ])
        refine wpAnyH_take (i := 11) (v := ?_) (by rw [List.getElem?_toArray]; rfl) (by kernel_rfl) (by kernel_rfl) (by kernel_rfl) (by intro _ _ _ h; exact h) (Or.inl ⟨by rfl, ?_⟩) (by assumption) ?_
        rotate_left
        · (intro w hSw; (try dsimp only at hSw); go_simp; all_goals with_reducible rfl)
        (try simp only [Act.put, List.setIfInBounds_toArray, List.set_cons_zero, List.set_cons_succ])
        refine wpAnyH_take (i := 12) (v := ?_) (by rw [List.getElem?_toArray]; rfl) (by kernel_rfl) (by kernel_rfl) (by kernel_rfl) (by intro _ _ _ h; exact h) (Or.inl ⟨by rfl, ?_⟩) (by assumption) ?_
        rotate_left
        · (intro w hSw; (try dsimp only at hSw); go_simp; all_goals with_reducible rfl)
        (try simp only [Act.put, List.setIfInBounds_toArray, List.set_cons_zero, List.set_cons_succ])
        refine wpAnyH_ready (rs := [13, 17, 18]) (by kernel_rfl) (by simp) ?_
        refine (AllReadyH.cons (by rw [List.getElem?_toArray]; rfl) (fun K hK => ?_) (AllReadyH.cons (by rw [List.getElem?_toArray]; rfl) (fun K hK => ?_) (AllReadyH.cons (by rw [List.getElem?_toArray]; rfl) (fun K hK => ?_) AllReadyH.nil)))
        · go_simp
          (try clear x0 x1 x2 x3 x4 x5 x6); (try clear z0 z1 z2 z3 z4 z5 z6 z7 z8); refine (CP _ BZ).mono ?_; rintro e v ⟨a2, c2', rfl, OW, hb⟩; (have hsv := (Nat.le_trans (Nat.le_of_eq hbz.symm) BZ.size)); (replace OW := ownK_le OW hsv); (replace BZ := BZ.trans (hb.mono (Nat.le_trans (Nat.le_of_eq hbz.symm) BZ.size))); clear hb hsv; (try (obtain ⟨x0, x1, x2, x3, x4, x5, x6⟩ := id X14)); (try (obtain ⟨⟨z0, z1, z2, z3, z4⟩, z5, z6, z7, z8⟩ := id X15))
          (try go_wp2_with fail)
          refine hK.out _ _ ?_ (fun hHeld => ?_)
          · first | (exact ⟨(BZ.cell (p := ⟨bo, 0, none⟩) hbw).trans o1, (BZ.cell (p := ⟨bo, 1, none⟩) hbw).trans o2, (BZ.cell (p := ⟨bo, 2, none⟩) hbw).trans o3, (BZ.cell (p := ⟨g, k * 4 + 1, none⟩) hgw).trans c1', (BZ.cell (p := ⟨g, k * 4 + 3, none⟩) hgw).trans c3⟩) | (exact ⟨(BZ.drew.cell (p := ⟨bo, 0, none⟩) hbw).trans o1, (BZ.drew.cell (p := ⟨bo, 1, none⟩) hbw).trans o2, (BZ.drew.cell (p := ⟨bo, 2, none⟩) hbw).trans o3, (BZ.drew.cell (p := ⟨g, k * 4 + 1, none⟩) hgw).trans c1', (BZ.drew.cell (p := ⟨g, k * 4 + 3, none⟩) hgw).trans c3⟩)
          clear hK K
          (try simp only [Act.put, List.setIfInBounds_toArray, List.set_cons_zero, List.set_cons_succ])
          refine wpAnyH_take (i := 14) (v := ?_) (by rw [List.getElem?_toArray]; rfl) (by kernel_rfl) (by kernel_rfl) (by kernel_rfl) (by intro _ _ _ h; exact h) (Or.inl ⟨by rfl, ?_⟩) (by assumption) ?_
          rotate_left
          · (intro w hSw; (try dsimp only at hSw); go_simp; all_goals with_reducible rfl)
          (try simp only [Act.put, List.setIfInBounds_toArray, List.set_cons_zero, List.set_cons_succ])
          refine wpAnyH_take (i := 15) (v := ?_) (by rw [List.getElem?_toArray]; rfl) (by kernel_rfl) (by kernel_rfl) (by kernel_rfl) (by intro _ _ _ h; exact h) (Or.inl ⟨by rfl, ?_⟩) (by assumption) ?_
          rotate_left
          · (intro w hSw; (try dsimp only at hSw); go_simp; all_goals with_reducible rfl)
          (try simp only [Act.put, List.setIfInBounds_toArray, List.set_cons_zero, List.set_cons_succ])
          refine wpAnyH_take (i := 16) (v := ?_) (by rw [List.getElem?_toArray]; rfl) (by kernel_rfl) (by kernel_rfl) (by kernel_rfl) (by intro _ _ _ h; exact h) (Or.inl ⟨by rfl, ?_⟩) (by assumption) ?_
          rotate_left
          · (intro w hSw; (try dsimp only at hSw); go_simp; all_goals with_reducible rfl)
          (try simp only [Act.put, List.setIfInBounds_toArray, List.set_cons_zero, List.set_cons_succ])
          refine wpAnyH_ready (rs := [17, 18]) (by kernel_rfl) (by simp) ?_
          refine (AllReadyH.cons (by rw [List.getElem?_toArray]; rfl) (fun K hK => ?_) (AllReadyH.cons (by rw [List.getElem?_toArray]; rfl) (fun K hK => ?_) AllReadyH.nil))
          · go_simp
            (try clear x0 x1 x2 x3 x4 x5 x6); (try clear z0 z1 z2 z3 z4 z5 z6 z7 z8); (have X14 := Bx3.new v (.int .i64 0) (.int .i64 0) (.slice none 0 0) 26); (have A7 := Below.nw v (.cells #[.int .i64 0, .int .i64 0, .slice none 0 0] 26)); (have h14 : bz ≤ v.heap.size := (Nat.le_trans (Nat.le_of_eq hbz.symm) BZ.size)); (have e14 : ∀ g, Value.ownBlock (Value.slice a2 (TT + 1) c2') = some g → g ≠ v.heap.size := fun g hg => by have := (World.ownsRow.lt OW g hg).2; omega); (replace OW := own_belK' OW A7); (replace BZ := BZ.trans (A7.mono (Nat.le_trans (Nat.le_of_eq hbz.symm) BZ.size))); clear A7; (generalize v.heap.size = j14 at *); (generalize v.alloc (.cells #[.int .i64 0, .int .i64 0, .slice none 0 0] 26) = v at *); (try (obtain ⟨x0, x1, x2, x3, x4, x5, x6⟩ := id X14)); (try (obtain ⟨⟨z0, z1, z2, z3, z4⟩, z5, z6, z7, z8⟩ := id X15))
            refine hK.out _ _ ?_ (fun hHeld => ?_)
            · first | (exact ⟨(BZ.cell (p := ⟨bo, 0, none⟩) hbw).trans o1, (BZ.cell (p := ⟨bo, 1, none⟩) hbw).trans o2, (BZ.cell (p := ⟨bo, 2, none⟩) hbw).trans o3, (BZ.cell (p := ⟨g, k * 4 + 1, none⟩) hgw).trans c1', (BZ.cell (p := ⟨g, k * 4 + 3, none⟩) hgw).trans c3⟩) | (exact ⟨(BZ.drew.cell (p := ⟨bo, 0, none⟩) hbw).trans o1, (BZ.drew.cell (p := ⟨bo, 1, none⟩) hbw).trans o2, (BZ.drew.cell (p := ⟨bo, 2, none⟩) hbw).trans o3, (BZ.drew.cell (p := ⟨g, k * 4 + 1, none⟩) hgw).trans c1', (BZ.drew.cell (p := ⟨g, k * 4 + 3, none⟩) hgw).trans c3⟩)
            clear hK K
            (try simp only [Act.put, List.setIfInBounds_toArray, List.set_cons_zero, List.set_cons_succ])
            refine wpAnyH_ready (rs := [18]) (by kernel_rfl) (by simp) ?_
            refine (AllReadyH.cons (by rw [List.getElem?_toArray]; rfl) (fun K hK => ?_) AllReadyH.nil)
            go_simp
            (try clear x0 x1 x2 x3 x4 x5 x6); (try clear z0 z1 z2 z3 z4 z5 z6 z7 z8); (have X15 := Bf4.new v 0 0 0 0 34); (have A7 := Below.nw v (.cells #[.int .i64 0, .int .i64 0, .int .i64 0, .int .i64 0] 34)); (have h15 : bz ≤ v.heap.size := (Nat.le_trans (Nat.le_of_eq hbz.symm) BZ.size)); (have n45 : j14 < v.heap.size := X14.1); (replace X14 := X14.below A7); (have e15 : ∀ g, Value.ownBlock (Value.slice a2 (TT + 1) c2') = some g → g ≠ v.heap.size := fun g hg => by have := (World.ownsRow.lt OW g hg).2; omega); (replace OW := own_belK' OW A7); (replace BZ := BZ.trans (A7.mono (Nat.le_trans (Nat.le_of_eq hbz.symm) BZ.size))); clear A7; (generalize v.heap.size = j15 at *); (generalize v.alloc (.cells #[.int .i64 0, .int .i64 0, .int .i64 0, .int .i64 0] 34) = v at *); (try (obtain ⟨x0, x1, x2, x3, x4, x5, x6⟩ := id X14)); (try (obtain ⟨⟨z0, z1, z2, z3, z4⟩, z5, z6, z7, z8⟩ := id X15))
            refine hK.out _ _ ?_ (fun hHeld => ?_)
            · first | (exact ⟨(BZ.cell (p := ⟨bo, 0, none⟩) hbw).trans o1, (BZ.cell (p := ⟨bo, 1, none⟩) hbw).trans o2, (BZ.cell (p := ⟨bo, 2, none⟩) hbw).trans o3, (BZ.cell (p := ⟨g, k * 4 + 1, none⟩) hgw).trans c1', (BZ.cell (p := ⟨g, k * 4 + 3, none⟩) hgw).trans c3⟩) | (exact ⟨(BZ.drew.cell (p := ⟨bo, 0, none⟩) hbw).trans o1, (BZ.drew.cell (p := ⟨bo, 1, none⟩) hbw).trans o2, (BZ.drew.cell (p := ⟨bo, 2, none⟩) hbw).trans o3, (BZ.drew.cell (p := ⟨g, k * 4 + 1, none⟩) hgw).trans c1', (BZ.drew.cell (p := ⟨g, k * 4 + 3, none⟩) hgw).trans c3⟩)
            clear hK K
            (try simp only [Act.put, List.setIfInBounds_toArray, List.set_cons_zero, List.set_cons_succ])
            refine wpAnyH_ready (rs := [19]) (by kernel_rfl) (by simp) ?_
            refine (AllReadyH.cons (by rw [List.getElem?_toArray]; rfl) (fun K hK => ?_) AllReadyH.nil)
            go_simp
            (try clear x0 x1 x2 x3 x4 x5 x6); (try clear z0 z1 z2 z3 z4 z5 z6 z7 z8); (have PB := put3_butK v j14 (.int .i64 ep) (.int .i64 (u + 1)) (.slice a2 (TT + 1) c2')); (replace X14 := X14.set (.int .i64 ep) (.int .i64 (u + 1)) (.slice a2 (TT + 1) c2')); (replace X15 := X15.but PB (by omega)); (replace OW := own_neK OW PB e14); (replace BZ := BZ.trans (PB.below h14 (Nat.le_trans (Nat.le_of_eq hbz.symm) BZ.size))); clear PB; (generalize (((v.setCell ⟨j14, 0, none⟩ (.int .i64 ep)).setCell ⟨j14, 1, none⟩ (.int .i64 (u + 1))).setCell ⟨j14, 2, none⟩ (.slice a2 (TT + 1) c2')) = v at *); (try (obtain ⟨x0, x1, x2, x3, x4, x5, x6⟩ := id X14)); (try (obtain ⟨⟨z0, z1, z2, z3, z4⟩, z5, z6, z7, z8⟩ := id X15))
            refine hK.out _ _ ?_ (fun hHeld => ?_)
            · first | (exact ⟨(BZ.cell (p := ⟨bo, 0, none⟩) hbw).trans o1, (BZ.cell (p := ⟨bo, 1, none⟩) hbw).trans o2, (BZ.cell (p := ⟨bo, 2, none⟩) hbw).trans o3, (BZ.cell (p := ⟨g, k * 4 + 1, none⟩) hgw).trans c1', (BZ.cell (p := ⟨g, k * 4 + 3, none⟩) hgw).trans c3⟩) | (exact ⟨(BZ.drew.cell (p := ⟨bo, 0, none⟩) hbw).trans o1, (BZ.drew.cell (p := ⟨bo, 1, none⟩) hbw).trans o2, (BZ.drew.cell (p := ⟨bo, 2, none⟩) hbw).trans o3, (BZ.drew.cell (p := ⟨g, k * 4 + 1, none⟩) hgw).trans c1', (BZ.drew.cell (p := ⟨g, k * 4 + 3, none⟩) hgw).trans c3⟩)
            clear hK K
            (try simp only [Act.put, List.setIfInBounds_toArray, List.set_cons_zero, List.set_cons_succ])
            refine wpAnyH_ready (rs := [20]) (by kernel_rfl) (by simp) ?_
            refine (AllReadyH.cons (by rw [List.getElem?_toArray]; rfl) (fun K hK => ?_) AllReadyH.nil)
            go_simp
            (try clear x0 x1 x2 x3 x4 x5 x6); (try clear z0 z1 z2 z3 z4 z5 z6 z7 z8); (have PB : But j15 v (put4 v j15 nn y1 x (y3 + 1)) := put4_butK v j15 nn y1 x (y3 + 1)); (replace X15 := X15.set nn y1 x (y3 + 1)); (replace X14 := X14.but PB (by omega)); (replace OW := own_neK OW PB e15); (replace BZ := BZ.trans (PB.below h15 (Nat.le_trans (Nat.le_of_eq hbz.symm) BZ.size))); clear PB
            refine hK.out _ _ ?_ (fun hHeld => ?_)
            · first | (exact ⟨(BZ.cell (p := ⟨bo, 0, none⟩) hbw).trans o1, (BZ.cell (p := ⟨bo, 1, none⟩) hbw).trans o2, (BZ.cell (p := ⟨bo, 2, none⟩) hbw).trans o3, (BZ.cell (p := ⟨g, k * 4 + 1, none⟩) hgw).trans c1', (BZ.cell (p := ⟨g, k * 4 + 3, none⟩) hgw).trans c3⟩) | (exact ⟨(BZ.drew.cell (p := ⟨bo, 0, none⟩) hbw).trans o1, (BZ.drew.cell (p := ⟨bo, 1, none⟩) hbw).trans o2, (BZ.drew.cell (p := ⟨bo, 2, none⟩) hbw).trans o3, (BZ.drew.cell (p := ⟨g, k * 4 + 1, none⟩) hgw).trans c1', (BZ.drew.cell (p := ⟨g, k * 4 + 3, none⟩) hgw).trans c3⟩)
            clear hK K
            (try simp only [Act.put, List.setIfInBounds_toArray, List.set_cons_zero, List.set_cons_succ])
            refine wpAnyH_done (by kernel_rfl) ?_ _
            go_wp2_with fail
            go_meet
            case rel => exact ⟨j14, j15, a2, c2', rfl, rfl, X14, X15, OW, h14, h15, BZ⟩
          · go_simp
            (try clear x0 x1 x2 x3 x4 x5 x6); (try clear z0 z1 z2 z3 z4 z5 z6 z7 z8); (have X15 := Bf4.new v 0 0 0 0 34); (have A7 := Below.nw v (.cells #[.int .i64 0, .int .i64 0, .int .i64 0, .int .i64 0] 34)); (have h15 : bz ≤ v.heap.size := (Nat.le_trans (Nat.le_of_eq hbz.symm) BZ.size)); (have e15 : ∀ g, Value.ownBlock (Value.slice a2 (TT + 1) c2') = some g → g ≠ v.heap.size := fun g hg => by have := (World.ownsRow.lt OW g hg).2; omega); (replace OW := own_belK' OW A7); (replace BZ := BZ.trans (A7.mono (Nat.le_trans (Nat.le_of_eq hbz.symm) BZ.size))); clear A7; (generalize v.heap.size = j15 at *); (generalize v.alloc (.cells #[.int .i64 0, .int .i64 0, .int .i64 0, .int .i64 0] 34) = v at *); (try (obtain ⟨x0, x1, x2, x3, x4, x5, x6⟩ := id X14)); (try (obtain ⟨⟨z0, z1, z2, z3, z4⟩, z5, z6, z7, z8⟩ := id X15))
            refine hK.out _ _ ?_ (fun hHeld => ?_)
            · first | (exact ⟨(BZ.cell (p := ⟨bo, 0, none⟩) hbw).trans o1, (BZ.cell (p := ⟨bo, 1, none⟩) hbw).trans o2, (BZ.cell (p := ⟨bo, 2, none⟩) hbw).trans o3, (BZ.cell (p := ⟨g, k * 4 + 1, none⟩) hgw).trans c1', (BZ.cell (p := ⟨g, k * 4 + 3, none⟩) hgw).trans c3⟩) | (exact ⟨(BZ.drew.cell (p := ⟨bo, 0, none⟩) hbw).trans o1, (BZ.drew.cell (p := ⟨bo, 1, none⟩) hbw).trans o2, (BZ.drew.cell (p := ⟨bo, 2, none⟩) hbw).trans o3, (BZ.drew.cell (p := ⟨g, k * 4 + 1, none⟩) hgw).trans c1', (BZ.drew.cell (p := ⟨g, k * 4 + 3, none⟩) hgw).trans c3⟩)
            clear hK K
            (try simp only [Act.put, List.setIfInBounds_toArray, List.set_cons_zero, List.set_cons_succ])
            refine wpAnyH_ready (rs := [17]) (by kernel_rfl) (by simp) ?_
            refine (AllReadyH.cons (by rw [List.getElem?_toArray]; rfl) (fun K hK => ?_) AllReadyH.nil)
            go_simp
            (try clear x0 x1 x2 x3 x4 x5 x6); (try clear z0 z1 z2 z3 z4 z5 z6 z7 z8); (have X14 := Bx3.new v (.int .i64 0) (.int .i64 0) (.slice none 0 0) 26); (have A7 := Below.nw v (.cells #[.int .i64 0, .int .i64 0, .slice none 0 0] 26)); (have h14 : bz ≤ v.heap.size := (Nat.le_trans (Nat.le_of_eq hbz.symm) BZ.size)); (have n45 : j15 < v.heap.size := X15.1.1); (replace X15 := X15.below A7); (have e14 : ∀ g, Value.ownBlock (Value.slice a2 (TT + 1) c2') = some g → g ≠ v.heap.size := fun g hg => by have := (World.ownsRow.lt OW g hg).2; omega); (replace OW := own_belK' OW A7); (replace BZ := BZ.trans (A7.mono (Nat.le_trans (Nat.le_of_eq hbz.symm) BZ.size))); clear A7; (generalize v.heap.size = j14 at *); (generalize v.alloc (.cells #[.int .i64 0, .int .i64 0, .slice none 0 0] 26) = v at *); (try (obtain ⟨x0, x1, x2, x3, x4, x5, x6⟩ := id X14)); (try (obtain ⟨⟨z0, z1, z2, z3, z4⟩, z5, z6, z7, z8⟩ := id X15))
            refine hK.out _ _ ?_ (fun hHeld => ?_)
            · first | (exact ⟨(BZ.cell (p := ⟨bo, 0, none⟩) hbw).trans o1, (BZ.cell (p := ⟨bo, 1, none⟩) hbw).trans o2, (BZ.cell (p := ⟨bo, 2, none⟩) hbw).trans o3, (BZ.cell (p := ⟨g, k * 4 + 1, none⟩) hgw).trans c1', (BZ.cell (p := ⟨g, k * 4 + 3, none⟩) hgw).trans c3⟩) | (exact ⟨(BZ.drew.cell (p := ⟨bo, 0, none⟩) hbw).trans o1, (BZ.drew.cell (p := ⟨bo, 1, none⟩) hbw).trans o2, (BZ.drew.cell (p := ⟨bo, 2, none⟩) hbw).trans o3, (BZ.drew.cell (p := ⟨g, k * 4 + 1, none⟩) hgw).trans c1', (BZ.drew.cell (p := ⟨g, k * 4 + 3, none⟩) hgw).trans c3⟩)
            clear hK K
            (try simp only [Act.put, List.setIfInBounds_toArray, List.set_cons_zero, List.set_cons_succ])
            refine wpAnyH_ready (rs := [19]) (by kernel_rfl) (by simp) ?_
            refine (AllReadyH.cons (by rw [List.getElem?_toArray]; rfl) (fun K hK => ?_) AllReadyH.nil)
            go_simp
            (try clear x0 x1 x2 x3 x4 x5 x6); (try clear z0 z1 z2 z3 z4 z5 z6 z7 z8); (have PB := put3_butK v j14 (.int .i64 ep) (.int .i64 (u + 1)) (.slice a2 (TT + 1) c2')); (replace X14 := X14.set (.int .i64 ep) (.int .i64 (u + 1)) (.slice a2 (TT + 1) c2')); (replace X15 := X15.but PB (by omega)); (replace OW := own_neK OW PB e14); (replace BZ := BZ.trans (PB.below h14 (Nat.le_trans (Nat.le_of_eq hbz.symm) BZ.size))); clear PB; (generalize (((v.setCell ⟨j14, 0, none⟩ (.int .i64 ep)).setCell ⟨j14, 1, none⟩ (.int .i64 (u + 1))).setCell ⟨j14, 2, none⟩ (.slice a2 (TT + 1) c2')) = v at *); (try (obtain ⟨x0, x1, x2, x3, x4, x5, x6⟩ := id X14)); (try (obtain ⟨⟨z0, z1, z2, z3, z4⟩, z5, z6, z7, z8⟩ := id X15))
            refine hK.out _ _ ?_ (fun hHeld => ?_)
            · first | (exact ⟨(BZ.cell (p := ⟨bo, 0, none⟩) hbw).trans o1, (BZ.cell (p := ⟨bo, 1, none⟩) hbw).trans o2, (BZ.cell (p := ⟨bo, 2, none⟩) hbw).trans o3, (BZ.cell (p := ⟨g, k * 4 + 1, none⟩) hgw).trans c1', (BZ.cell (p := ⟨g, k * 4 + 3, none⟩) hgw).trans c3⟩) | (exact ⟨(BZ.drew.cell (p := ⟨bo, 0, none⟩) hbw).trans o1, (BZ.drew.cell (p := ⟨bo, 1, none⟩) hbw).trans o2, (BZ.drew.cell (p := ⟨bo, 2, none⟩) hbw).trans o3, (BZ.drew.cell (p := ⟨g, k * 4 + 1, none⟩) hgw).trans c1', (BZ.drew.cell (p := ⟨g, k * 4 + 3, none⟩) hgw).trans c3⟩)
            clear hK K
            (try simp only [Act.put, List.setIfInBounds_toArray, List.set_cons_zero, List.set_cons_succ])
            refine wpAnyH_ready (rs := [20]) (by kernel_rfl) (by simp) ?_
            refine (AllReadyH.cons (by rw [List.getElem?_toArray]; rfl) (fun K hK => ?_) AllReadyH.nil)
            go_simp
            (try clear x0 x1 x2 x3 x4 x5 x6); (try clear z0 z1 z2 z3 z4 z5 z6 z7 z8); (have PB : But j15 v (put4 v j15 nn y1 x (y3 + 1)) := put4_butK v j15 nn y1 x (y3 + 1)); (replace X15 := X15.set nn y1 x (y3 + 1)); (replace X14 := X14.but PB (by omega)); (replace OW := own_neK OW PB e15); (replace BZ := BZ.trans (PB.below h15 (Nat.le_trans (Nat.le_of_eq hbz.symm) BZ.size))); clear PB
            refine hK.out _ _ ?_ (fun hHeld => ?_)
            · first | (exact ⟨(BZ.cell (p := ⟨bo, 0, none⟩) hbw).trans o1, (BZ.cell (p := ⟨bo, 1, none⟩) hbw).trans o2, (BZ.cell (p := ⟨bo, 2, none⟩) hbw).trans o3, (BZ.cell (p := ⟨g, k * 4 + 1, none⟩) hgw).trans c1', (BZ.cell (p := ⟨g, k * 4 + 3, none⟩) hgw).trans c3⟩) | (exact ⟨(BZ.drew.cell (p := ⟨bo, 0, none⟩) hbw).trans o1, (BZ.drew.cell (p := ⟨bo, 1, none⟩) hbw).trans o2, (BZ.drew.cell (p := ⟨bo, 2, none⟩) hbw).trans o3, (BZ.drew.cell (p := ⟨g, k * 4 + 1, none⟩) hgw).trans c1', (BZ.drew.cell (p := ⟨g, k * 4 + 3, none⟩) hgw).trans c3⟩)
            clear hK K
            (try simp only [Act.put, List.setIfInBounds_toArray, List.set_cons_zero, List.set_cons_succ])
            refine wpAnyH_done (by kernel_rfl) ?_ _
            go_wp2_with fail
            go_meet
            case rel => exact ⟨j14, j15, a2, c2', rfl, rfl, X14, X15, OW, h14, h15, BZ⟩
        · go_simp
          (try clear x0 x1 x2 x3 x4 x5 x6); (try clear z0 z1 z2 z3 z4 z5 z6 z7 z8); (have X14 := Bx3.new v (.int .i64 0) (.int .i64 0) (.slice none 0 0) 26); (have A7 := Below.nw v (.cells #[.int .i64 0, .int .i64 0, .slice none 0 0] 26)); (have h14 : bz ≤ v.heap.size := (Nat.le_trans (Nat.le_of_eq hbz.symm) BZ.size)); (replace BZ := BZ.trans (A7.mono (Nat.le_trans (Nat.le_of_eq hbz.symm) BZ.size))); clear A7; (generalize v.heap.size = j14 at *); (generalize v.alloc (.cells #[.int .i64 0, .int .i64 0, .slice none 0 0] 26) = v at *); (try (obtain ⟨x0, x1, x2, x3, x4, x5, x6⟩ := id X14)); (try (obtain ⟨⟨z0, z1, z2, z3, z4⟩, z5, z6, z7, z8⟩ := id X15))
          refine hK.out _ _ ?_ (fun hHeld => ?_)
          · first | (exact ⟨(BZ.cell (p := ⟨bo, 0, none⟩) hbw).trans o1, (BZ.cell (p := ⟨bo, 1, none⟩) hbw).trans o2, (BZ.cell (p := ⟨bo, 2, none⟩) hbw).trans o3, (BZ.cell (p := ⟨g, k * 4 + 1, none⟩) hgw).trans c1', (BZ.cell (p := ⟨g, k * 4 + 3, none⟩) hgw).trans c3⟩) | (exact ⟨(BZ.drew.cell (p := ⟨bo, 0, none⟩) hbw).trans o1, (BZ.drew.cell (p := ⟨bo, 1, none⟩) hbw).trans o2, (BZ.drew.cell (p := ⟨bo, 2, none⟩) hbw).trans o3, (BZ.drew.cell (p := ⟨g, k * 4 + 1, none⟩) hgw).trans c1', (BZ.drew.cell (p := ⟨g, k * 4 + 3, none⟩) hgw).trans c3⟩)
          clear hK K
          (try simp only [Act.put, List.setIfInBounds_toArray, List.set_cons_zero, List.set_cons_succ])
          refine wpAnyH_ready (rs := [13, 18]) (by kernel_rfl) (by simp) ?_
          refine (AllReadyH.cons (by rw [List.getElem?_toArray]; rfl) (fun K hK => ?_) (AllReadyH.cons (by rw [List.getElem?_toArray]; rfl) (fun K hK => ?_) AllReadyH.nil))
          · go_simp
            (try clear x0 x1 x2 x3 x4 x5 x6); (try clear z0 z1 z2 z3 z4 z5 z6 z7 z8); refine (CP _ BZ).mono ?_; rintro e v ⟨a2, c2', rfl, OW, hb⟩; (have hsv := (Nat.le_trans (Nat.le_of_eq hbz.symm) BZ.size)); (have e14 : ∀ g, Value.ownBlock (Value.slice a2 (TT + 1) c2') = some g → g ≠ j14 := fun g hg => by have := (World.ownsRow.lt OW g hg).1; have := X14.1; omega); (replace X14 := X14.below hb); (replace OW := ownK_le OW hsv); (replace BZ := BZ.trans (hb.mono (Nat.le_trans (Nat.le_of_eq hbz.symm) BZ.size))); clear hb hsv; (try (obtain ⟨x0, x1, x2, x3, x4, x5, x6⟩ := id X14)); (try (obtain ⟨⟨z0, z1, z2, z3, z4⟩, z5, z6, z7, z8⟩ := id X15))
            (try go_wp2_with fail)
            refine hK.out _ _ ?_ (fun hHeld => ?_)
            · first | (exact ⟨(BZ.cell (p := ⟨bo, 0, none⟩) hbw).trans o1, (BZ.cell (p := ⟨bo, 1, none⟩) hbw).trans o2, (BZ.cell (p := ⟨bo, 2, none⟩) hbw).trans o3, (BZ.cell (p := ⟨g, k * 4 + 1, none⟩) hgw).trans c1', (BZ.cell (p := ⟨g, k * 4 + 3, none⟩) hgw).trans c3⟩) | (exact ⟨(BZ.drew.cell (p := ⟨bo, 0, none⟩) hbw).trans o1, (BZ.drew.cell (p := ⟨bo, 1, none⟩) hbw).trans o2, (BZ.drew.cell (p := ⟨bo, 2, none⟩) hbw).trans o3, (BZ.drew.cell (p := ⟨g, k * 4 + 1, none⟩) hgw).trans c1', (BZ.drew.cell (p := ⟨g, k * 4 + 3, none⟩) hgw).trans c3⟩)
            clear hK K
            (try simp only [Act.put, List.setIfInBounds_toArray, List.set_cons_zero, List.set_cons_succ])
            refine wpAnyH_take (i := 14) (v := ?_) (by rw [List.getElem?_toArray]; rfl) (by kernel_rfl) (by kernel_rfl) (by kernel_rfl) (by intro _ _ _ h; exact h) (Or.inl ⟨by rfl, ?_⟩) (by assumption) ?_
            rotate_left
            · (intro w hSw; (try dsimp only at hSw); go_simp; all_goals with_reducible rfl)
            (try simp only [Act.put, List.setIfInBounds_toArray, List.set_cons_zero, List.set_cons_succ])
            refine wpAnyH_take (i := 15) (v := ?_) (by rw [List.getElem?_toArray]; rfl) (by kernel_rfl) (by kernel_rfl) (by kernel_rfl) (by intro _ _ _ h; exact h) (Or.inl ⟨by rfl, ?_⟩) (by assumption) ?_
            rotate_left
            · (intro w hSw; (try dsimp only at hSw); go_simp; all_goals with_reducible rfl)
            (try simp only [Act.put, List.setIfInBounds_toArray, List.set_cons_zero, List.set_cons_succ])
            refine wpAnyH_take (i := 16) (v := ?_) (by rw [List.getElem?_toArray]; rfl) (by kernel_rfl) (by kernel_rfl) (by kernel_rfl) (by intro _ _ _ h; exact h) (Or.inl ⟨by rfl, ?_⟩) (by assumption) ?_
            rotate_left
            · (intro w hSw; (try dsimp only at hSw); go_simp; all_goals with_reducible rfl)
            (try simp only [Act.put, List.setIfInBounds_toArray, List.set_cons_zero, List.set_cons_succ])
            refine wpAnyH_ready (rs := [18]) (by kernel_rfl) (by simp) ?_
            refine (AllReadyH.cons (by rw [List.getElem?_toArray]; rfl) (fun K hK => ?_) AllReadyH.nil)
            go_simp
            (try clear x0 x1 x2 x3 x4 x5 x6); (try clear z0 z1 z2 z3 z4 z5 z6 z7 z8); (have X15 := Bf4.new v 0 0 0 0 34); (have A7 := Below.nw v (.cells #[.int .i64 0, .int .i64 0, .int .i64 0, .int .i64 0] 34)); (have h15 : bz ≤ v.heap.size := (Nat.le_trans (Nat.le_of_eq hbz.symm) BZ.size)); (have n45 : j14 < v.heap.size := X14.1); (replace X14 := X14.below A7); (have e15 : ∀ g, Value.ownBlock (Value.slice a2 (TT + 1) c2') = some g → g ≠ v.heap.size := fun g hg => by have := (World.ownsRow.lt OW g hg).2; omega); (replace OW := own_belK' OW A7); (replace BZ := BZ.trans (A7.mono (Nat.le_trans (Nat.le_of_eq hbz.symm) BZ.size))); clear A7; (generalize v.heap.size = j15 at *); (generalize v.alloc (.cells #[.int .i64 0, .int .i64 0, .int .i64 0, .int .i64 0] 34) = v at *); (try (obtain ⟨x0, x1, x2, x3, x4, x5, x6⟩ := id X14)); (try (obtain ⟨⟨z0, z1, z2, z3, z4⟩, z5, z6, z7, z8⟩ := id X15))
            refine hK.out _ _ ?_ (fun hHeld => ?_)
            · first | (exact ⟨(BZ.cell (p := ⟨bo, 0, none⟩) hbw).trans o1, (BZ.cell (p := ⟨bo, 1, none⟩) hbw).trans o2, (BZ.cell (p := ⟨bo, 2, none⟩) hbw).trans o3, (BZ.cell (p := ⟨g, k * 4 + 1, none⟩) hgw).trans c1', (BZ.cell (p := ⟨g, k * 4 + 3, none⟩) hgw).trans c3⟩) | (exact ⟨(BZ.drew.cell (p := ⟨bo, 0, none⟩) hbw).trans o1, (BZ.drew.cell (p := ⟨bo, 1, none⟩) hbw).trans o2, (BZ.drew.cell (p := ⟨bo, 2, none⟩) hbw).trans o3, (BZ.drew.cell (p := ⟨g, k * 4 + 1, none⟩) hgw).trans c1', (BZ.drew.cell (p := ⟨g, k * 4 + 3, none⟩) hgw).trans c3⟩)
            clear hK K
            (try simp only [Act.put, List.setIfInBounds_toArray, List.set_cons_zero, List.set_cons_succ])
            refine wpAnyH_ready (rs := [19]) (by kernel_rfl) (by simp) ?_
            refine (AllReadyH.cons (by rw [List.getElem?_toArray]; rfl) (fun K hK => ?_) AllReadyH.nil)
            go_simp
            (try clear x0 x1 x2 x3 x4 x5 x6); (try clear z0 z1 z2 z3 z4 z5 z6 z7 z8); (have PB := put3_butK v j14 (.int .i64 ep) (.int .i64 (u + 1)) (.slice a2 (TT + 1) c2')); (replace X14 := X14.set (.int .i64 ep) (.int .i64 (u + 1)) (.slice a2 (TT + 1) c2')); (replace X15 := X15.but PB (by omega)); (replace OW := own_neK OW PB e14); (replace BZ := BZ.trans (PB.below h14 (Nat.le_trans (Nat.le_of_eq hbz.symm) BZ.size))); clear PB; (generalize (((v.setCell ⟨j14, 0, none⟩ (.int .i64 ep)).setCell ⟨j14, 1, none⟩ (.int .i64 (u + 1))).setCell ⟨j14, 2, none⟩ (.slice a2 (TT + 1) c2')) = v at *); (try (obtain ⟨x0, x1, x2, x3, x4, x5, x6⟩ := id X14)); (try (obtain ⟨⟨z0, z1, z2, z3, z4⟩, z5, z6, z7, z8⟩ := id X15))
            refine hK.out _ _ ?_ (fun hHeld => ?_)
            · first | (exact ⟨(BZ.cell (p := ⟨bo, 0, none⟩) hbw).trans o1, (BZ.cell (p := ⟨bo, 1, none⟩) hbw).trans o2, (BZ.cell (p := ⟨bo, 2, none⟩) hbw).trans o3, (BZ.cell (p := ⟨g, k * 4 + 1, none⟩) hgw).trans c1', (BZ.cell (p := ⟨g, k * 4 + 3, none⟩) hgw).trans c3⟩) | (exact ⟨(BZ.drew.cell (p := ⟨bo, 0, none⟩) hbw).trans o1, (BZ.drew.cell (p := ⟨bo, 1, none⟩) hbw).trans o2, (BZ.drew.cell (p := ⟨bo, 2, none⟩) hbw).trans o3, (BZ.drew.cell (p := ⟨g, k * 4 + 1, none⟩) hgw).trans c1', (BZ.drew.cell (p := ⟨g, k * 4 + 3, none⟩) hgw).trans c3⟩)
            clear hK K
            (try simp only [Act.put, List.setIfInBounds_toArray, List.set_cons_zero, List.set_cons_succ])
            refine wpAnyH_ready (rs := [20]) (by kernel_rfl) (by simp) ?_
            refine (AllReadyH.cons (by rw [List.getElem?_toArray]; rfl) (fun K hK => ?_) AllReadyH.nil)
            go_simp
            (try clear x0 x1 x2 x3 x4 x5 x6); (try clear z0 z1 z2 z3 z4 z5 z6 z7 z8); (have PB : But j15 v (put4 v j15 nn y1 x (y3 + 1)) := put4_butK v j15 nn y1 x (y3 + 1)); (replace X15 := X15.set nn y1 x (y3 + 1)); (replace X14 := X14.but PB (by omega)); (replace OW := own_neK OW PB e15); (replace BZ := BZ.trans (PB.below h15 (Nat.le_trans (Nat.le_of_eq hbz.symm) BZ.size))); clear PB
            refine hK.out _ _ ?_ (fun hHeld => ?_)
            · first | (exact ⟨(BZ.cell (p := ⟨bo, 0, none⟩) hbw).trans o1, (BZ.cell (p := ⟨bo, 1, none⟩) hbw).trans o2, (BZ.cell (p := ⟨bo, 2, none⟩) hbw).trans o3, (BZ.cell (p := ⟨g, k * 4 + 1, none⟩) hgw).trans c1', (BZ.cell (p := ⟨g, k * 4 + 3, none⟩) hgw).trans c3⟩) | (exact ⟨(BZ.drew.cell (p := ⟨bo, 0, none⟩) hbw).trans o1, (BZ.drew.cell (p := ⟨bo, 1, none⟩) hbw).trans o2, (BZ.drew.cell (p := ⟨bo, 2, none⟩) hbw).trans o3, (BZ.drew.cell (p := ⟨g, k * 4 + 1, none⟩) hgw).trans c1', (BZ.drew.cell (p := ⟨g, k * 4 + 3, none⟩) hgw).trans c3⟩)
            clear hK K
            (try simp only [Act.put, List.setIfInBounds_toArray, List.set_cons_zero, List.set_cons_succ])
            refine wpAnyH_done (by kernel_rfl) ?_ _
            go_wp2_with fail
            go_meet
            case rel => exact ⟨j14, j15, a2, c2', rfl, rfl, X14, X15, OW, h14, h15, BZ⟩
          · go_simp
            (try clear x0 x1 x2 x3 x4 x5 x6); (try clear z0 z1 z2 z3 z4 z5 z6 z7 z8); (have X15 := Bf4.new v 0 0 0 0 34); (have A7 := Below.nw v (.cells #[.int .i64 0, .int .i64 0, .int .i64 0, .int .i64 0] 34)); (have h15 : bz ≤ v.heap.size := (Nat.le_trans (Nat.le_of_eq hbz.symm) BZ.size)); (have n45 : j14 < v.heap.size := X14.1); (replace X14 := X14.below A7); (replace BZ := BZ.trans (A7.mono (Nat.le_trans (Nat.le_of_eq hbz.symm) BZ.size))); clear A7; (generalize v.heap.size = j15 at *); (generalize v.alloc (.cells #[.int .i64 0, .int .i64 0, .int .i64 0, .int .i64 0] 34) = v at *); (try (obtain ⟨x0, x1, x2, x3, x4, x5, x6⟩ := id X14)); (try (obtain ⟨⟨z0, z1, z2, z3, z4⟩, z5, z6, z7, z8⟩ := id X15))
            refine hK.out _ _ ?_ (fun hHeld => ?_)
            · first | (exact ⟨(BZ.cell (p := ⟨bo, 0, none⟩) hbw).trans o1, (BZ.cell (p := ⟨bo, 1, none⟩) hbw).trans o2, (BZ.cell (p := ⟨bo, 2, none⟩) hbw).trans o3, (BZ.cell (p := ⟨g, k * 4 + 1, none⟩) hgw).trans c1', (BZ.cell (p := ⟨g, k * 4 + 3, none⟩) hgw).trans c3⟩) | (exact ⟨(BZ.drew.cell (p := ⟨bo, 0, none⟩) hbw).trans o1, (BZ.drew.cell (p := ⟨bo, 1, none⟩) hbw).trans o2, (BZ.drew.cell (p := ⟨bo, 2, none⟩) hbw).trans o3, (BZ.drew.cell (p := ⟨g, k * 4 + 1, none⟩) hgw).trans c1', (BZ.drew.cell (p := ⟨g, k * 4 + 3, none⟩) hgw).trans c3⟩)
            clear hK K
            (try simp only [Act.put, List.setIfInBounds_toArray, List.set_cons_zero, List.set_cons_succ])
            refine wpAnyH_ready (rs := [13]) (by kernel_rfl) (by simp) ?_
            refine (AllReadyH.cons (by rw [List.getElem?_toArray]; rfl) (fun K hK => ?_) AllReadyH.nil)
            go_simp
            (try clear x0 x1 x2 x3 x4 x5 x6); (try clear z0 z1 z2 z3 z4 z5 z6 z7 z8); refine (CP _ BZ).mono ?_; rintro e v ⟨a2, c2', rfl, OW, hb⟩; (have hsv := (Nat.le_trans (Nat.le_of_eq hbz.symm) BZ.size)); (have e14 : ∀ g, Value.ownBlock (Value.slice a2 (TT + 1) c2') = some g → g ≠ j14 := fun g hg => by have := (World.ownsRow.lt OW g hg).1; have := X14.1; omega); (replace X14 := X14.below hb); (have e15 : ∀ g, Value.ownBlock (Value.slice a2 (TT + 1) c2') = some g → g ≠ j15 := fun g hg => by have := (World.ownsRow.lt OW g hg).1; have := X15.1.1; omega); (replace X15 := X15.below hb); (replace OW := ownK_le OW hsv); (replace BZ := BZ.trans (hb.mono (Nat.le_trans (Nat.le_of_eq hbz.symm) BZ.size))); clear hb hsv; (try (obtain ⟨x0, x1, x2, x3, x4, x5, x6⟩ := id X14)); (try (obtain ⟨⟨z0, z1, z2, z3, z4⟩, z5, z6, z7, z8⟩ := id X15))
            (try go_wp2_with fail)
            refine hK.out _ _ ?_ (fun hHeld => ?_)
            · first | (exact ⟨(BZ.cell (p := ⟨bo, 0, none⟩) hbw).trans o1, (BZ.cell (p := ⟨bo, 1, none⟩) hbw).trans o2, (BZ.cell (p := ⟨bo, 2, none⟩) hbw).trans o3, (BZ.cell (p := ⟨g, k * 4 + 1, none⟩) hgw).trans c1', (BZ.cell (p := ⟨g, k * 4 + 3, none⟩) hgw).trans c3⟩) | (exact ⟨(BZ.drew.cell (p := ⟨bo, 0, none⟩) hbw).trans o1, (BZ.drew.cell (p := ⟨bo, 1, none⟩) hbw).trans o2, (BZ.drew.cell (p := ⟨bo, 2, none⟩) hbw).trans o3, (BZ.drew.cell (p := ⟨g, k * 4 + 1, none⟩) hgw).trans c1', (BZ.drew.cell (p := ⟨g, k * 4 + 3, none⟩) hgw).trans c3⟩)
            clear hK K
            (try simp only [Act.put, List.setIfInBounds_toArray, List.set_cons_zero, List.set_cons_succ])
            refine wpAnyH_take (i := 14) (v := ?_) (by rw [List.getElem?_toArray]; rfl) (by kernel_rfl) (by kernel_rfl) (by kernel_rfl) (by intro _ _ _ h; exact h) (Or.inl ⟨by rfl, ?_⟩) (by assumption) ?_
            rotate_left
            · (intro w hSw; (try dsimp only at hSw); go_simp; all_goals with_reducible rfl)
            (try simp only [Act.put, List.setIfInBounds_toArray, List.set_cons_zero, List.set_cons_succ])
            refine wpAnyH_take (i := 15) (v := ?_) (by rw [List.getElem?_toArray]; rfl) (by kernel_rfl) (by kernel_rfl) (by kernel_rfl) (by intro _ _ _ h; exact h) (Or.inl ⟨by rfl, ?_⟩) (by assumption) ?_
            rotate_left
            · (intro w hSw; (try dsimp only at hSw); go_simp; all_goals with_reducible rfl)
            (try simp only [Act.put, List.setIfInBounds_toArray, List.set_cons_zero, List.set_cons_succ])
            refine wpAnyH_take (i := 16) (v := ?_) (by rw [List.getElem?_toArray]; rfl) (by kernel_rfl) (by kernel_rfl) (by kernel_rfl) (by intro _ _ _ h; exact h) (Or.inl ⟨by rfl, ?_⟩) (by assumption) ?_
            rotate_left
            · (intro w hSw; (try dsimp only at hSw); go_simp; all_goals with_reducible rfl)
            (try simp only [Act.put, List.setIfInBounds_toArray, List.set_cons_zero, List.set_cons_succ])
            refine wpAnyH_ready (rs := [19]) (by kernel_rfl) (by simp) ?_
            refine (AllReadyH.cons (by rw [List.getElem?_toArray]; rfl) (fun K hK => ?_) AllReadyH.nil)
            go_simp
            (try clear x0 x1 x2 x3 x4 x5 x6); (try clear z0 z1 z2 z3 z4 z5 z6 z7 z8); (have PB := put3_butK v j14 (.int .i64 ep) (.int .i64 (u + 1)) (.slice a2 (TT + 1) c2')); (replace X14 := X14.set (.int .i64 ep) (.int .i64 (u + 1)) (.slice a2 (TT + 1) c2')); (replace X15 := X15.but PB (by omega)); (replace OW := own_neK OW PB e14); (replace BZ := BZ.trans (PB.below h14 (Nat.le_trans (Nat.le_of_eq hbz.symm) BZ.size))); clear PB; (generalize (((v.setCell ⟨j14, 0, none⟩ (.int .i64 ep)).setCell ⟨j14, 1, none⟩ (.int .i64 (u + 1))).setCell ⟨j14, 2, none⟩ (.slice a2 (TT + 1) c2')) = v at *); (try (obtain ⟨x0, x1, x2, x3, x4, x5, x6⟩ := id X14)); (try (obtain ⟨⟨z0, z1, z2, z3, z4⟩, z5, z6, z7, z8⟩ := id X15))
            refine hK.out _ _ ?_ (fun hHeld => ?_)
            · first | (exact ⟨(BZ.cell (p := ⟨bo, 0, none⟩) hbw).trans o1, (BZ.cell (p := ⟨bo, 1, none⟩) hbw).trans o2, (BZ.cell (p := ⟨bo, 2, none⟩) hbw).trans o3, (BZ.cell (p := ⟨g, k * 4 + 1, none⟩) hgw).trans c1', (BZ.cell (p := ⟨g, k * 4 + 3, none⟩) hgw).trans c3⟩) | (exact ⟨(BZ.drew.cell (p := ⟨bo, 0, none⟩) hbw).trans o1, (BZ.drew.cell (p := ⟨bo, 1, none⟩) hbw).trans o2, (BZ.drew.cell (p := ⟨bo, 2, none⟩) hbw).trans o3, (BZ.drew.cell (p := ⟨g, k * 4 + 1, none⟩) hgw).trans c1', (BZ.drew.cell (p := ⟨g, k * 4 + 3, none⟩) hgw).trans c3⟩)
            clear hK K
            (try simp only [Act.put, List.setIfInBounds_toArray, List.set_cons_zero, List.set_cons_succ])
            refine wpAnyH_ready (rs := [20]) (by kernel_rfl) (by simp) ?_
            refine (AllReadyH.cons (by rw [List.getElem?_toArray]; rfl) (fun K hK => ?_) AllReadyH.nil)
            go_simp
            (try clear x0 x1 x2 x3 x4 x5 x6); (try clear z0 z1 z2 z3 z4 z5 z6 z7 z8); (have PB : But j15 v (put4 v j15 nn y1 x (y3 + 1)) := put4_butK v j15 nn y1 x (y3 + 1)); (replace X15 := X15.set nn y1 x (y3 + 1)); (replace X14 := X14.but PB (by omega)); (replace OW := own_neK OW PB e15); (replace BZ := BZ.trans (PB.below h15 (Nat.le_trans (Nat.le_of_eq hbz.symm) BZ.size))); clear PB
            refine hK.out _ _ ?_ (fun hHeld => ?_)
            · first | (exact ⟨(BZ.cell (p := ⟨bo, 0, none⟩) hbw).trans o1, (BZ.cell (p := ⟨bo, 1, none⟩) hbw).trans o2, (BZ.cell (p := ⟨bo, 2, none⟩) hbw).trans o3, (BZ.cell (p := ⟨g, k * 4 + 1, none⟩) hgw).trans c1', (BZ.cell (p := ⟨g, k * 4 + 3, none⟩) hgw).trans c3⟩) | (exact ⟨(BZ.drew.cell (p := ⟨bo, 0, none⟩) hbw).trans o1, (BZ.drew.cell (p := ⟨bo, 1, none⟩) hbw).trans o2, (BZ.drew.cell (p := ⟨bo, 2, none⟩) hbw).trans o3, (BZ.drew.cell (p := ⟨g, k * 4 + 1, none⟩) hgw).trans c1', (BZ.drew.cell (p := ⟨g, k * 4 + 3, none⟩) hgw).trans c3⟩)
            clear hK K
            (try simp only [Act.put, List.setIfInBounds_toArray, List.set_cons_zero, List.set_cons_succ])
            refine wpAnyH_done (by kernel_rfl) ?_ _
            go_wp2_with fail
            go_meet
            case rel => exact ⟨j14, j15, a2, c2', rfl, rfl, X14, X15, OW, h14, h15, BZ⟩
        · go_simp
          (try clear x0 x1 x2 x3 x4 x5 x6); (try clear z0 z1 z2 z3 z4 z5 z6 z7 z8); (have X15 := Bf4.new v 0 0 0 0 34); (have A7 := Below.nw v (.cells #[.int .i64 0, .int .i64 0, .int .i64 0, .int .i64 0] 34)); (have h15 : bz ≤ v.heap.size := (Nat.le_trans (Nat.le_of_eq hbz.symm) BZ.size)); (replace BZ := BZ.trans (A7.mono (Nat.le_trans (Nat.le_of_eq hbz.symm) BZ.size))); clear A7; (generalize v.heap.size = j15 at *); (generalize v.alloc (.cells #[.int .i64 0, .int .i64 0, .int .i64 0, .int .i64 0] 34) = v at *); (try (obtain ⟨x0, x1, x2, x3, x4, x5, x6⟩ := id X14)); (try (obtain ⟨⟨z0, z1, z2, z3, z4⟩, z5, z6, z7, z8⟩ := id X15))
          refine hK.out _ _ ?_ (fun hHeld => ?_)
          · first | (exact ⟨(BZ.cell (p := ⟨bo, 0, none⟩) hbw).trans o1, (BZ.cell (p := ⟨bo, 1, none⟩) hbw).trans o2, (BZ.cell (p := ⟨bo, 2, none⟩) hbw).trans o3, (BZ.cell (p := ⟨g, k * 4 + 1, none⟩) hgw).trans c1', (BZ.cell (p := ⟨g, k * 4 + 3, none⟩) hgw).trans c3⟩) | (exact ⟨(BZ.drew.cell (p := ⟨bo, 0, none⟩) hbw).trans o1, (BZ.drew.cell (p := ⟨bo, 1, none⟩) hbw).trans o2, (BZ.drew.cell (p := ⟨bo, 2, none⟩) hbw).trans o3, (BZ.drew.cell (p := ⟨g, k * 4 + 1, none⟩) hgw).trans c1', (BZ.drew.cell (p := ⟨g, k * 4 + 3, none⟩) hgw).trans c3⟩)
          clear hK K
          (try simp only [Act.put, List.setIfInBounds_toArray, List.set_cons_zero, List.set_cons_succ])
          refine wpAnyH_ready (rs := [13, 17]) (by kernel_rfl) (by simp) ?_
          refine (AllReadyH.cons (by rw [List.getElem?_toArray]; rfl) (fun K hK => ?_) (AllReadyH.cons (by rw [List.getElem?_toArray]; rfl) (fun K hK => ?_) AllReadyH.nil))
          · go_simp
            (try clear x0 x1 x2 x3 x4 x5 x6); (try clear z0 z1 z2 z3 z4 z5 z6 z7 z8); refine (CP _ BZ).mono ?_; rintro e v ⟨a2, c2', rfl, OW, hb⟩; (have hsv := (Nat.le_trans (Nat.le_of_eq hbz.symm) BZ.size)); (have e15 : ∀ g, Value.ownBlock (Value.slice a2 (TT + 1) c2') = some g → g ≠ j15 := fun g hg => by have := (World.ownsRow.lt OW g hg).1; have := X15.1.1; omega); (replace X15 := X15.below hb); (replace OW := ownK_le OW hsv); (replace BZ := BZ.trans (hb.mono (Nat.le_trans (Nat.le_of_eq hbz.symm) BZ.size))); clear hb hsv; (try (obtain ⟨x0, x1, x2, x3, x4, x5, x6⟩ := id X14)); (try (obtain ⟨⟨z0, z1, z2, z3, z4⟩, z5, z6, z7, z8⟩ := id X15))
            (try go_wp2_with fail)
            refine hK.out _ _ ?_ (fun hHeld => ?_)
            · first | (exact ⟨(BZ.cell (p := ⟨bo, 0, none⟩) hbw).trans o1, (BZ.cell (p := ⟨bo, 1, none⟩) hbw).trans o2, (BZ.cell (p := ⟨bo, 2, none⟩) hbw).trans o3, (BZ.cell (p := ⟨g, k * 4 + 1, none⟩) hgw).trans c1', (BZ.cell (p := ⟨g, k * 4 + 3, none⟩) hgw).trans c3⟩) | (exact ⟨(BZ.drew.cell (p := ⟨bo, 0, none⟩) hbw).trans o1, (BZ.drew.cell (p := ⟨bo, 1, none⟩) hbw).trans o2, (BZ.drew.cell (p := ⟨bo, 2, none⟩) hbw).trans o3, (BZ.drew.cell (p := ⟨g, k * 4 + 1, none⟩) hgw).trans c1', (BZ.drew.cell (p := ⟨g, k * 4 + 3, none⟩) hgw).trans c3⟩)
            clear hK K
            (try simp only [Act.put, List.setIfInBounds_toArray, List.set_cons_zero, List.set_cons_succ])
            refine wpAnyH_take (i := 14) (v := ?_) (by rw [List.getElem?_toArray]; rfl) (by kernel_rfl) (by kernel_rfl) (by kernel_rfl) (by intro _ _ _ h; exact h) (Or.inl ⟨by rfl, ?_⟩) (by assumption) ?_
            rotate_left
            · (intro w hSw; (try dsimp only at hSw); go_simp; all_goals with_reducible rfl)
            (try simp only [Act.put, List.setIfInBounds_toArray, List.set_cons_zero, List.set_cons_succ])
            refine wpAnyH_take (i := 15) (v := ?_) (by rw [List.getElem?_toArray]; rfl) (by kernel_rfl) (by kernel_rfl) (by kernel_rfl) (by intro _ _ _ h; exact h) (Or.inl ⟨by rfl, ?_⟩) (by assumption) ?_
            rotate_left
            · (intro w hSw; (try dsimp only at hSw); go_simp; all_goals with_reducible rfl)
            (try simp only [Act.put, List.setIfInBounds_toArray, List.set_cons_zero, List.set_cons_succ])
            refine wpAnyH_take (i := 16) (v := ?_) (by rw [List.getElem?_toArray]; rfl) (by kernel_rfl) (by kernel_rfl) (by kernel_rfl) (by intro _ _ _ h; exact h) (Or.inl ⟨by rfl, ?_⟩) (by assumption) ?_
            rotate_left
            · (intro w hSw; (try dsimp only at hSw); go_simp; all_goals with_reducible rfl)
            (try simp only [Act.put, List.setIfInBounds_toArray, List.set_cons_zero, List.set_cons_succ])
            refine wpAnyH_ready (rs := [17]) (by kernel_rfl) (by simp) ?_
            refine (AllReadyH.cons (by rw [List.getElem?_toArray]; rfl) (fun K hK => ?_) AllReadyH.nil)
            go_simp
            (try clear x0 x1 x2 x3 x4 x5 x6); (try clear z0 z1 z2 z3 z4 z5 z6 z7 z8); (have X14 := Bx3.new v (.int .i64 0) (.int .i64 0) (.slice none 0 0) 26); (have A7 := Below.nw v (.cells #[.int .i64 0, .int .i64 0, .slice none 0 0] 26)); (have h14 : bz ≤ v.heap.size := (Nat.le_trans (Nat.le_of_eq hbz.symm) BZ.size)); (have n45 : j15 < v.heap.size := X15.1.1); (replace X15 := X15.below A7); (have e14 : ∀ g, Value.ownBlock (Value.slice a2 (TT + 1) c2') = some g → g ≠ v.heap.size := fun g hg => by have := (World.ownsRow.lt OW g hg).2; omega); (replace OW := own_belK' OW A7); (replace BZ := BZ.trans (A7.mono (Nat.le_trans (Nat.le_of_eq hbz.symm) BZ.size))); clear A7; (generalize v.heap.size = j14 at *); (generalize v.alloc (.cells #[.int .i64 0, .int .i64 0, .slice none 0 0] 26) = v at *); (try (obtain ⟨x0, x1, x2, x3, x4, x5, x6⟩ := id X14)); (try (obtain ⟨⟨z0, z1, z2, z3, z4⟩, z5, z6, z7, z8⟩ := id X15))
            refine hK.out _ _ ?_ (fun hHeld => ?_)
            · first | (exact ⟨(BZ.cell (p := ⟨bo, 0, none⟩) hbw).trans o1, (BZ.cell (p := ⟨bo, 1, none⟩) hbw).trans o2, (BZ.cell (p := ⟨bo, 2, none⟩) hbw).trans o3, (BZ.cell (p := ⟨g, k * 4 + 1, none⟩) hgw).trans c1', (BZ.cell (p := ⟨g, k * 4 + 3, none⟩) hgw).trans c3⟩) | (exact ⟨(BZ.drew.cell (p := ⟨bo, 0, none⟩) hbw).trans o1, (BZ.drew.cell (p := ⟨bo, 1, none⟩) hbw).trans o2, (BZ.drew.cell (p := ⟨bo, 2, none⟩) hbw).trans o3, (BZ.drew.cell (p := ⟨g, k * 4 + 1, none⟩) hgw).trans c1', (BZ.drew.cell (p := ⟨g, k * 4 + 3, none⟩) hgw).trans c3⟩)
            clear hK K
            (try simp only [Act.put, List.setIfInBounds_toArray, List.set_cons_zero, List.set_cons_succ])
            refine wpAnyH_ready (rs := [19]) (by kernel_rfl) (by simp) ?_
            refine (AllReadyH.cons (by rw [List.getElem?_toArray]; rfl) (fun K hK => ?_) AllReadyH.nil)
            go_simp
            (try clear x0 x1 x2 x3 x4 x5 x6); (try clear z0 z1 z2 z3 z4 z5 z6 z7 z8); (have PB := put3_butK v j14 (.int .i64 ep) (.int .i64 (u + 1)) (.slice a2 (TT + 1) c2')); (replace X14 := X14.set (.int .i64 ep) (.int .i64 (u + 1)) (.slice a2 (TT + 1) c2')); (replace X15 := X15.but PB (by omega)); (replace OW := own_neK OW PB e14); (replace BZ := BZ.trans (PB.below h14 (Nat.le_trans (Nat.le_of_eq hbz.symm) BZ.size))); clear PB; (generalize (((v.setCell ⟨j14, 0, none⟩ (.int .i64 ep)).setCell ⟨j14, 1, none⟩ (.int .i64 (u + 1))).setCell ⟨j14, 2, none⟩ (.slice a2 (TT + 1) c2')) = v at *); (try (obtain ⟨x0, x1, x2, x3, x4, x5, x6⟩ := id X14)); (try (obtain ⟨⟨z0, z1, z2, z3, z4⟩, z5, z6, z7, z8⟩ := id X15))
            refine hK.out _ _ ?_ (fun hHeld => ?_)
            · first | (exact ⟨(BZ.cell (p := ⟨bo, 0, none⟩) hbw).trans o1, (BZ.cell (p := ⟨bo, 1, none⟩) hbw).trans o2, (BZ.cell (p := ⟨bo, 2, none⟩) hbw).trans o3, (BZ.cell (p := ⟨g, k * 4 + 1, none⟩) hgw).trans c1', (BZ.cell (p := ⟨g, k * 4 + 3, none⟩) hgw).trans c3⟩) | (exact ⟨(BZ.drew.cell (p := ⟨bo, 0, none⟩) hbw).trans o1, (BZ.drew.cell (p := ⟨bo, 1, none⟩) hbw).trans o2, (BZ.drew.cell (p := ⟨bo, 2, none⟩) hbw).trans o3, (BZ.drew.cell (p := ⟨g, k * 4 + 1, none⟩) hgw).trans c1', (BZ.drew.cell (p := ⟨g, k * 4 + 3, none⟩) hgw).trans c3⟩)
            clear hK K
            (try simp only [Act.put, List.setIfInBounds_toArray, List.set_cons_zero, List.set_cons_succ])
            refine wpAnyH_ready (rs := [20]) (by kernel_rfl) (by simp) ?_
            refine (AllReadyH.cons (by rw [List.getElem?_toArray]; rfl) (fun K hK => ?_) AllReadyH.nil)
            go_simp
            (try clear x0 x1 x2 x3 x4 x5 x6); (try clear z0 z1 z2 z3 z4 z5 z6 z7 z8); (have PB : But j15 v (put4 v j15 nn y1 x (y3 + 1)) := put4_butK v j15 nn y1 x (y3 + 1)); (replace X15 := X15.set nn y1 x (y3 + 1)); (replace X14 := X14.but PB (by omega)); (replace OW := own_neK OW PB e15); (replace BZ := BZ.trans (PB.below h15 (Nat.le_trans (Nat.le_of_eq hbz.symm) BZ.size))); clear PB
            refine hK.out _ _ ?_ (fun hHeld => ?_)
            · first | (exact ⟨(BZ.cell (p := ⟨bo, 0, none⟩) hbw).trans o1, (BZ.cell (p := ⟨bo, 1, none⟩) hbw).trans o2, (BZ.cell (p := ⟨bo, 2, none⟩) hbw).trans o3, (BZ.cell (p := ⟨g, k * 4 + 1, none⟩) hgw).trans c1', (BZ.cell (p := ⟨g, k * 4 + 3, none⟩) hgw).trans c3⟩) | (exact ⟨(BZ.drew.cell (p := ⟨bo, 0, none⟩) hbw).trans o1, (BZ.drew.cell (p := ⟨bo, 1, none⟩) hbw).trans o2, (BZ.drew.cell (p := ⟨bo, 2, none⟩) hbw).trans o3, (BZ.drew.cell (p := ⟨g, k * 4 + 1, none⟩) hgw).trans c1', (BZ.drew.cell (p := ⟨g, k * 4 + 3, none⟩) hgw).trans c3⟩)
            clear hK K
            (try simp only [Act.put, List.setIfInBounds_toArray, List.set_cons_zero, List.set_cons_succ])
            refine wpAnyH_done (by kernel_rfl) ?_ _
            go_wp2_with fail
            go_meet
            case rel => exact ⟨j14, j15, a2, c2', rfl, rfl, X14, X15, OW, h14, h15, BZ⟩
          · go_simp
            (try clear x0 x1 x2 x3 x4 x5 x6); (try clear z0 z1 z2 z3 z4 z5 z6 z7 z8); (have X14 := Bx3.new v (.int .i64 0) (.int .i64 0) (.slice none 0 0) 26); (have A7 := Below.nw v (.cells #[.int .i64 0, .int .i64 0, .slice none 0 0] 26)); (have h14 : bz ≤ v.heap.size := (Nat.le_trans (Nat.le_of_eq hbz.symm) BZ.size)); (have n45 : j15 < v.heap.size := X15.1.1); (replace X15 := X15.below A7); (replace BZ := BZ.trans (A7.mono (Nat.le_trans (Nat.le_of_eq hbz.symm) BZ.size))); clear A7; (generalize v.heap.size = j14 at *); (generalize v.alloc (.cells #[.int .i64 0, .int .i64 0, .slice none 0 0] 26) = v at *); (try (obtain ⟨x0, x1, x2, x3, x4, x5, x6⟩ := id X14)); (try (obtain ⟨⟨z0, z1, z2, z3, z4⟩, z5, z6, z7, z8⟩ := id X15))
            refine hK.out _ _ ?_ (fun hHeld => ?_)
            · first | (exact ⟨(BZ.cell (p := ⟨bo, 0, none⟩) hbw).trans o1, (BZ.cell (p := ⟨bo, 1, none⟩) hbw).trans o2, (BZ.cell (p := ⟨bo, 2, none⟩) hbw).trans o3, (BZ.cell (p := ⟨g, k * 4 + 1, none⟩) hgw).trans c1', (BZ.cell (p := ⟨g, k * 4 + 3, none⟩) hgw).trans c3⟩) | (exact ⟨(BZ.drew.cell (p := ⟨bo, 0, none⟩) hbw).trans o1, (BZ.drew.cell (p := ⟨bo, 1, none⟩) hbw).trans o2, (BZ.drew.cell (p := ⟨bo, 2, none⟩) hbw).trans o3, (BZ.drew.cell (p := ⟨g, k * 4 + 1, none⟩) hgw).trans c1', (BZ.drew.cell (p := ⟨g, k * 4 + 3, none⟩) hgw).trans c3⟩)
            clear hK K
            (try simp only [Act.put, List.setIfInBounds_toArray, List.set_cons_zero, List.set_cons_succ])
            refine wpAnyH_ready (rs := [13]) (by kernel_rfl) (by simp) ?_
            refine (AllReadyH.cons (by rw [List.getElem?_toArray]; rfl) (fun K hK => ?_) AllReadyH.nil)
            go_simp
            (try clear x0 x1 x2 x3 x4 x5 x6); (try clear z0 z1 z2 z3 z4 z5 z6 z7 z8); refine (CP _ BZ).mono ?_; rintro e v ⟨a2, c2', rfl, OW, hb⟩; (have hsv := (Nat.le_trans (Nat.le_of_eq hbz.symm) BZ.size)); (have e14 : ∀ g, Value.ownBlock (Value.slice a2 (TT + 1) c2') = some g → g ≠ j14 := fun g hg => by have := (World.ownsRow.lt OW g hg).1; have := X14.1; omega); (replace X14 := X14.below hb); (have e15 : ∀ g, Value.ownBlock (Value.slice a2 (TT + 1) c2') = some g → g ≠ j15 := fun g hg => by have := (World.ownsRow.lt OW g hg).1; have := X15.1.1; omega); (replace X15 := X15.below hb); (replace OW := ownK_le OW hsv); (replace BZ := BZ.trans (hb.mono (Nat.le_trans (Nat.le_of_eq hbz.symm) BZ.size))); clear hb hsv; (try (obtain ⟨x0, x1, x2, x3, x4, x5, x6⟩ := id X14)); (try (obtain ⟨⟨z0, z1, z2, z3, z4⟩, z5, z6, z7, z8⟩ := id X15))
            (try go_wp2_with fail)
            refine hK.out _ _ ?_ (fun hHeld => ?_)
            · first | (exact ⟨(BZ.cell (p := ⟨bo, 0, none⟩) hbw).trans o1, (BZ.cell (p := ⟨bo, 1, none⟩) hbw).trans o2, (BZ.cell (p := ⟨bo, 2, none⟩) hbw).trans o3, (BZ.cell (p := ⟨g, k * 4 + 1, none⟩) hgw).trans c1', (BZ.cell (p := ⟨g, k * 4 + 3, none⟩) hgw).trans c3⟩) | (exact ⟨(BZ.drew.cell (p := ⟨bo, 0, none⟩) hbw).trans o1, (BZ.drew.cell (p := ⟨bo, 1, none⟩) hbw).trans o2, (BZ.drew.cell (p := ⟨bo, 2, none⟩) hbw).trans o3, (BZ.drew.cell (p := ⟨g, k * 4 + 1, none⟩) hgw).trans c1', (BZ.drew.cell (p := ⟨g, k * 4 + 3, none⟩) hgw).trans c3⟩)
            clear hK K
            (try simp only [Act.put, List.setIfInBounds_toArray, List.set_cons_zero, List.set_cons_succ])
            refine wpAnyH_take (i := 14) (v := ?_) (by rw [List.getElem?_toArray]; rfl) (by kernel_rfl) (by kernel_rfl) (by kernel_rfl) (by intro _ _ _ h; exact h) (Or.inl ⟨by rfl, ?_⟩) (by assumption) ?_
            rotate_left
            · (intro w hSw; (try dsimp only at hSw); go_simp; all_goals with_reducible rfl)
            (try simp only [Act.put, List.setIfInBounds_toArray, List.set_cons_zero, List.set_cons_succ])
            refine wpAnyH_take (i := 15) (v := ?_) (by rw [List.getElem?_toArray]; rfl) (by kernel_rfl) (by kernel_rfl) (by kernel_rfl) (by intro _ _ _ h; exact h) (Or.inl ⟨by rfl, ?_⟩) (by assumption) ?_
            rotate_left
            · (intro w hSw; (try dsimp only at hSw); go_simp; all_goals with_reducible rfl)
            (try simp only [Act.put, List.setIfInBounds_toArray, List.set_cons_zero, List.set_cons_succ])
            refine wpAnyH_take (i := 16) (v := ?_) (by rw [List.getElem?_toArray]; rfl) (by kernel_rfl) (by kernel_rfl) (by kernel_rfl) (by intro _ _ _ h; exact h) (Or.inl ⟨by rfl, ?_⟩) (by assumption) ?_
            rotate_left
            · (intro w hSw; (try dsimp only at hSw); go_simp; all_goals with_reducible rfl)
            (try simp only [Act.put, List.setIfInBounds_toArray, List.set_cons_zero, List.set_cons_succ])
            refine wpAnyH_ready (rs := [19]) (by kernel_rfl) (by simp) ?_
            refine (AllReadyH.cons (by rw [List.getElem?_toArray]; rfl) (fun K hK => ?_) AllReadyH.nil)
            go_simp
            (try clear x0 x1 x2 x3 x4 x5 x6); (try clear z0 z1 z2 z3 z4 z5 z6 z7 z8); (have PB := put3_butK v j14 (.int .i64 ep) (.int .i64 (u + 1)) (.slice a2 (TT + 1) c2')); (replace X14 := X14.set (.int .i64 ep) (.int .i64 (u + 1)) (.slice a2 (TT + 1) c2')); (replace X15 := X15.but PB (by omega)); (replace OW := own_neK OW PB e14); (replace BZ := BZ.trans (PB.below h14 (Nat.le_trans (Nat.le_of_eq hbz.symm) BZ.size))); clear PB; (generalize (((v.setCell ⟨j14, 0, none⟩ (.int .i64 ep)).setCell ⟨j14, 1, none⟩ (.int .i64 (u + 1))).setCell ⟨j14, 2, none⟩ (.slice a2 (TT + 1) c2')) = v at *); (try (obtain ⟨x0, x1, x2, x3, x4, x5, x6⟩ := id X14)); (try (obtain ⟨⟨z0, z1, z2, z3, z4⟩, z5, z6, z7, z8⟩ := id X15))
            refine hK.out _ _ ?_ (fun hHeld => ?_)
            · first | (exact ⟨(BZ.cell (p := ⟨bo, 0, none⟩) hbw).trans o1, (BZ.cell (p := ⟨bo, 1, none⟩) hbw).trans o2, (BZ.cell (p := ⟨bo, 2, none⟩) hbw).trans o3, (BZ.cell (p := ⟨g, k * 4 + 1, none⟩) hgw).trans c1', (BZ.cell (p := ⟨g, k * 4 + 3, none⟩) hgw).trans c3⟩) | (exact ⟨(BZ.drew.cell (p := ⟨bo, 0, none⟩) hbw).trans o1, (BZ.drew.cell (p := ⟨bo, 1, none⟩) hbw).trans o2, (BZ.drew.cell (p := ⟨bo, 2, none⟩) hbw).trans o3, (BZ.drew.cell (p := ⟨g, k * 4 + 1, none⟩) hgw).trans c1', (BZ.drew.cell (p := ⟨g, k * 4 + 3, none⟩) hgw).trans c3⟩)
            clear hK K
            (try simp only [Act.put, List.setIfInBounds_toArray, List.set_cons_zero, List.set_cons_succ])
            refine wpAnyH_ready (rs := [20]) (by kernel_rfl) (by simp) ?_
            refine (AllReadyH.cons (by rw [List.getElem?_toArray]; rfl) (fun K hK => ?_) AllReadyH.nil)
            go_simp
            (try clear x0 x1 x2 x3 x4 x5 x6); (try clear z0 z1 z2 z3 z4 z5 z6 z7 z8); (have PB : But j15 v (put4 v j15 nn y1 x (y3 + 1)) := put4_butK v j15 nn y1 x (y3 + 1)); (replace X15 := X15.set nn y1 x (y3 + 1)); (replace X14 := X14.but PB (by omega)); (replace OW := own_neK OW PB e15); (replace BZ := BZ.trans (PB.below h15 (Nat.le_trans (Nat.le_of_eq hbz.symm) BZ.size))); clear PB
            refine hK.out _ _ ?_ (fun hHeld => ?_)
            · first | (exact ⟨(BZ.cell (p := ⟨bo, 0, none⟩) hbw).trans o1, (BZ.cell (p := ⟨bo, 1, none⟩) hbw).trans o2, (BZ.cell (p := ⟨bo, 2, none⟩) hbw).trans o3, (BZ.cell (p := ⟨g, k * 4 + 1, none⟩) hgw).trans c1', (BZ.cell (p := ⟨g, k * 4 + 3, none⟩) hgw).trans c3⟩) | (exact ⟨(BZ.drew.cell (p := ⟨bo, 0, none⟩) hbw).trans o1, (BZ.drew.cell (p := ⟨bo, 1, none⟩) hbw).trans o2, (BZ.drew.cell (p := ⟨bo, 2, none⟩) hbw).trans o3, (BZ.drew.cell (p := ⟨g, k * 4 + 1, none⟩) hgw).trans c1', (BZ.drew.cell (p := ⟨g, k * 4 + 3, none⟩) hgw).trans c3⟩)
            clear hK K
            (try simp only [Act.put, List.setIfInBounds_toArray, List.set_cons_zero, List.set_cons_succ])
            refine wpAnyH_done (by kernel_rfl) ?_ _
            go_wp2_with fail
            go_meet
            case rel => exact ⟨j14, j15, a2, c2', rfl, rfl, X14, X15, OW, h14, h15, BZ⟩
      case rest =>
        obtain ⟨j14, j15, a2, c2', rfl, rfl, X14, X15, OW, h14, h15, BZ2⟩ := hcut
        clear BZ CP FR o0 o1 o2 o3 o4 o5 o6 c0 c1' c2 c3
        have HOT : Hid (∀ g, Value.ownBlock (.slice a2 (TT + 1) c2') = some g → bz ≤ g) := fun g hg => (World.ownsRow.lt OW g hg).1
        have HCB : Hid (∀ g, Value.ownBlock (.slice ac cl.length cc) = some g → g < bz) := fun g hg => hbz ▸ (World.ownsRow.lt WC g hg).2
        have HLB : Hid (∀ g, Value.ownBlock (.slice al ll.length cl') = some g → g < bz) := fun g hg => hbz ▸ (World.ownsRow.lt WL g hg).2
        rw [← hbz] at BZ2
        replace O := O.below BZ2
        replace WC := own_belK' WC BZ2
        replace WL := own_belK' WL BZ2
        replace CZ := CZ.below BZ2 CZ.1
        replace R := R.below BZ2
        replace B := B.trans (BZ2.mono B.size)
        rw [hbz] at BZ2
        have hbs := BZ2.size
        clear BZ2 WT
        generalize wc = v at *
        have PB := put3_butK v bo (.int .i64 ep) (.int .i64 (u + 1)) (.slice a2 (TT + 1) c2')
        have O2 := O.set (.int .i64 ep) (.int .i64 (u + 1)) (.slice a2 (TT + 1) c2')
        obtain ⟨o0, o1, o2, o3, o4, o5, o6⟩ := id O
        obtain ⟨x0, x1, x2, x3, x4, x5, x6⟩ := id X14
        go_upto_region 10 with fail
        clear o0 o1 o2 o3 o4 o5 o6 x0 x1 x2 x3 x4 x5 x6 O X14
        have O := O2
        clear O2
        replace X15 := X15.but PB (by omega)
        replace WC := own_butK WC PB (by omega)
        replace WL := own_butK WL PB (by omega)
        replace OW := own_neK OW PB (fun g hg => by have := HOT.out g hg; omega)
        replace CZ := CZ.but PB (by omega)
        replace R := R.but PB (by omega)
        replace B := B.trans (PB.below (B := w.heap.size) (by omega) B.size)
        have hyz := PB.2.2.2.1
        clear PB
        generalize (((v.setCell ⟨bo, 0, none⟩ (.int .i64 ep)).setCell ⟨bo, 1, none⟩ (.int .i64 (u + 1))).setCell ⟨bo, 2, none⟩ (.slice a2 (TT + 1) c2')) = wy at *
        rw [HKW.out] at OW
        obtain ⟨⟨k0, k1, k2, k3, k4⟩, -, -, -, -⟩ := id X15
        have A6 := Below.nw wy (.cells #[.int .i64 nn, .int .i64 y1, .int .i64 x, .int .i64 (y3 + 1)] 34)
        have W6 := World.ownsRow.alloc WC (.cells #[.int .i64 nn, .int .i64 y1, .int .i64 x, .int .i64 (y3 + 1)] 34)
        have hs6 : bo + 1 ≤ wy.heap.size := by omega
        have HN : Hid (∀ j u, [Value.int .i64 nn, .int .i64 y1, .int .i64 x, .int .i64 ((y3 + 1))][j]? = some u → (wy.alloc (.cells #[.int .i64 nn, .int .i64 y1, .int .i64 x, .int .i64 (y3 + 1)] 34)).cell? ((⟨wy.heap.size, 0, none⟩ : Addr).add j) = some u) := fun j u hu => four_at wy nn y1 x ((y3 + 1)) 34 j u hu
        have HW : Hid (krow (rowL cl) cl.length ++ [.int .i64 nn, .int .i64 y1, .int .i64 x, .int .i64 (y3 + 1)] = krow (rowL (cl ++ [(kT nn y1 x ((y3 + 1)))])) (cl ++ [(kT nn y1 x ((y3 + 1)))]).length) := by rw [Hid, List.length_append]; exact krowL_add _ _ _ _ _
        go_wp2_with (at_builtin; refine wpList_append_new rfl _ _ 24 rfl (bo + 1) 34 i0 (.agg #[.int .i64 0, .int .i64 0, .int .i64 0, .int .i64 0]) 4 32 Try.underlying24 hi hz0 hz1 hz2 rfl (by decide) _ _ _ rfl W6 ⟨wy.heap.size, 0, none⟩ 1 1 [.int .i64 nn, .int .i64 y1, .int .i64 x, .int .i64 (y3 + 1)] rfl rfl HN.out (four_one _ _ _ _) ?c3 ?c4 ?c5 ?_)
        case c3 => unfold maxLen; omega
        case c4 => omega
        case c5 => first | omega | (simp; omega)
        intro v' wn hown' hgrow hfr
        have HFR := hfr
        rw [HW.out] at hown'
        replace hown' : wn.ownsRow (bo + 1) 34 4 v' (cl ++ [(kT nn y1 x ((y3 + 1)))]).length (krow (rowL (cl ++ [(kT nn y1 x ((y3 + 1)))])) (cl ++ [(kT nn y1 x ((y3 + 1)))]).length) := by rw [List.length_append] at *; exact hown'
        have GLW : ∀ g, Value.ownBlock (.slice ac cl.length cc) = some g → bo + 1 ≤ g ∧ g < wy.heap.size := fun g hg => World.ownsRow.lt WC g hg
        have hys : wy.heap.size < (wy.alloc (.cells #[.int .i64 nn, .int .i64 y1, .int .i64 x, .int .i64 (y3 + 1)] 34)).heap.size := by simp
        clear k0 k1 k2 k3 k4 X15
        have WL' := World.ownsRow.kept (World.ownsRow.alloc WL (.cells #[.int .i64 nn, .int .i64 y1, .int .i64 x, .int .i64 (y3 + 1)] 34)) hgrow (ne_own (fun g h1 h2 => HCL.out g h1 h2))
        have WT' := World.ownsRow.kept (World.ownsRow.alloc OW (.cells #[.int .i64 nn, .int .i64 y1, .int .i64 x, .int .i64 (y3 + 1)] 34)) hgrow (ne_own (fun g h1 h2 => by have := HCB.out g h1; have := HOT.out g h2; omega))
        have O' := (O.below A6).kept3 hgrow (fun e => by have := GLW _ e.symm; omega)
        have R' := (R.below A6).kept3 hgrow (fun e => by have := GLW _ e.symm; omega)
        have CZ' := (CZ.below A6 CZ.1).kept hgrow (fun e => by have := GLW _ e.symm; omega)
        have B' := (B.trans (A6.mono B.size)).trans (grown_bel hgrow (B.trans (A6.mono B.size)).size (fun q h e => by have := GLW _ e.symm; omega))
        have n1 : Ap v' (.slice al ll.length cl') := fun g g1 g2 => by
          rcases HFR g g1 with h | h
          · exact HCL.out g h g2
          · have := (World.ownsRow.lt WL g g2).2; omega
        have n2 : Ap v' (.slice a2 (TT + 1) c2') := fun g g1 g2 => by
          rcases HFR g g1 with h | h
          · have := HCB.out g h; have := HOT.out g g2; omega
          · have := (World.ownsRow.lt OW g g2).2; omega
        have n3 : Ap (.slice al ll.length cl') (.slice a2 (TT + 1) c2') := fun g g1 g2 => by have := HLB.out g g1; have := HOT.out g g2; omega
        have n4 : ∀ g, Value.ownBlock (.slice a2 (TT + 1) c2') = some g → g ≠ bo := fun g hg => by have := HOT.out g hg; omega
        have WT2 := ownK_le (base' := w.heap.size + 2) WT' (by omega)
        obtain ⟨a3, c3', rfl, _, _, _⟩ := ownF_src hown'
        have HRL : Hid (AsInv ep x y M n w bo (some ⟨g, 0, none⟩) (cl ++ [(kT nn y1 x (y3 + 1))]) ll (u + 1) (.slice a3 (cl ++ [(kT nn y1 x (y3 + 1))]).length c3') (.slice al ll.length cl') wn) := by
          rw [Hid, AsInv, HTL1.out]
          exact ⟨a3, c3', al, cl', a2, c2', rfl, rfl, O', WT2, hown', WL', n1, n2, n3, n4, .inr ⟨g, 0, rfl, CZ'⟩, R', B'⟩
        clear A6 W6 HN HW hgrow WL WC OW O R CZ B hown' WL' WT' WT2 O' R' CZ' B' n1 n2 n3 n4 HFR hfr GLW hys
        go_wp2_with fail
        go_roundw
        case rel => exact ⟨k + 1, by omega, by go_num, cl ++ [(kT nn y1 x (y3 + 1))], ll, u + 1, HNX.out, by simpa using HRL.out⟩
        case measure => simp [vI]; omega
    · have hkn2 : k = (gon x y (lst M n)).length := by omega
      have HE := hagE.out
      rw [← hkn2, HAG.out] at HE
      injection HE with e1 e2
      injection e2 with e2 e3
      subst e1 e2 e3
      have hli : decide ((k : Int) < ((gon x y (lst M n)).length : Int)) = false := decide_eq_false (by omega)
      have HT2 : Hid (TL.length = ((kep x y (lst M n)).length + cl.length)) := by rw [Hid, hTL.out, List.length_append]
      clear SZ
      have WT3 := WT
      rw [← hTL.out, ← HT2.out] at WT3
      rw [← HT2.out] at o3
      clear WT O
      have RQ := R.set (.int .i64 ep) (.int .i64 u) (.slice ao TL.length co)
      have PB := put3_butK wr (w.heap.size + 1) (.int .i64 ep) (.int .i64 u) (.slice ao TL.length co)
      have BQ := B.trans (PB.below (B := w.heap.size) (by omega) B.size)
      have OQ := ownK_le (base' := w.heap.size) (own_butK WT3 PB (by omega)) (by omega)
      have SQ := ownK_le (base' := w.heap.size) (own_butK WC PB (by omega)) (by omega)
      have SQ2 := ownK_le (base' := w.heap.size) (own_butK WL PB (by omega)) (by omega)
      have KZ : Hid (_ ∧ _ ∧ _ ∧ _) := ⟨OQ, SQ, SQ2, BQ⟩
      obtain ⟨r0, r1, r2, r3, r4, r5, r6⟩ := R
      clear PB OQ SQ SQ2 BQ
      go_wp2_with fail
      generalize (((wr.setCell ⟨w.heap.size + 1, 0, none⟩ (.int .i64 ep)).setCell ⟨w.heap.size + 1, 1, none⟩ (.int .i64 u)).setCell ⟨w.heap.size + 1, 2, none⟩ (.slice ao TL.length co)) = wq at *
      obtain ⟨q0, q1, q2, q3, q4, q5, q6⟩ := RQ
      exact bodyPost_ret (v := .tuple #[.agg #[.int .i64 ep, .int .i64 u, .slice ao TL.length co], .slice ac cl.length cc, .slice al ll.length cl']) (by simp (maxDischargeDepth := 6) [results, Try.results9, go_sem, q1, q2, q3]) rfl ⟨_, _, _, _, _, _, rfl, KZ.out⟩
end Go.Proofs.Ytlaladalnbdhpaa
